package content

import (
	"fedchat/api"
	"fedchat/codec"
)

// Encode returns the canonical bytes of a content.
func Encode(c api.Content) []byte {
	// Each part is encoded for itself, so that the bytes before it need not be copied again.
	b := codec.PutText(nil, c.Text)
	b = append(b, codec.PutInt(nil, c.N)...)
	b = append(b, codec.PutInt(nil, c.Target)...)
	b = append(b, codec.PutBool(nil, c.Thread)...)
	b = append(b, codec.PutText(nil, c.Via)...)
	b = append(b, codec.PutTexts(nil, c.Allow)...)
	b = append(b, codec.PutTexts(nil, c.Deny)...)
	return append(b, encodeLevels(c.Levels)...)
}

func encodeLevels(l api.Levels) []byte {
	b := codec.PutInt(nil, len(l.Users))
	for _, level := range l.Users {
		b = append(b, codec.PutText(nil, level.User)...)
		b = append(b, codec.PutInt(nil, level.N)...)
	}
	b = append(b, codec.PutInt(nil, len(l.Kinds))...)
	for _, level := range l.Kinds {
		b = append(b, codec.PutInt(nil, int(level.Kind))...)
		b = append(b, codec.PutInt(nil, level.N)...)
	}
	for _, n := range numbers(l) {
		b = append(b, codec.PutInt(nil, n)...)
	}
	return b
}

// reader takes values off the beginning of bytes; once it fails, all further values are zero.
type reader struct {
	rest   []byte
	failed bool
}

func take[T any](r *reader, get func(b []byte) (T, []byte, bool)) T {
	var x T
	if r.failed {
		return x
	}
	x, rest, ok := get(r.rest)
	r.rest, r.failed = rest, !ok
	return x
}

// count takes the length of a list, whose elements need at least one byte each.
func (r *reader) count() int {
	n := take(r, codec.GetInt)
	if n < 0 || n > len(r.rest) {
		r.failed = true
		return 0
	}
	return n
}

// Decode returns the content whose canonical bytes b is, and whether there is one.
func Decode(b []byte) (api.Content, bool) {
	r := &reader{rest: b}
	c := api.Content{
		Text:   take(r, codec.GetText),
		N:      take(r, codec.GetInt),
		Target: take(r, codec.GetInt),
		Thread: take(r, codec.GetBool),
		Via:    take(r, codec.GetText),
		Allow:  take(r, codec.GetTexts),
		Deny:   take(r, codec.GetTexts),
		Levels: decodeLevels(r),
	}
	if r.failed || len(r.rest) > 0 {
		return api.Content{}, false
	}
	return c, true
}

func decodeLevels(r *reader) api.Levels {
	l := api.Levels{}
	for range r.count() {
		l.Users = append(l.Users, api.Level{User: take(r, codec.GetText), N: take(r, codec.GetInt)})
		if r.failed {
			return api.Levels{}
		}
	}
	for range r.count() {
		l.Kinds = append(l.Kinds, api.KindLevel{Kind: api.Kind(take(r, codec.GetInt)), N: take(r, codec.GetInt)})
		if r.failed {
			return api.Levels{}
		}
	}
	for _, n := range []*int{&l.User, &l.Message, &l.State, &l.Invite, &l.Kick, &l.Ban, &l.Redact} {
		*n = take(r, codec.GetInt)
	}
	return l
}
