package content

import (
	"fedchat/api"
	"fedchat/codec"
	"fedchat/reader"
)

// Encode returns the canonical bytes of a content.
func Encode(c api.Content) []byte {
	// Each part is encoded for itself, so that the bytes before it need not be copied again.
	b := codec.PutText(nil, c.Text)
	b = append(b, codec.PutInt(nil, c.N)...)
	b = append(b, codec.PutInt(nil, c.Target)...)
	b = append(b, codec.PutBool(nil, c.Thread)...)
	b = append(b, codec.PutText(nil, c.Via)...)
	b = append(b, codec.PutTexts(nil, c.Allow)...)
	b = append(b, codec.PutTexts(nil, c.Deny)...)
	return append(b, encodeLevels(c.Levels)...)
}

func encodeLevels(l api.Levels) []byte {
	b := codec.PutInt(nil, len(l.Users))
	for _, level := range l.Users {
		b = append(b, codec.PutText(nil, level.User)...)
		b = append(b, codec.PutInt(nil, level.N)...)
	}
	b = append(b, codec.PutInt(nil, len(l.Kinds))...)
	for _, level := range l.Kinds {
		b = append(b, codec.PutInt(nil, int(level.Kind))...)
		b = append(b, codec.PutInt(nil, level.N)...)
	}
	for _, n := range numbers(l) {
		b = append(b, codec.PutInt(nil, n)...)
	}
	return b
}

// count takes the length of a list, whose elements need at least one byte each.
func count(r *reader.Reader) int {
	n := reader.Take(r, codec.GetInt)
	if n < 0 || n > len(r.Rest) {
		r.Failed = true
		return 0
	}
	return n
}

// Decode returns the content whose canonical bytes b is, and whether there is one.
func Decode(b []byte) (api.Content, bool) {
	r := &reader.Reader{Rest: b}
	c := api.Content{
		Text:   reader.Take(r, codec.GetText),
		N:      reader.Take(r, codec.GetInt),
		Target: reader.Take(r, codec.GetInt),
		Thread: reader.Take(r, codec.GetBool),
		Via:    reader.Take(r, codec.GetText),
		Allow:  reader.Take(r, codec.GetTexts),
		Deny:   reader.Take(r, codec.GetTexts),
		Levels: decodeLevels(r),
	}
	if !r.Ended() {
		return api.Content{}, false
	}
	return c, true
}

func decodeLevels(r *reader.Reader) api.Levels {
	l := api.Levels{}
	for range count(r) {
		l.Users = append(l.Users, api.Level{User: reader.Take(r, codec.GetText), N: reader.Take(r, codec.GetInt)})
		if r.Failed {
			return api.Levels{}
		}
	}
	for range count(r) {
		l.Kinds = append(l.Kinds, api.KindLevel{Kind: api.Kind(reader.Take(r, codec.GetInt)), N: reader.Take(r, codec.GetInt)})
		if r.Failed {
			return api.Levels{}
		}
	}
	for _, n := range []*int{&l.User, &l.Message, &l.State, &l.Invite, &l.Kick, &l.Ban, &l.Redact} {
		*n = reader.Take(r, codec.GetInt)
	}
	return l
}
