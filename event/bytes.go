package event

import (
	"fedchat/api"
	"fedchat/codec"
	"fedchat/content"
	"fedchat/reader"
)

// writer appends encodings to its bytes.
type writer struct{ b []byte }

func (w *writer) number(n int)       { w.b = append(w.b, codec.PutInt(nil, n)...) }
func (w *writer) text(s string)      { w.b = append(w.b, codec.PutText(nil, s)...) }
func (w *writer) flag(is bool)       { w.b = append(w.b, codec.PutBool(nil, is)...) }
func (w *writer) references(l []int) { w.b = append(w.b, codec.PutInts(nil, l)...) }

func put[T any](write func(x T), values ...T) {
	for _, x := range values {
		write(x)
	}
}

// Encode returns the canonical bytes of an event.
func Encode(e api.Event) []byte {
	w := &writer{}
	put(w.number, e.Id)
	put(w.text, e.Room, e.Sender)
	put(w.number, int(e.Kind))
	put(w.flag, e.State)
	put(w.text, e.Key)
	put(w.number, e.Time, e.Depth)
	put(w.references, e.Prev, e.Auth)
	put(w.text, string(content.Encode(e.Content)))
	put(w.number, e.Hash)
	put(w.text, e.Sig.Server)
	put(w.number, e.Sig.Sum)
	return w.b
}

func takeContent(r *reader.Reader) api.Content {
	c, ok := content.Decode([]byte(reader.Take(r, codec.GetText)))
	if !ok {
		r.Failed = true
	}
	return c
}

// Decode returns the event whose canonical bytes b is, and whether there is one.
func Decode(b []byte) (api.Event, bool) {
	r := &reader.Reader{Rest: b}
	e := api.Event{
		Id:      reader.Take(r, codec.GetInt),
		Room:    reader.Take(r, codec.GetText),
		Sender:  reader.Take(r, codec.GetText),
		Kind:    api.Kind(reader.Take(r, codec.GetInt)),
		State:   reader.Take(r, codec.GetBool),
		Key:     reader.Take(r, codec.GetText),
		Time:    reader.Take(r, codec.GetInt),
		Depth:   reader.Take(r, codec.GetInt),
		Prev:    reader.Take(r, codec.GetInts),
		Auth:    reader.Take(r, codec.GetInts),
		Content: takeContent(r),
		Hash:    reader.Take(r, codec.GetInt),
		Sig:     api.Sig{Server: reader.Take(r, codec.GetText), Sum: reader.Take(r, codec.GetInt)},
	}
	if !r.Ended() {
		return api.Event{}, false
	}
	return e, true
}
