package reader

import (
	"testing"

	"fedchat/codec"
)

func TestTake(t *testing.T) {
	r := &Reader{Rest: codec.PutText(codec.PutInt(nil, 300), "ab")}
	if n := Take(r, codec.GetInt); n != 300 || r.Ended() {
		t.Error("the number", n)
	}
	if s := Take(r, codec.GetText); s != "ab" || !r.Ended() {
		t.Error("the text", s)
	}
	if n := Take(r, codec.GetInt); n != 0 || !r.Failed || r.Ended() {
		t.Error("nothing is left", n)
	}
	r.Rest = []byte{2}
	if n := Take(r, codec.GetInt); n != 0 || len(r.Rest) != 1 {
		t.Error("a value after a failure", n)
	}
}
