package unread

import (
	"slices"
	"testing"

	"fedchat/api"
	"fedchat/sample"
	"fedchat/sight"
	"fedchat/store"
)

func TestMessages(t *testing.T) {
	s := sample.New("!r:a", "@ann:a", api.Public, api.World)
	first := s.Add("@ann:a", api.KMessage, "", api.Content{Text: "one"}, 0)
	second := s.Add("@ann:a", api.KMessage, "", api.Content{Text: "two"}, 0)
	r := sample.InOrder(s)
	if Place(r, api.Receipt{Id: first.Id}, true) != 4 || Place(r, api.Receipt{Id: first.Id}, false) != -1 || Place(r, api.Receipt{Id: 7}, true) != -1 {
		t.Error("Place")
	}
	if got := store.Ids(Messages(sight.Open(r), -1, "@bob:b")); !slices.Equal(got, []int{first.Id, second.Id}) {
		t.Error("all messages", got)
	}
	if got := store.Ids(Messages(sight.Open(r), 4, "@bob:b")); !slices.Equal(got, []int{second.Id}) || len(Messages(sight.Open(r), -1, "@ann:a")) != 0 {
		t.Error("behind a place", got)
	}
}
