package history_test

import (
	"math/rand"
	"slices"
	"testing"

	"fedchat/api"
	"fedchat/graph"
	"fedchat/history"
	"fedchat/replay"
	"fedchat/sample"
	"fedchat/statemap"
	"fedchat/store"
)

func TestOneBookAnswersAllQuestions(t *testing.T) {
	source := rand.New(rand.NewSource(1))
	for range 10 {
		l := sample.Random(source.Intn, 25).Events
		b, right := history.Open(l)
		if !right {
			t.Fatal("no right set")
		}
		for _, i := range source.Perm(len(l)) {
			id := l[i].Id
			before, status := replay.At(l, id)
			if !b.Has(id) || b.Event(id).Id != id || !statemap.Same(b.Before(id), before) || !statemap.Same(b.After(id), replay.After(l, id)) || b.Err(id) != replay.Why(l, id) || (b.Err(id) == api.OK) != (status == api.Accepted) {
				t.Fatal("the page of", id)
			}
			if !store.Same(b.Events(before), statemap.Events(l, before)) {
				t.Fatal("the events of a state")
			}
		}
		if !slices.Equal(b.Accepted(), replay.Accepted(l)) || !slices.Equal(b.Heads(), graph.Heads(l, b.Accepted())) || !statemap.Same(b.Current(), replay.Current(l)) {
			t.Fatal("the whole book")
		}
		if len(b.Events(api.State{{Id: 1}})) != 0 || b.Has(1) {
			t.Fatal("an unknown event")
		}
	}
}

func TestOnlyRightSetsAreOpened(t *testing.T) {
	l := sample.New("!r:a", "@ann:a", api.Public, api.Shared).Events
	if _, right := history.Open(l[1:]); right {
		t.Error("a gap")
	}
	if b, right := history.Open(nil); !right || len(b.Accepted())+len(b.Heads())+len(b.Current()) != 0 {
		t.Error("no events")
	}
}
