package sample

import (
	"math/rand"
	"testing"

	"fedchat/api"
	"fedchat/graph"
	"fedchat/history"
	"fedchat/store"
)

func TestRandomRoomsAreRightSets(t *testing.T) {
	source := rand.New(rand.NewSource(1))
	errors := map[api.Errno]int{}
	forks := 0
	for range 60 {
		r := Random(source.Intn, 40)
		if err := store.Check(r.Events); err != api.OK {
			t.Fatal("no set", err)
		}
		if err := graph.Depths(r.Events); err != api.OK {
			t.Fatal("wrong depths", err)
		}
		b, _ := history.Open(r.Events)
		for _, e := range r.Events {
			errors[b.Err(e.Id)]++
			if len(e.Prev) > 1 {
				forks++
			}
		}
	}
	for _, err := range []api.Errno{api.OK, api.ErrAuth, api.ErrMember, api.ErrBanned, api.ErrLevel, api.ErrRule} {
		if errors[err] == 0 {
			t.Errorf("no event has the error %d: %v", err, errors)
		}
	}
	if forks == 0 {
		t.Error("no event joins branches")
	}
	t.Log(errors, forks)
}
