package conflict_test

import (
	"fmt"
	"math/rand"
	"slices"
	"testing"

	"fedchat/api"
	. "fedchat/conflict"
	"fedchat/graph"
	"fedchat/num"
)

func entry(k api.Kind, key string, id int) api.Entry {
	return api.Entry{Kind: k, Key: key, Id: id}
}

// events: 1 create, 2 join of a, 3 join of b, 4 name by a, 5 name by b.
func events() []api.Event {
	return []api.Event{{Id: 1}, {Id: 2, Auth: []int{1}}, {Id: 3, Auth: []int{1}}, {Id: 4, Auth: []int{1, 2}}, {Id: 5, Auth: []int{1, 3}}}
}

func TestExamples(t *testing.T) {
	base := api.State{entry(api.KCreate, "", 1), entry(api.KMember, "a", 2)}
	first := append(slices.Clone(base), entry(api.KName, "", 4))
	second := append(slices.Clone(base), entry(api.KMember, "b", 3), entry(api.KName, "", 5))
	for _, c := range []struct {
		states     []api.State
		full, diff string
	}{
		{nil, "[]", "[]"}, {[]api.State{first}, "[]", "[]"}, {[]api.State{first, first}, "[]", "[]"}, {[]api.State{nil, nil}, "[]", "[]"},
		{[]api.State{first, second}, "[3 4 5]", "[3 4 5]"},
		{[]api.State{base, first}, "[4]", "[4]"},
		{[]api.State{nil, first}, "[1 2 4]", "[1 2 4]"},
		{[]api.State{first, append(slices.Clone(base), entry(api.KName, "", 5))}, "[3 4 5]", "[3 4 5]"},
	} {
		if got := fmt.Sprint(Full(events(), c.states)); got != c.full {
			t.Errorf("Full of %v is %s", c.states, got)
		}
		if got := fmt.Sprint(Difference(events(), c.states)); got != c.diff {
			t.Errorf("Difference of %v is %s", c.states, got)
		}
	}
}

func TestConflictedIdInAllClosures(t *testing.T) {
	// The entry 2 is in the chain of the other state's entry, so only Full has it.
	a := api.State{entry(api.KMember, "a", 2)}
	b := api.State{entry(api.KMember, "a", 4)}
	if got := fmt.Sprint(Full(events(), []api.State{a, b}), Difference(events(), []api.State{a, b})); got != "[2 4] [4]" {
		t.Error(got)
	}
	if got := fmt.Sprint(Full(nil, []api.State{a, b}), Difference(nil, []api.State{a, b})); got != "[2 4] [2 4]" {
		t.Error("unknown events", got)
	}
}

func randomStates(source *rand.Rand) ([]api.Event, []api.State) {
	l := []api.Event{}
	for id := 1; id < 10; id++ {
		e := api.Event{Id: id}
		for a := 1; a < id; a++ {
			if source.Intn(4) == 0 {
				e.Auth = append(e.Auth, a)
			}
		}
		l = append(l, e)
	}
	states := []api.State{}
	for range source.Intn(4) {
		s := api.State{}
		for _, key := range []string{"a", "b", "c"} {
			if source.Intn(3) > 0 {
				s = append(s, entry(api.KMember, key, 1+source.Intn(10)))
			}
		}
		states = append(states, s)
	}
	return l, states
}

func TestFollowsTheDefinition(t *testing.T) {
	source := rand.New(rand.NewSource(1))
	for range 3000 {
		l, states := randomStates(source)
		closures := [][]int{}
		for _, s := range states {
			ids := []int{}
			for _, e := range s {
				ids = append(ids, e.Id)
			}
			closures = append(closures, num.Union(ids, graph.Chain(l, ids)))
		}
		diff, full := []int{}, []int{}
		for id := 0; id < 12; id++ {
			some, all, split := false, true, false
			for i, s := range states {
				some = some || num.Has(closures[i], id)
				all = all && num.Has(closures[i], id)
				for _, e := range s {
					split = split || e.Id == id && slices.ContainsFunc(states, func(other api.State) bool { return !slices.Contains(other, e) })
				}
			}
			if some && !all {
				diff = append(diff, id)
			}
			if some && !all || split {
				full = append(full, id)
			}
		}
		if got := Difference(l, states); !slices.Equal(got, diff) {
			t.Fatal("Difference", l, states, got, diff)
		}
		if got := Full(l, states); !slices.Equal(got, full) {
			t.Fatal("Full", l, states, got, full)
		}
		more := slices.Concat(states, states[:len(states)/2])
		source.Shuffle(len(more), func(i, j int) { more[i], more[j] = more[j], more[i] })
		if !slices.Equal(Full(l, more), full) || !slices.Equal(Difference(l, more), diff) {
			t.Fatal("order or number matters", l, states)
		}
	}
}
