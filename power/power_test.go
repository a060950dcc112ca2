package power_test

import (
	"fmt"
	"math/rand"
	"slices"
	"testing"

	"fedchat/api"
	"fedchat/graph"
	"fedchat/num"
	. "fedchat/power"
	"fedchat/store"
)

func member(id int, sender, key string, n int, auth ...int) api.Event {
	return api.Event{Id: id, Kind: api.KMember, Sender: sender, Key: key, Content: api.Content{N: n}, Auth: auth}
}

// example is the room of the chapter's examples.
func example() []api.Event {
	l := []api.Event{
		{Id: 1, Kind: api.KCreate, Sender: "@a:x"},
		member(2, "@a:x", "@a:x", api.Join, 1),
		{Id: 3, Kind: api.KPower, Sender: "@a:x", Auth: []int{1, 2}, Content: api.Content{Levels: api.Levels{Users: []api.Level{{User: "@a:x", N: 100}, {User: "@b:x", N: 50}}}}},
		member(4, "@b:x", "@b:x", api.Join, 1, 3),
		{Id: 5, Kind: api.KRules, Sender: "@b:x", Auth: []int{1, 3, 4}, Time: 1},
		member(6, "@a:x", "@c:y", api.Ban, 1, 2, 3),
	}
	l[5].Time = 9
	return l
}

func TestIs(t *testing.T) {
	for _, c := range []struct {
		e    api.Event
		want bool
	}{
		{api.Event{Kind: api.KPower}, true}, {api.Event{Kind: api.KRules, Key: "k"}, true}, {api.Event{Kind: api.KCreate}, false}, {api.Event{Kind: api.KName}, false}, {api.Event{Kind: api.KAccess}, false}, {api.Event{Kind: api.KMessage}, false}, {api.Event{Kind: 77, Content: api.Content{N: api.Ban}, Key: "k"}, false},
		{member(1, "a", "b", api.Ban), true}, {member(1, "a", "b", api.Leave), true}, {member(1, "a", "a", api.Ban), false}, {member(1, "a", "a", api.Leave), false}, {member(1, "a", "", api.Leave), true},
		{member(1, "a", "b", api.Invite), false}, {member(1, "a", "b", api.Join), false}, {member(1, "a", "b", api.Knock), false}, {member(1, "a", "b", -1), false},
	} {
		if Is(c.e) != c.want {
			t.Errorf("Is of %v", c.e)
		}
	}
	for i, want := range []bool{false, false, true, false, true, true} {
		if Is(example()[i]) != want {
			t.Errorf("Is of the event %d", i+1)
		}
	}
}

func TestExamples(t *testing.T) {
	l := example()
	if got := fmt.Sprint(Set(l, []int{4, 5, 6, 99}), Set(l, []int{1, 2, 4}), Set(l, []int{6, 5, 5}), Set(l, nil)); got != "[4 5 6] [] [5 6] []" {
		t.Error("Set", got)
	}
	if got := fmt.Sprint(Sender(l, l[4]), Sender(l, l[5]), Sender(l, l[0]), Sender(nil, l[4])); got != "50 100 0 0" {
		t.Error("Sender", got)
	}
	if got := fmt.Sprint(Order(l, []int{4, 5, 6}), Order(l, []int{6, 5, 4, 4, 77}), Order(l, nil)); got != "[6 4 5] [6 4 5] []" {
		t.Error("Order", got)
	}
}

func TestEqualLevelsAndTimes(t *testing.T) {
	l := []api.Event{{Id: 5, Time: 2}, {Id: 4, Time: 2}, {Id: 9, Time: 1}, {Id: 2, Time: 3}}
	if got := Order(l, []int{2, 4, 5, 9}); !slices.Equal(got, []int{9, 4, 5, 2}) {
		t.Error(got)
	}
}

func TestCycles(t *testing.T) {
	l := []api.Event{{Id: 1, Auth: []int{2}}, {Id: 2, Auth: []int{1}}, {Id: 3}, {Id: 4, Auth: []int{4}}, {Id: 5, Auth: []int{2}}}
	if got := Order(l, []int{1, 2, 3, 4, 5}); !slices.Equal(got, []int{3}) {
		t.Error(got)
	}
	// The rest of a cycle does not matter if it is not among the ids: but 1 stands in its own chain.
	if got := Order(l, []int{1, 5, 3}); !slices.Equal(got, []int{3}) {
		t.Error(got)
	}
	if got := Order(l, []int{5, 3}); !slices.Equal(got, []int{3, 5}) {
		t.Error(got)
	}
}

// orderAsWritten places one id after the other, as the chapter says.
func orderAsWritten(l []api.Event, ids []int) []int {
	left := []int{}
	for _, id := range num.Sorted(ids) {
		if _, ok := store.Get(l, id); ok {
			left = append(left, id)
		}
	}
	order := []int{}
	for {
		best := -1
		var chosen api.Event
		for _, id := range left {
			e, _ := store.Get(l, id)
			if slices.ContainsFunc(graph.Chain(l, []int{id}), func(x int) bool { return num.Has(left, x) }) {
				continue
			}
			level, top := Sender(l, e), Sender(l, chosen)
			if best < 0 || level > top || level == top && e.Time < chosen.Time {
				best, chosen = id, e
			}
		}
		if best < 0 {
			return order
		}
		order = append(order, best)
		left = num.Minus(left, []int{best})
	}
}

func randomEvents(source *rand.Rand, cycles bool) []api.Event {
	users := []string{"@a:x", "@b:x", "@c:x"}
	l := []api.Event{{Id: 0, Kind: api.KCreate, Sender: "@a:x", Depth: 1}}
	for id := 1; id < 9; id++ {
		e := api.Event{Id: id, Kind: api.KMember, Sender: users[source.Intn(3)], Key: users[source.Intn(3)], Time: source.Intn(3), Depth: id + 1, Prev: []int{id - 1}}
		e.Content.N = source.Intn(5)
		if source.Intn(3) == 0 {
			e.Kind, e.Key = api.KPower, ""
			e.Content.Levels.Users = []api.Level{{User: "@b:x", N: source.Intn(200)}, {User: "@c:x", N: source.Intn(3)}}
		}
		for a := range 9 {
			if source.Intn(4) == 0 && (a < id || cycles) {
				e.Auth = append(e.Auth, a)
			}
		}
		l = append(l, e)
	}
	return l
}

func TestFollowsTheDefinitions(t *testing.T) {
	source := rand.New(rand.NewSource(1))
	for i := range 2000 {
		l := randomEvents(source, i%4 == 0)
		ids := []int{}
		for range source.Intn(9) {
			ids = append(ids, source.Intn(11))
		}
		got := Order(l, ids)
		if want := orderAsWritten(l, ids); !slices.Equal(got, want) {
			t.Fatal("Order", l, ids, got, want)
		}
		set := Set(l, ids)
		want := []int{}
		for _, id := range num.Sorted(ids) {
			e, known := store.Get(l, id)
			inChain := slices.ContainsFunc(ids, func(p int) bool {
				x, ok := store.Get(l, p)
				return ok && Is(x) && num.Has(graph.Chain(l, []int{p}), id)
			})
			if known && (Is(e) || inChain) {
				want = append(want, id)
			}
		}
		if !slices.Equal(set, want) {
			t.Fatal("Set", l, ids, set, want)
		}
		if !slices.Equal(Set(l, set), set) {
			t.Fatal("Set of its result", l, ids)
		}
	}
}

func TestOrderOfRightDepths(t *testing.T) {
	source := rand.New(rand.NewSource(2))
	for range 1000 {
		l := randomEvents(source, false)
		if graph.Depths(l) != api.OK {
			t.Fatal("wrong depths")
		}
		ids := source.Perm(9)
		order := Order(l, ids)
		if len(order) != 9 || !slices.Equal(order, Order(l, num.Sorted(ids))) {
			t.Fatal("not all ids", order)
		}
		for i, id := range order {
			for _, a := range graph.Chain(l, []int{id}) {
				if slices.Index(order, a) > i {
					t.Fatal("an event stands before one of its chain", order)
				}
			}
		}
	}
}
