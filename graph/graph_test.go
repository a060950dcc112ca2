package graph_test

import (
	"fmt"
	"math"
	"math/rand"
	"slices"
	"testing"

	"fedchat/api"
	. "fedchat/graph"
)

func node(id, depth int, prev, auth []int) api.Event {
	return api.Event{Id: id, Depth: depth, Prev: prev, Auth: auth}
}

// diamond is the graph of the chapter's examples.
func diamond() []api.Event {
	return []api.Event{node(1, 1, nil, nil), node(2, 2, []int{1}, []int{1}), node(3, 2, []int{1}, []int{1}), node(4, 3, []int{2, 3}, []int{1, 2})}
}

func same(t *testing.T, name string, got []int, want ...int) {
	t.Helper()
	if !slices.Equal(got, want) {
		t.Errorf("%s is %v, want %v", name, got, want)
	}
}

func TestExamples(t *testing.T) {
	l := diamond()
	same(t, "Heads of three", Heads(l, []int{1, 2, 3}), 2, 3)
	same(t, "Heads of all", Heads(l, []int{4, 3, 2, 1}), 4)
	same(t, "Ancestors", Ancestors(l, []int{4}), 1, 2, 3, 4)
	same(t, "Chain", Chain(l, []int{4}), 1, 2)
	same(t, "Order", Order(l), 1, 2, 3, 4)
	same(t, "Roots", Roots(l), 1)
	if Before(l, 2, 3) || !Before(l, 1, 4) || Before(l, 4, 1) || Before(l, 4, 4) {
		t.Error("Before")
	}
	if !Closed(l) || Depths(l) != api.OK {
		t.Error("Closed or Depths")
	}
	without := []api.Event{l[0], l[1], l[3]}
	if Closed(without) || Depths(without) != api.ErrGap {
		t.Error("without 3")
	}
	l[3].Depth = 4
	if Depths(l) != api.ErrCycle {
		t.Error("a wrong depth")
	}
}

func TestUnknownIds(t *testing.T) {
	l := diamond()
	same(t, "Heads", Heads(l, []int{9, 1, 9, 2}), 2, 9)
	same(t, "Heads without events", Heads(nil, []int{3, 3, 1}), 1, 3)
	same(t, "Ancestors", Ancestors(l, []int{9, 2}), 1, 2)
	same(t, "Chain", Chain(l, []int{9, 2}), 1)
	same(t, "nothing", slices.Concat(Heads(l, nil), Ancestors(l, nil), Chain(l, nil), Order(nil), Roots(nil)))
	if Before(l, 9, 4) || Before(l, 1, 9) || Before(l, 9, 9) {
		t.Error("Before")
	}
	gap := []api.Event{node(5, 2, []int{9}, []int{8})}
	same(t, "Ancestors of a gap", Ancestors(gap, []int{5}), 5)
	same(t, "Chain of a gap", Chain(gap, []int{5}))
	same(t, "Heads with an unknown Prev", Heads(gap, []int{5, 9}), 5)
	if Closed(gap) || Closed([]api.Event{node(5, 1, nil, []int{8})}) || !Closed(nil) {
		t.Error("Closed")
	}
}

func TestCycles(t *testing.T) {
	l := []api.Event{node(1, 1, []int{3}, []int{1}), node(2, 1, []int{1}, []int{1, 3}), node(3, 1, []int{2}, nil), node(4, 1, []int{4}, []int{4})}
	same(t, "Ancestors", Ancestors(l, []int{2}), 1, 2, 3)
	same(t, "Chain of 2", Chain(l, []int{2}), 1, 3)
	same(t, "Chain of 1", Chain(l, []int{1}), 1)
	same(t, "Chain of 3", Chain(l, []int{3}))
	same(t, "Heads", Heads(l, []int{1, 2, 3, 4}), 4)
	same(t, "Roots", Roots(l))
	if Before(l, 4, 4) || !Before(l, 1, 3) || !Before(l, 3, 1) {
		t.Error("Before")
	}
}

func TestFirstEventOfAnIdCounts(t *testing.T) {
	l := []api.Event{node(1, 1, nil, nil), node(2, 2, []int{1}, nil), node(2, 7, nil, []int{1}), node(3, 3, []int{2}, []int{2})}
	same(t, "Ancestors", Ancestors(l, []int{3}), 1, 2, 3)
	same(t, "Chain", Chain(l, []int{3}), 2)
	same(t, "Heads", Heads(l, []int{1, 2}), 2)
	same(t, "Order", Order(l), 1, 2, 3, 2)
}

func TestDepths(t *testing.T) {
	for name, c := range map[string]struct {
		l    []api.Event
		want api.Errno
	}{
		"nothing":               {nil, api.OK},
		"a root":                {[]api.Event{node(1, 1, nil, nil)}, api.OK},
		"a deep root":           {[]api.Event{node(1, 2, nil, nil)}, api.ErrCycle},
		"a gap and a deep root": {[]api.Event{node(1, 2, nil, []int{7})}, api.ErrGap},
		"the greatest prev":     {append(diamond(), node(5, 4, []int{1, 4}, nil)), api.OK},
		"the least prev":        {append(diamond(), node(5, 2, []int{1, 4}, nil)), api.ErrCycle},
		"auth as deep":          {append(diamond(), node(5, 3, []int{2}, []int{4})), api.ErrCycle},
		"auth less deep":        {append(diamond(), node(5, 3, []int{2}, []int{2, 3})), api.OK},
		"the last auth as deep": {append(diamond(), node(5, 2, []int{1}, []int{1, 3})), api.ErrCycle},
		"itself":                {[]api.Event{node(1, 1, []int{1}, nil)}, api.ErrCycle},
		"no number is greater":  {[]api.Event{node(1, math.MaxInt, []int{1}, nil), node(2, math.MinInt, []int{1}, nil)}, api.ErrCycle},
		"a root with deep auth": {append(diamond(), node(5, 1, nil, []int{1})), api.ErrCycle},
		"negative depths":       {[]api.Event{node(1, -3, []int{2}, nil), node(2, -4, []int{2}, nil)}, api.ErrCycle},
	} {
		if got := Depths(c.l); got != c.want {
			t.Errorf("%s: %d, want %d", name, got, c.want)
		}
	}
}

func sortedKeys(m map[int]bool) []int {
	keys := []int{}
	for id := range m {
		keys = append(keys, id)
	}
	slices.Sort(keys)
	return keys
}

// slowly repeats single steps until nothing new is reached.
func slowly(l []api.Event, ids []int, refs func(e api.Event) []int) map[int]bool {
	known := func(id int) (api.Event, bool) {
		for _, e := range l {
			if e.Id == id {
				return e, true
			}
		}
		return api.Event{}, false
	}
	found := map[int]bool{}
	for range len(l) + 1 {
		next := []int{}
		for _, id := range ids {
			if e, ok := known(id); ok {
				next = append(next, refs(e)...)
			}
		}
		for id := range found {
			e, _ := known(id)
			next = append(next, refs(e)...)
		}
		for _, id := range next {
			if _, ok := known(id); ok {
				found[id] = true
			}
		}
	}
	return found
}

func randomGraph(source *rand.Rand) []api.Event {
	ids := func() []int {
		l := make([]int, source.Intn(3))
		for i := range l {
			l[i] = source.Intn(8)
		}
		return l
	}
	l := make([]api.Event, source.Intn(8))
	for i := range l {
		l[i] = node(source.Intn(7), source.Intn(4), ids(), ids())
	}
	return l
}

func TestFollowsTheDefinitions(t *testing.T) {
	source := rand.New(rand.NewSource(1))
	for range 5000 {
		l := randomGraph(source)
		ids := make([]int, source.Intn(4))
		for i := range ids {
			ids[i] = source.Intn(8)
		}
		up := slowly(l, ids, func(e api.Event) []int { return e.Prev })
		chain := slowly(l, ids, func(e api.Event) []int { return e.Auth })
		known := map[int]bool{}
		for _, e := range l {
			known[e.Id] = true
		}
		for _, id := range ids {
			if known[id] {
				up[id] = true
			}
		}
		if got := Ancestors(l, ids); fmt.Sprint(got) != fmt.Sprint(sortedKeys(up)) {
			t.Fatal("Ancestors", l, ids, got)
		}
		if got := Chain(l, ids); fmt.Sprint(got) != fmt.Sprint(sortedKeys(chain)) {
			t.Fatal("Chain", l, ids, got)
		}
	}
}

// growing returns a graph with right depths.
func growing(source *rand.Rand, n int) []api.Event {
	l := []api.Event{node(100, 1, nil, nil)}
	for i := 1; i < n; i++ {
		e := node(100-i*7%50, 1, nil, nil)
		for range 1 + source.Intn(3) {
			p := l[source.Intn(len(l))]
			e.Prev = append(e.Prev, p.Id)
			e.Depth = max(e.Depth, p.Depth+1)
		}
		for range source.Intn(3) {
			if a := l[source.Intn(len(l))]; a.Depth < e.Depth {
				e.Auth = append(e.Auth, a.Id)
			}
		}
		l = append(l, e)
	}
	source.Shuffle(len(l), func(i, j int) { l[i], l[j] = l[j], l[i] })
	return l
}

func TestRightDepths(t *testing.T) {
	source := rand.New(rand.NewSource(2))
	for range 300 {
		l := growing(source, 1+source.Intn(20))
		if Depths(l) != api.OK {
			t.Fatal("depths", l)
		}
		order := Order(l)
		depth := map[int]int{}
		for _, e := range l {
			depth[e.Id] = e.Depth
		}
		for i, id := range order {
			if i > 0 && (depth[order[i-1]] > depth[id] || depth[order[i-1]] == depth[id] && order[i-1] >= id) {
				t.Fatal("Order", order)
			}
			for _, before := range slices.Concat(Ancestors(l, []int{id}), Chain(l, []int{id})) {
				if before != id && slices.Index(order, before) > i {
					t.Fatal("an ancestor stands behind", id)
				}
				if Before(l, before, id) && depth[before] >= depth[id] {
					t.Fatal("an ancestor is not less deep", id)
				}
			}
		}
		if got := Ancestors(l, Heads(l, order)); len(got) != len(l) {
			t.Fatal("the ancestors of the heads", got)
		}
		a, b := order[:len(order)/2], order[len(order)/3:]
		both := slices.Concat(a, b)
		if fmt.Sprint(Ancestors(l, both)) != fmt.Sprint(union(Ancestors(l, a), Ancestors(l, b))) || fmt.Sprint(Chain(l, both)) != fmt.Sprint(union(Chain(l, a), Chain(l, b))) {
			t.Fatal("two lists together")
		}
	}
}

func union(a, b []int) []int {
	l := slices.Concat(a, b)
	slices.Sort(l)
	return slices.Compact(l)
}

func TestLongChain(t *testing.T) {
	l := []api.Event{node(0, 1, nil, nil)}
	for i := 1; i < 50000; i++ {
		l = append(l, node(i, i+1, []int{i - 1}, []int{i - 1}))
	}
	if len(Ancestors(l, []int{49999})) != 50000 || len(Chain(l, []int{49999})) != 49999 || Depths(l) != api.OK {
		t.Error("a long chain")
	}
}

func TestHeadsKeepsItsArgument(t *testing.T) {
	ids := []int{3, 1, 2, 1}
	Heads(diamond(), ids)
	if !slices.Equal(ids, []int{3, 1, 2, 1}) {
		t.Error("the argument was changed", ids)
	}
}
