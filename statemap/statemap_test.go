package statemap_test

import (
	"math/rand"
	"slices"
	"strings"
	"testing"

	"fedchat/api"
	. "fedchat/statemap"
)

func entry(k api.Kind, key string, id int) api.Entry {
	return api.Entry{Kind: k, Key: key, Id: id}
}

func TestCheck(t *testing.T) {
	long := api.State{}
	for i := range api.MaxEvents {
		long = append(long, entry(api.KMember, strings.Repeat("a", i), i))
	}
	for name, c := range map[string]struct {
		s    api.State
		want api.Errno
	}{
		"empty":             {nil, api.OK},
		"two kinds":         {api.State{entry(1, "z", 0), entry(2, "a", 5)}, api.OK},
		"two keys":          {api.State{entry(2, "", 0), entry(2, "\x00", 0), entry(2, "a", 5)}, api.OK},
		"kinds in disorder": {api.State{entry(2, "a", 0), entry(1, "b", 0)}, api.ErrOrder},
		"keys in disorder":  {api.State{entry(2, "b", 0), entry(2, "a", 0)}, api.ErrOrder},
		"twice":             {api.State{entry(2, "b", 0), entry(2, "b", 1)}, api.ErrOrder},
		"kind 0":            {api.State{entry(0, "", 0)}, api.ErrArg},
		"message":           {api.State{entry(api.KMessage, "", 0)}, api.ErrArg},
		"the last kind":     {api.State{entry(api.KCrypt, "", 0)}, api.OK},
		"negative":          {api.State{entry(1, "", -1)}, api.ErrArg},
		"order first":       {api.State{entry(2, "", -1), entry(1, "", 0)}, api.ErrOrder},
		"long":              {long, api.OK},
		"too long":          {append(slices.Clone(long), entry(3, "", 1)), api.ErrLong},
		"argument first":    {append(slices.Clone(long), entry(3, "", -1)), api.ErrArg},
	} {
		if got := Check(c.s); got != c.want {
			t.Errorf("%s: %d, want %d", name, got, c.want)
		}
	}
}

// random returns a state whose entries precede each other.
func random(source *rand.Rand) api.State {
	m := map[api.Entry]int{}
	for range source.Intn(7) {
		m[entry(api.Kind(source.Intn(4)), []string{"", "a", "b", "\xff"}[source.Intn(4)], 0)] = source.Intn(3)
	}
	s := api.State{}
	for k := range api.Kind(4) {
		for _, key := range []string{"", "a", "b", "\xff"} {
			if id, ok := m[entry(k, key, 0)]; ok {
				s = append(s, entry(k, key, id))
			}
		}
	}
	return s
}

func asMap(s api.State) map[api.Entry]int {
	m := map[api.Entry]int{}
	for _, e := range s {
		m[entry(e.Kind, e.Key, 0)] = e.Id
	}
	return m
}

func ordered(s api.State) bool {
	return Check(slices.DeleteFunc(slices.Clone(s), func(e api.Entry) bool { return false })) != api.ErrOrder
}

func TestGetAndSet(t *testing.T) {
	source := rand.New(rand.NewSource(1))
	for range 3000 {
		s := random(source)
		old := slices.Clone(s)
		k, key, id := api.Kind(source.Intn(5)), []string{"", "a", "b", "c"}[source.Intn(4)], source.Intn(9)-4
		want, known := asMap(s)[entry(k, key, 0)]
		if got, ok := Get(s, k, key); got != want || ok != known {
			t.Fatal("Get", s, k, key, got, ok)
		}
		next := Set(s, k, key, id)
		changed := asMap(s)
		changed[entry(k, key, 0)] = id
		if len(next) != len(changed) || !ordered(next) {
			t.Fatal("Set", s, next)
		}
		for _, e := range next {
			if changed[entry(e.Kind, e.Key, 0)] != e.Id {
				t.Fatal("Set changes another entry", s, next)
			}
		}
		next[0].Id = 77
		if !Same(s, old) {
			t.Fatal("Set changes its argument")
		}
	}
}

func TestSetOfTheExample(t *testing.T) {
	a := api.State{entry(api.KCreate, "", 5), entry(api.KMember, "@u:s", 7)}
	if got := Set(a, api.KMember, "@t:s", 8); !Same(got, api.State{a[0], entry(api.KMember, "@t:s", 8), a[1]}) {
		t.Error(got)
	}
}

func TestSame(t *testing.T) {
	a := api.State{entry(1, "", 5)}
	if !Same(nil, api.State{}) || !Same(a, slices.Clone(a)) || Same(a, nil) || Same(a, api.State{entry(1, "", 6)}) || Same(a, api.State{entry(1, "a", 5)}) || Same(a, api.State{entry(2, "", 5)}) {
		t.Error("Same")
	}
}

func TestSplit(t *testing.T) {
	a := api.State{entry(api.KCreate, "", 5), entry(api.KMember, "@u:s", 7)}
	b := api.State{entry(api.KCreate, "", 5), entry(api.KMember, "@u:s", 9)}
	if common, others := Split([]api.State{a, b}); !Same(common, a[:1]) || !slices.Equal(others, []int{7, 9}) {
		t.Error("the example", common, others)
	}
	if common, others := Split(nil); len(common)+len(others) != 0 {
		t.Error("no states", common, others)
	}
	if common, others := Split([]api.State{a}); !Same(common, a) || len(others) != 0 {
		t.Error("one state", common, others)
	}
	if common, others := Split([]api.State{a, nil}); len(common) != 0 || !slices.Equal(others, []int{5, 7}) {
		t.Error("an empty state", common, others)
	}
}

func TestSplitFollowsTheDefinition(t *testing.T) {
	source := rand.New(rand.NewSource(2))
	for range 3000 {
		l := []api.State{}
		for range 1 + source.Intn(3) {
			s := random(source)
			if len(l) > 0 && source.Intn(2) == 0 {
				s = Set(l[0], 1, "a", source.Intn(3))
			}
			l = append(l, s)
		}
		common, others := api.State{}, []int{}
		for _, s := range l {
			for _, e := range s {
				everywhere := !slices.ContainsFunc(l, func(s api.State) bool { return !slices.Contains(s, e) })
				if everywhere && !slices.Contains(common, e) {
					common = append(common, e)
				}
				if !everywhere {
					others = append(others, e.Id)
				}
			}
		}
		slices.Sort(others)
		source.Shuffle(len(l), func(i, j int) { l[i], l[j] = l[j], l[i] })
		if gotCommon, gotOthers := Split(l); !Same(gotCommon, common) || !slices.Equal(gotOthers, slices.Compact(others)) {
			t.Fatal("Split", l, gotCommon, gotOthers)
		}
	}
}

func TestDiff(t *testing.T) {
	source := rand.New(rand.NewSource(3))
	for range 3000 {
		a, b := random(source), random(source)
		diff := Diff(a, b)
		want := slices.DeleteFunc(slices.Clone(b), func(e api.Entry) bool { return slices.Contains(a, e) })
		if !Same(diff, want) {
			t.Fatal("Diff", a, b, diff)
		}
		for _, e := range diff {
			a = Set(a, e.Kind, e.Key, e.Id)
		}
		for _, e := range b {
			if id, ok := Get(a, e.Kind, e.Key); !ok || id != e.Id {
				t.Fatal("an entry is missing", a, b)
			}
		}
	}
}

func TestEvents(t *testing.T) {
	l := []api.Event{{Id: 3, Time: 1}, {Id: 9}, {Id: 3, Time: 2}, {Id: 5}}
	got := Events(l, api.State{entry(1, "", 5), entry(2, "", 4), entry(2, "a", 3), entry(3, "", 3)})
	if len(got) != 3 || got[0].Id != 5 || got[1].Time != 1 || got[2].Time != 1 {
		t.Error(got)
	}
	if len(Events(nil, nil)) != 0 || len(Events(l, nil)) != 0 {
		t.Error("nothing")
	}
}

func TestOf(t *testing.T) {
	l := []api.Event{{Kind: api.KName, Id: 4}, {Kind: api.KMember, Key: "b", Id: -1}, {Kind: api.KMessage, Id: 9, State: true}, {Kind: 0, Id: 8}, {Kind: api.KMember, Key: "a", Id: 2}, {Kind: api.KName, Id: 3}, {Kind: api.KCrypt, Key: "x", Id: 1}}
	want := api.State{entry(api.KMember, "a", 2), entry(api.KMember, "b", -1), entry(api.KName, "", 3), entry(api.KCrypt, "x", 1)}
	if got := Of(l); !Same(got, want) {
		t.Error(got)
	}
	if len(Of(nil)) != 0 {
		t.Error("nothing")
	}
}

func TestResultsAreNewMemory(t *testing.T) {
	a := api.State{entry(1, "", 5), entry(2, "", 6)}
	common, _ := Split([]api.State{a, a})
	for _, s := range []api.State{common, Set(a, 1, "", 5), Diff(nil, a)} {
		s[0].Id = 99
	}
	if a[0].Id != 5 {
		t.Error("a result shares memory with an argument")
	}
}
