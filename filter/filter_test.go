package filter_test

import (
	"fmt"
	"math"
	"math/rand"
	"slices"
	"testing"

	"fedchat/api"
	. "fedchat/filter"
)

type kinds = []api.Kind

func event(id int, k api.Kind, sender, key string) api.Event {
	return api.Event{Id: id, Kind: k, Sender: sender, Key: key, Prev: []int{id}}
}

func idsOf(l []api.Event) string {
	ids := []int{}
	for _, e := range l {
		ids = append(ids, e.Id)
	}
	return fmt.Sprint(ids)
}

func TestCheck(t *testing.T) {
	for i, c := range []struct {
		f    api.Filter
		want api.Errno
	}{
		{api.Filter{Limit: 1}, api.OK}, {api.Filter{Limit: 100, Kinds: kinds{1, 14}, Not: kinds{14, 2}, Senders: []string{"@b:x", "@a:x"}, Lazy: true}, api.OK},
		{api.Filter{Limit: 1, Kinds: kinds{0}}, api.ErrArg}, {api.Filter{Limit: 1, Not: kinds{15}}, api.ErrArg}, {api.Filter{Kinds: kinds{2, 2}, Not: kinds{-1}}, api.ErrArg},
		{api.Filter{Kinds: kinds{2, 3, 2}, Senders: []string{""}}, api.ErrTwice}, {api.Filter{Limit: 1, Not: kinds{2, 2}}, api.ErrTwice},
		{api.Filter{Limit: 1, Senders: []string{"@a:x", "@a:x", "a"}}, api.ErrName}, {api.Filter{Senders: []string{"@a:x", "@b:x", "@a:x"}}, api.ErrTwice},
		{api.Filter{}, api.ErrRange}, {api.Filter{Limit: 101}, api.ErrRange}, {api.Filter{Limit: -1}, api.ErrRange},
	} {
		if got := Check(c.f); got != c.want {
			t.Errorf("%d: %d, want %d", i, got, c.want)
		}
	}
}

func TestWants(t *testing.T) {
	e := event(1, api.KMessage, "@a:x", "")
	for i, c := range []struct {
		f    api.Filter
		want bool
	}{
		{api.Filter{}, true}, {api.Filter{Kinds: kinds{api.KMessage}}, true}, {api.Filter{Kinds: kinds{api.KName}}, false}, {api.Filter{Not: kinds{api.KMessage}}, false}, {api.Filter{Not: kinds{api.KName}}, true}, {api.Filter{Kinds: kinds{api.KMessage}, Not: kinds{api.KMessage}}, false},
		{api.Filter{Senders: []string{"@b:x", "@a:x"}}, true}, {api.Filter{Senders: []string{"@b:x"}}, false}, {api.Filter{Limit: -5}, true},
	} {
		if Wants(c.f, e) != c.want {
			t.Errorf("%d: %t", i, !c.want)
		}
	}
}

func TestCut(t *testing.T) {
	l := []api.Event{event(1, api.KMessage, "a", ""), event(2, api.KName, "a", ""), event(3, api.KMessage, "b", ""), event(4, api.KMessage, "a", "")}
	for i, c := range []struct {
		f    api.Filter
		l    []api.Event
		want string
		more bool
	}{
		{api.Filter{Limit: 2}, l, "[3 4]", true}, {api.Filter{Limit: 4}, l, "[1 2 3 4]", false}, {api.Filter{Limit: math.MaxInt}, l, "[1 2 3 4]", false}, {api.Filter{Limit: 0}, l, "[]", true}, {api.Filter{Limit: -1}, l, "[]", true}, {api.Filter{Limit: -1}, nil, "[]", false},
		{api.Filter{Limit: 2, Kinds: kinds{api.KMessage}}, l, "[3 4]", true}, {api.Filter{Limit: 3, Kinds: kinds{api.KMessage}}, l, "[1 3 4]", false}, {api.Filter{Limit: 1, Senders: []string{"b"}}, l, "[3]", false}, {api.Filter{Limit: 0, Not: kinds{api.KMessage, api.KName}}, l, "[]", false},
	} {
		got, more := Cut(c.f, c.l)
		if idsOf(got) != c.want || more != c.more {
			t.Errorf("%d: %s, %t", i, idsOf(got), more)
		}
	}
	got, _ := Cut(api.Filter{Limit: 9}, l)
	got[0].Prev[0] = 99
	if l[0].Prev[0] != 1 {
		t.Error("the result shares memory with the argument")
	}
}

func TestLazy(t *testing.T) {
	state := []api.Event{event(1, api.KCreate, "a", ""), event(2, api.KMember, "a", "a"), event(3, api.KMember, "a", "b"), event(4, api.KMember, "c", "c"), event(5, api.KName, "z", "")}
	shown := []api.Event{event(9, api.KMessage, "c", ""), event(8, api.KMember, "b", "a")}
	if got := idsOf(Lazy(api.Filter{}, state, shown)); got != "[1 2 3 4 5]" {
		t.Error("not lazy", got)
	}
	if got := idsOf(Lazy(api.Filter{Lazy: true}, state, shown)); got != "[1 3 4 5]" {
		t.Error("lazy", got)
	}
	if got := idsOf(Lazy(api.Filter{Lazy: true}, state, nil)); got != "[1 5]" {
		t.Error("nothing shown", got)
	}
	Lazy(api.Filter{}, state, nil)[0].Prev[0] = 99
	if state[0].Prev[0] != 1 {
		t.Error("the result shares memory with the argument")
	}
}

func TestAnd(t *testing.T) {
	const all = "[1 2 3 4 5 6 7 8 9 10 11 12 13 14]"
	for i, c := range []struct {
		a, b                api.Filter
		kinds, not, senders string
	}{
		{api.Filter{}, api.Filter{}, "[]", "[]", "[]"},
		{api.Filter{Kinds: kinds{3, 1}}, api.Filter{}, "[3 1]", "[]", "[]"}, {api.Filter{}, api.Filter{Kinds: kinds{3, 1}}, "[3 1]", "[]", "[]"}, {api.Filter{Kinds: kinds{5, 3, 1}}, api.Filter{Kinds: kinds{1, 2, 5}}, "[5 1]", "[]", "[]"},
		{api.Filter{Kinds: kinds{5}, Not: kinds{7}}, api.Filter{Kinds: kinds{6}}, all, all, "[]"},
		{api.Filter{Not: kinds{9, 2}}, api.Filter{Not: kinds{3, 2, 1}}, "[]", "[9 2 3 1]", "[]"},
		{api.Filter{Senders: []string{"b", "a"}}, api.Filter{}, "[]", "[]", "[b a]"}, {api.Filter{}, api.Filter{Senders: []string{"b"}}, "[]", "[]", "[b]"}, {api.Filter{Senders: []string{"c", "b", "a"}}, api.Filter{Senders: []string{"a", "c"}}, "[]", "[]", "[c a]"},
		{api.Filter{Senders: []string{"a"}, Kinds: kinds{1}, Not: kinds{2}}, api.Filter{Senders: []string{"b"}}, all, all, "[]"},
		{api.Filter{Senders: []string{"a"}, Kinds: kinds{1}}, api.Filter{Kinds: kinds{2}}, all, all, "[a]"},
		{api.Filter{Senders: []string{"a"}, Kinds: kinds{1}}, api.Filter{Senders: []string{"b"}, Kinds: kinds{2}}, all, all, "[]"},
	} {
		f := And(c.a, c.b)
		if fmt.Sprint(f.Kinds) != c.kinds || fmt.Sprint(f.Not) != c.not || fmt.Sprint(f.Senders) != c.senders {
			t.Errorf("%d: %v", i, f)
		}
	}
	if f := And(api.Filter{Limit: 5, Lazy: true}, api.Filter{Limit: 3}); f.Limit != 3 || !f.Lazy {
		t.Error("the limit", f)
	}
	if f := And(api.Filter{Limit: -5}, api.Filter{Limit: 3}); f.Limit != -5 || f.Lazy {
		t.Error("the limit", f)
	}
}

func random(source *rand.Rand) api.Filter {
	f := api.Filter{Limit: source.Intn(5)}
	for range source.Intn(3) {
		f.Kinds = append(f.Kinds, api.Kind(1+source.Intn(14)))
	}
	for range source.Intn(3) {
		f.Not = append(f.Not, api.Kind(1+source.Intn(14)))
	}
	for range source.Intn(3) {
		f.Senders = append(f.Senders, []string{"a", "b", "c"}[source.Intn(3)])
	}
	return f
}

func TestAndWantsWhatBothWant(t *testing.T) {
	source := rand.New(rand.NewSource(1))
	for range 3000 {
		a, b := random(source), random(source)
		both := And(a, b)
		l := []api.Event{}
		for k := api.KCreate; k <= api.KRedact; k++ {
			for _, sender := range []string{"a", "b", "c", "d"} {
				e := event(len(l), k, sender, "")
				l = append(l, e)
				if Wants(both, e) != (Wants(a, e) && Wants(b, e)) {
					t.Fatal("And", a, b, e)
				}
			}
		}
		cut, more := Cut(a, l)
		wanted := slices.DeleteFunc(slices.Clone(l), func(e api.Event) bool { return !Wants(a, e) })
		n := min(a.Limit, len(wanted))
		if idsOf(cut) != idsOf(wanted[len(wanted)-n:]) || more != (len(wanted) > n) {
			t.Fatal("Cut", a, idsOf(cut), more)
		}
		if len(both.Kinds) > 0 && len(a.Kinds) > 0 {
			old := slices.Clone(a.Kinds)
			both.Kinds[0] = 99
			if !slices.Equal(old, a.Kinds) {
				t.Fatal("the result shares memory with the argument")
			}
		}
	}
}
