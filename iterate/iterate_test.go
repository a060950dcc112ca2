package iterate_test

import (
	"fmt"
	"math/rand"
	"slices"
	"testing"

	"fedchat/api"
	"fedchat/auth"
	"fedchat/authset"
	"fedchat/content"
	. "fedchat/iterate"
	"fedchat/statemap"
	"fedchat/store"
)

func event(id int, k api.Kind, sender, key string, n int, refs ...int) api.Event {
	return api.Event{Id: id, Room: "!r:x", Kind: k, State: true, Sender: sender, Key: key, Content: api.Content{N: n}, Auth: refs}
}

// room: 1 create, 2 join of a, 3 public, 4 join of b, 5 ban of b, 6 name by b, 7 message of b, 8 levels: names need 50, 9 name by a.
func room() []api.Event {
	l := []api.Event{
		event(1, api.KCreate, "@a:x", "", 0),
		event(2, api.KMember, "@a:x", "@a:x", api.Join, 1),
		event(3, api.KRules, "@a:x", "", api.Public, 1, 2),
		event(4, api.KMember, "@b:y", "@b:y", api.Join, 1, 3),
		event(5, api.KMember, "@a:x", "@b:y", api.Ban, 1, 2, 4),
		event(6, api.KName, "@b:y", "", 0, 1, 4),
		event(7, api.KMessage, "@b:y", "", 0, 1, 4),
		event(8, api.KPower, "@a:x", "", 0, 1, 2),
		event(9, api.KName, "@a:x", "", 0, 1, 2),
	}
	l[1].Prev = []int{1}
	l[7].Content.Levels = api.Levels{Users: []api.Level{{User: "@a:x", N: 100}}, State: 50}
	return l
}

func ids(s api.State) string {
	list := []int{}
	for _, entry := range s {
		list = append(list, entry.Id)
	}
	return fmt.Sprint(list)
}

func TestExamples(t *testing.T) {
	l := room()
	for name, c := range map[string]struct {
		start []int
		ids   []int
		want  string
	}{
		"create and join":            {nil, []int{1, 2}, "[1 2]"},
		"the other order":            {nil, []int{2, 1}, "[1 2]"},
		"all":                        {nil, []int{1, 2, 3, 4, 5}, "[1 2 5 3]"},
		"a banned sender":            {[]int{1, 2, 3, 5}, []int{6}, "[1 2 5 3]"},
		"authorized by Auth":         {nil, []int{6}, "[6]"},
		"the state's levels count":   {[]int{1, 2, 8}, []int{6, 9}, "[1 2 8 9]"},
		"levels that come before":    {nil, []int{8, 6, 9}, "[8 9]"},
		"levels that come behind":    {nil, []int{6, 8}, "[8 6]"},
		"a later one replaces":       {nil, []int{9, 6}, "[6]"},
		"messages and unknown ids":   {nil, []int{7, 99, 1, 7}, "[1]"},
		"a second creation":          {[]int{1}, []int{1}, "[1]"},
		"nothing":                    {[]int{1, 2}, nil, "[1 2]"},
		"a ban by Auth":              {nil, []int{5, 6}, "[5]"},
		"a join by the rule of Auth": {[]int{1, 2}, []int{4}, "[1 2 4]"},
	} {
		if got := ids(Apply(l, statemap.Of(store.Of(l, c.start)), c.ids)); got != c.want {
			t.Errorf("%s: %s", name, got)
		}
	}
}

func TestStateOfUnknownEvents(t *testing.T) {
	l := room()
	s := api.State{{Kind: api.KCreate, Id: 77}}
	if got := ids(Apply(l, s, []int{2, 6})); got != "[77]" {
		t.Error("a creation that is not known", got)
	}
	if got := Base(l, s, l[5]); len(got) != 1 || got[0].Id != 4 {
		t.Error("Base", got)
	}
}

func TestNegativeIds(t *testing.T) {
	l := []api.Event{event(-5, api.KCreate, "@a:x", "", 0)}
	s := Apply(l, nil, []int{-5})
	if !statemap.Same(s, api.State{{Kind: api.KCreate, Id: -5}}) || !statemap.Same(Apply(l, s, []int{-5}), s) {
		t.Error(s)
	}
}

func TestBase(t *testing.T) {
	l := room()
	state := statemap.Of(store.Of(l, []int{1, 2, 5}))
	for i, c := range []struct {
		s    api.State
		e    api.Event
		want string
	}{
		{nil, l[5], "[1 4]"}, {state, l[5], "[1 5]"}, {state, l[3], "[1 5 3]"}, {nil, l[4], "[1 2 4]"}, {state, l[0], "[]"},
		{nil, event(0, api.KName, "@b:y", "", 0, 99, 5, 4, 1), "[1 5]"}, {nil, event(0, api.KName, "@b:y", "", 0), "[]"},
	} {
		if got := fmt.Sprint(store.Ids(Base(l, c.s, c.e))); got != c.want {
			t.Errorf("%d: %s", i, got)
		}
	}
	Base(l, state, l[5])[0].Content.Text = "x"
	got := Base(l, state, l[5])
	got[1].Auth[0] = 99
	if !store.Same(l, room()) {
		t.Error("a result shares memory with an argument")
	}
}

// applyAsWritten follows the definition.
func applyAsWritten(l []api.Event, s api.State, ids []int) api.State {
	for _, id := range ids {
		e, ok := store.Get(l, id)
		if !ok || !content.State(e.Kind) {
			continue
		}
		base := []api.Event{}
		for _, key := range authset.Keys(e) {
			if named, found := statemap.Get(s, key.Kind, key.Key); found {
				base = append(base, store.Of(l, []int{named})...)
				continue
			}
			own := store.Of(l, e.Auth)
			if i := slices.IndexFunc(own, func(a api.Event) bool { return a.Kind == key.Kind && a.Key == key.Key }); i >= 0 {
				base = append(base, own[i])
			}
		}
		if auth.Allowed(e, base) == api.OK {
			s = statemap.Set(s, e.Kind, e.Key, id)
		}
	}
	return s
}

func TestFollowsTheDefinition(t *testing.T) {
	source := rand.New(rand.NewSource(1))
	users := []string{"@a:x", "@b:y"}
	for range 3000 {
		l := room()
		for i := range 6 {
			e := event(20+i, api.Kind(1+source.Intn(12)), users[source.Intn(2)], "", source.Intn(5))
			if e.Kind > api.KAccess || source.Intn(2) == 0 {
				e.Kind, e.Key = api.KMember, users[source.Intn(2)]
			}
			for a := range 10 {
				if source.Intn(3) == 0 {
					e.Auth = append(e.Auth, a)
				}
			}
			l = append(l, e)
		}
		start := statemap.Of(store.Of(l, source.Perm(9)[:source.Intn(9)]))
		old := slices.Clone(start)
		order := source.Perm(27)
		got := Apply(l, start, order)
		if want := applyAsWritten(l, start, order); !statemap.Same(got, want) {
			t.Fatal(l, start, order, got, want)
		}
		if !statemap.Same(Apply(l, Apply(l, start, order[:9]), order[9:]), got) {
			t.Fatal("two lists")
		}
		for _, entry := range got {
			e, ok := store.Get(l, entry.Id)
			fresh := ok && e.Kind == entry.Kind && e.Key == entry.Key && slices.Contains(order, entry.Id)
			if !slices.Contains(start, entry) && !fresh {
				t.Fatal("an entry from nowhere", entry)
			}
		}
		for _, entry := range start {
			if _, ok := statemap.Get(got, entry.Kind, entry.Key); !ok {
				t.Fatal("an entry is lost", entry)
			}
		}
		if len(got) > 0 {
			got[0].Id = 1000
		}
		if !statemap.Same(old, start) {
			t.Fatal("the argument was changed")
		}
	}
}

func TestApplyOfNothingIsNewMemory(t *testing.T) {
	s := api.State{{Kind: api.KCreate, Id: 1}}
	Apply(nil, s, nil)[0].Id = 9
	if s[0].Id != 1 {
		t.Error("the result shares memory with the argument")
	}
}
