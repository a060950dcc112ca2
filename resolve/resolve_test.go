package resolve_test

import (
	"fmt"
	"math/rand"
	"slices"
	"testing"

	"fedchat/api"
	"fedchat/conflict"
	"fedchat/iterate"
	"fedchat/mainline"
	"fedchat/num"
	"fedchat/power"
	. "fedchat/resolve"
	"fedchat/statemap"
	"fedchat/store"
)

func event(id int, k api.Kind, sender, key string, n int, auth ...int) api.Event {
	return api.Event{Id: id, Room: "!r:a", Kind: k, State: true, Sender: sender, Key: key, Content: api.Content{N: n}, Auth: auth}
}

func withLevels(e api.Event, ann, bob int) api.Event {
	e.Content.Levels = api.Levels{Users: []api.Level{{User: "@ann:a", N: ann}, {User: "@bob:b", N: bob}}, State: 50, Kick: 50, Ban: 50, Redact: 50}
	return e
}

// room is the room of the examples, with further branches.
func room() []api.Event {
	l := []api.Event{
		event(1, api.KCreate, "@ann:a", "", 0),
		event(2, api.KMember, "@ann:a", "@ann:a", api.Join, 1),
		withLevels(event(3, api.KPower, "@ann:a", "", 0, 1, 2), 100, 50),
		event(4, api.KRules, "@ann:a", "", api.Public, 1, 2, 3),
		event(5, api.KMember, "@bob:b", "@bob:b", api.Join, 1, 3, 4),
		event(6, api.KMember, "@ann:a", "@bob:b", api.Ban, 1, 2, 3, 5),
		event(7, api.KName, "@bob:b", "", 0, 1, 3, 5),
		withLevels(event(8, api.KPower, "@ann:a", "", 0, 1, 2, 3), 100, 0),
		event(9, api.KRules, "@bob:b", "", api.ByInvite, 1, 3, 5),
		event(10, api.KName, "@ann:a", "", 0, 1, 2, 8),
		event(11, api.KName, "@ann:a", "", 0, 1, 2, 3),
	}
	l[1].Prev = []int{1}
	return l
}

func state(l []api.Event, ids ...int) api.State {
	return statemap.Of(store.Of(l, ids))
}

func TestFewStates(t *testing.T) {
	l := room()
	s := state(l, 1, 2, 3, 4, 5)
	if got := Resolve(l, nil); len(got) != 0 {
		t.Error("no states", got)
	}
	if got := Resolve(l, []api.State{s}); !statemap.Same(got, s) {
		t.Error("one state", got)
	}
	if got := Resolve(l, []api.State{s, s}); !statemap.Same(got, s) {
		t.Error("twice the same", got)
	}
	strange := api.State{{Kind: api.KName, Id: 1}, {Kind: api.KPolicy, Key: "x", Id: 99}}
	if got := Two(l, strange, strange); !statemap.Same(got, strange) {
		t.Error("unknown events that all have", got)
	}
	for _, states := range [][]api.State{nil, {s}, {s, s}} {
		if p, q := Sides(l, states); len(p)+len(q) != 0 {
			t.Error("Sides", p, q)
		}
	}
	Resolve(l, []api.State{s})[0].Id = 99
	if s[0].Id != 1 {
		t.Error("the result shares memory with the argument")
	}
}

func TestBanAgainstName(t *testing.T) {
	for _, times := range [][2]int{{0, 0}, {0, 9}, {9, 0}} {
		l := room()
		l[5].Time, l[6].Time = times[0], times[1]
		a, b := state(l, 1, 2, 3, 4, 6), state(l, 1, 2, 3, 4, 5, 7)
		p, q := Sides(l, []api.State{a, b})
		if fmt.Sprint(p, q) != "[5 6] [7]" {
			t.Error("Sides", p, q)
		}
		want := state(l, 1, 2, 3, 4, 6)
		if !statemap.Same(Two(l, a, b), want) || !statemap.Same(Two(l, b, a), want) {
			t.Error("Two", Two(l, a, b))
		}
	}
}

func TestLevelsAgainstRule(t *testing.T) {
	for _, times := range [][2]int{{0, 0}, {0, 9}, {9, 0}} {
		l := room()
		l[7].Time, l[8].Time = times[0], times[1]
		a, b := state(l, 1, 2, 8, 4, 5), state(l, 1, 2, 3, 9, 5)
		if got := Two(l, a, b); !statemap.Same(got, state(l, 1, 2, 8, 4, 5)) {
			t.Error(got)
		}
	}
}

func TestNamesUnderOlderLevelsComeFirst(t *testing.T) {
	l := room()
	l[9].Time, l[10].Time = 0, 9
	a, b := state(l, 1, 2, 8, 4, 5, 10), state(l, 1, 2, 3, 4, 5, 11)
	if p, q := Sides(l, []api.State{a, b}); fmt.Sprint(p, q) != "[3 8] [11 10]" {
		t.Error("Sides", p, q)
	}
	if id, _ := statemap.Get(Two(l, a, b), api.KName, ""); id != 10 {
		t.Error("the name under the newer levels", id)
	}
}

func TestEntriesThatAllHaveStay(t *testing.T) {
	// The banned user's name is in both states; the ban does not take it away.
	l := room()
	a, b := state(l, 1, 2, 3, 4, 6, 7), state(l, 1, 2, 3, 4, 5, 7)
	if got := Two(l, a, b); !statemap.Same(got, state(l, 1, 2, 3, 4, 6, 7)) {
		t.Error(got)
	}
	// An entry that all have stays, even if an event of the auth difference has its key.
	c, d := state(l, 1, 2, 8, 4, 5), state(l, 1, 2, 8, 4, 5, 7)
	if got := Two(l, c, d); !statemap.Same(got, state(l, 1, 2, 8, 4, 5)) {
		t.Error(got)
	}
}

// resolveAsWritten follows the numbered steps.
func resolveAsWritten(l []api.Event, states []api.State) (api.State, []int, []int) {
	u, _ := statemap.Split(states)
	f := conflict.Full(l, states)
	set := power.Set(l, f)
	p := power.Order(l, set)
	s1 := iterate.Apply(l, u, p)
	main := []int{}
	if id, ok := statemap.Get(s1, api.KPower, ""); ok {
		main = mainline.Of(l, id)
	}
	q := mainline.Order(l, main, num.Minus(f, set))
	s2 := iterate.Apply(l, s1, q)
	for _, entry := range u {
		s2 = statemap.Set(s2, entry.Kind, entry.Key, entry.Id)
	}
	return s2, p, q
}

func randomRoom(source *rand.Rand) []api.Event {
	l := room()
	users := []string{"@ann:a", "@bob:b", "@cy:c"}
	for id := 12; id < 24; id++ {
		e := event(id, api.Kind(2+source.Intn(7)), users[source.Intn(3)], "", source.Intn(5))
		switch e.Kind {
		case api.KMember:
			e.Key = users[source.Intn(3)]
		case api.KPower:
			e = withLevels(e, 100, source.Intn(101))
		}
		e.Time = source.Intn(4)
		for a := 1; a < id; a++ {
			if a == 1 || source.Intn(3) == 0 {
				e.Auth = append(e.Auth, a)
			}
		}
		l = append(l, e)
	}
	return l
}

func TestFollowsTheDefinition(t *testing.T) {
	source := rand.New(rand.NewSource(1))
	for range 1000 {
		l := randomRoom(source)
		states := []api.State{}
		for range 2 + source.Intn(3) {
			ids := []int{1, 2, 3}
			for range source.Intn(8) {
				ids = append(ids, 4+source.Intn(20))
			}
			states = append(states, state(l, ids...))
		}
		got := Resolve(l, states)
		want, wantP, wantQ := resolveAsWritten(l, states)
		if !statemap.Same(got, want) {
			t.Fatal("Resolve", l, states, got, want)
		}
		if p, q := Sides(l, states); !slices.Equal(p, wantP) || !slices.Equal(q, wantQ) {
			t.Fatal("Sides", l, states, p, q)
		}
		if statemap.Check(got) != api.OK {
			t.Fatal("no state", got)
		}
		f := conflict.Full(l, states)
		u, _ := statemap.Split(states)
		for _, entry := range got {
			e, known := store.Get(l, entry.Id)
			conflicted := known && num.Has(f, entry.Id) && e.Kind == entry.Kind && e.Key == entry.Key
			if !slices.Contains(u, entry) && !conflicted {
				t.Fatal("an entry from nowhere", entry)
			}
		}
		again := slices.Concat(states, states[:1])
		source.Shuffle(len(again), func(i, j int) { again[i], again[j] = again[j], again[i] })
		if !statemap.Same(Resolve(l, again), got) {
			t.Fatal("order or number matters", l, states)
		}
		if len(states) == 2 && !statemap.Same(Two(l, states[1], states[0]), got) {
			t.Fatal("Two", l, states)
		}
	}
}
