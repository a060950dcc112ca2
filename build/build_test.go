package build_test

import (
	"fmt"
	"math/rand"
	"slices"
	"testing"

	"fedchat/api"
	"fedchat/auth"
	"fedchat/authset"
	. "fedchat/build"
	"fedchat/event"
	"fedchat/graph"
	"fedchat/ids"
	"fedchat/levels"
	"fedchat/replay"
	"fedchat/sample"
	"fedchat/statemap"
	"fedchat/store"
)

func sorted(l []api.Event) []api.Event {
	set := []api.Event{}
	for _, e := range l {
		set, _ = store.Put(set, e)
	}
	return set
}

func TestFirst(t *testing.T) {
	e, err := First("!r:a", "@ann:a", 7)
	want := event.Sign(api.Event{Room: "!r:a", Sender: "@ann:a", Kind: api.KCreate, State: true, Time: 7, Depth: 1}, "a")
	if err != api.OK || !event.Same(e, want) || event.Verify(e) != api.OK {
		t.Error("First", e, err)
	}
	for _, c := range []struct {
		room, user string
		time       int
		want       api.Errno
	}{{"!r:a", "@bob:b", 0, api.ErrCreate}, {"r", "@bob:b", 0, api.ErrName}, {"!r:a", "", 0, api.ErrName}, {"!r:a", "@ann:a", -1, api.ErrRange}, {"!r:a", "@bob:b", -1, api.ErrRange}} {
		if e, err := First(c.room, c.user, c.time); err != c.want || !event.Same(e, api.Event{}) {
			t.Errorf("First(%s, %s, %d): %d", c.room, c.user, c.time, err)
		}
	}
}

func TestRoom(t *testing.T) {
	l, err := Room("!r:a", "@ann:a", 3, api.Public, api.World)
	if err != api.OK || len(l) != 5 {
		t.Fatal("Room", l, err)
	}
	for i, e := range l {
		if e.Depth != i+1 || e.Time != 3 || e.Sender != "@ann:a" || event.Verify(e) != api.OK {
			t.Error("the event", i, e)
		}
		if i > 0 && !slices.Equal(e.Prev, []int{l[i-1].Id}) {
			t.Error("Prev of the event", i)
		}
	}
	kinds := fmt.Sprint(l[0].Kind, l[1].Kind, l[2].Kind, l[3].Kind, l[4].Kind)
	if kinds != "1 2 3 4 5" || l[1].Key != "@ann:a" || l[1].Content.N != api.Join || !levels.Same(l[2].Content.Levels, levels.Default("@ann:a")) || l[3].Content.N != api.Public || l[4].Content.N != api.World {
		t.Error("the kinds or contents", kinds)
	}
	set := sorted(l)
	if len(replay.Accepted(set)) != 5 {
		t.Error("not all are accepted")
	}
	v, _ := levels.Of(statemap.Events(set, replay.Current(set)))
	if levels.User(v, "@ann:a") != 100 {
		t.Error("the level of the creator")
	}
	for _, c := range []struct {
		room, user             string
		time, rule, visibility int
		want                   api.Errno
	}{{"!r:a", "@bob:b", 0, 1, 0, api.ErrCreate}, {"!r:a", "@ann:a", -1, 1, 0, api.ErrRange}, {"!r:a", "@ann:a", 0, 4, 0, api.ErrRange}, {"!r:a", "@ann:a", 0, 0, -1, api.ErrRange}, {"!r", "@ann:a", 0, 0, -1, api.ErrName}} {
		if l, err := Room(c.room, c.user, c.time, c.rule, c.visibility); err != c.want || len(l) != 0 {
			t.Errorf("Room(%v): %d", c, err)
		}
	}
}

func TestNextOfTheExample(t *testing.T) {
	made, _ := Room("!r:a", "@ann:a", 0, api.Public, api.Shared)
	l := sorted(made)
	e, err := Next(l, "@ann:a", api.KMessage, "", api.Content{Text: "hi"}, 9)
	want := event.Sign(api.Event{Room: "!r:a", Sender: "@ann:a", Kind: api.KMessage, Time: 9, Depth: 6, Prev: []int{made[4].Id}, Auth: sortedInts(made[0].Id, made[1].Id, made[2].Id), Content: api.Content{Text: "hi"}}, "a")
	if err != api.OK || !event.Same(e, want) {
		t.Error("Next", e, err)
	}
	if e, err := Next(l, "@bob:b", api.KMessage, "", api.Content{}, 0); err != api.ErrMember || !event.Same(e, api.Event{}) {
		t.Error("a stranger", err)
	}
}

func sortedInts(l ...int) []int {
	slices.Sort(l)
	return l
}

func TestErrors(t *testing.T) {
	made, _ := Room("!r:a", "@ann:a", 0, api.Public, api.Shared)
	l := sorted(made)
	text := api.Content{Text: "hi"}
	for name, c := range map[string]struct {
		l    []api.Event
		user string
		k    api.Kind
		key  string
		c    api.Content
		time int
		want api.Errno
	}{
		"no events":       {nil, "@ann:a", api.KMessage, "", text, 0, api.ErrState},
		"no right set":    {l[1:], "x", 99, "", text, -1, api.ErrState},
		"an unknown kind": {l, "@ann:a", 99, "", text, 0, api.ErrArg},
		"a key":           {l, "@ann:a", api.KMessage, "k", text, 0, api.ErrArg},
		"no user":         {l, "ann", api.KMessage, "", text, 0, api.ErrName},
		"a time":          {l, "@eve:e", api.KMessage, "", text, api.MaxTime + 1, api.ErrRange},
		"a content":       {l, "@eve:e", api.KMessage, "", api.Content{N: 1}, 0, api.ErrArg},
		"not joined":      {l, "@eve:e", api.KMessage, "", text, 0, api.ErrMember},
		"a level":         {l, "@ann:a", api.KPower, "", api.Content{Levels: api.Levels{Ban: 101}}, 0, api.ErrLevel},
		"a creation":      {l, "@ann:a", api.KCreate, "", api.Content{}, 0, api.ErrForm},
	} {
		if e, err := Next(c.l, c.user, c.k, c.key, c.c, c.time); err != c.want || !event.Same(e, api.Event{}) {
			t.Errorf("%s: %d, want %d", name, err, c.want)
		}
	}
	for name, c := range map[string]struct {
		l         []api.Event
		user, via string
		m, time   int
		want      api.Errno
	}{
		"no events":  {nil, "@ann:a", "", 3, 0, api.ErrState},
		"no user":    {l, "ann", "", 3, 0, api.ErrName},
		"membership": {l, "@bob:b", "", 5, 0, api.ErrRange},
		"time":       {l, "@bob:b", "", 3, -1, api.ErrRange},
		"via":        {l, "@bob:b", "x", 3, 0, api.ErrName},
		"via leave":  {l, "@bob:b", "@ann:a", 0, 0, api.ErrArg},
	} {
		if e, err := Template(c.l, c.user, c.m, c.via, c.time); err != c.want || !event.Same(e, api.Event{}) {
			t.Errorf("template, %s: %d, want %d", name, err, c.want)
		}
	}
}

func TestNoAcceptedEvent(t *testing.T) {
	create := event.Sign(api.Event{Room: "!r:a", Sender: "@bob:b", Kind: api.KCreate, State: true, Depth: 1}, "b")
	if _, err := Next([]api.Event{create}, "@bob:b", api.KMessage, "", api.Content{}, 0); err != api.ErrState {
		t.Error("a rejected creation", err)
	}
	if _, err := Template([]api.Event{create}, "@bob:b", api.Join, "", 0); err != api.ErrState {
		t.Error("a template", err)
	}
}

func TestTemplate(t *testing.T) {
	made, _ := Room("!r:a", "@ann:a", 0, api.Public, api.Shared)
	l := sorted(made)
	e, err := Template(l, "@bob:b", api.Join, "@ann:a", 4)
	want := api.Event{Room: "!r:a", Sender: "@bob:b", Kind: api.KMember, State: true, Key: "@bob:b", Time: 4, Depth: 6, Prev: []int{made[4].Id}, Auth: sortedInts(made[0].Id, made[2].Id, made[3].Id), Content: api.Content{N: api.Join, Via: "@ann:a"}}
	if err != api.OK || !event.Same(e, want) {
		t.Error("Template", e, err)
	}
	// A template is made even if the rules do not allow it.
	if _, err := Template(l, "@bob:b", api.Ban, "", 0); err != api.OK {
		t.Error("a ban of oneself", err)
	}
}

// forked returns a room with n branches behind its first events.
func forked(n int) *sample.Room {
	made, _ := Room("!r:a", "@ann:a", 0, api.Public, api.Shared)
	r := &sample.Room{Id: "!r:a", Events: sorted(made)}
	for i := range n {
		e := r.Add("@ann:a", api.KMessage, "", api.Content{Text: fmt.Sprint(i)}, 0, made[4].Id)
		if i%4 == 1 {
			r.Add("@ann:a", api.KMessage, "", api.Content{Text: fmt.Sprint("more ", i)}, 0, e.Id)
		}
	}
	return r
}

func TestManyHeads(t *testing.T) {
	for _, n := range []int{1, 9, 10, 11, 15} {
		l := forked(n).Events
		heads := []api.Event{}
		for _, id := range graph.Heads(l, replay.Accepted(l)) {
			e, _ := store.Get(l, id)
			heads = append(heads, e)
		}
		slices.SortFunc(heads, func(a, b api.Event) int {
			if a.Depth != b.Depth {
				return b.Depth - a.Depth
			}
			return b.Id - a.Id
		})
		heads = heads[:min(n, api.MaxPrev)]
		want, depth := []int{}, 0
		for _, e := range heads {
			want = append(want, e.Id)
			depth = max(depth, e.Depth+1)
		}
		slices.Sort(want)
		e, err := Next(l, "@ann:a", api.KName, "", api.Content{Text: "n"}, 0)
		if err != api.OK || !slices.Equal(e.Prev, want) || e.Depth != depth {
			t.Error("the heads of", n, e.Prev, want, err)
		}
	}
}

func TestNewEventsAreAccepted(t *testing.T) {
	source := rand.New(rand.NewSource(1))
	made := 0
	for range 40 {
		r := sample.Random(source.Intn, 5+source.Intn(20))
		l := r.Events
		if len(graph.Heads(l, replay.Accepted(l))) > api.MaxPrev {
			continue
		}
		user, other := sample.Users()[source.Intn(5)], sample.Users()[source.Intn(5)]
		k, key, c := api.KMember, other, api.Content{N: source.Intn(5)}
		if source.Intn(2) == 0 {
			k, key, c = api.KName, "", api.Content{Text: "n"}
		}
		if e, err := Next(l, user, k, key, c, 5); err == api.OK {
			made++
			checkAccepted(t, l, e)
		} else if f := r.Frame(user, k, key, c, 5); auth.Allowed(f, statemap.Events(l, replay.Current(l))) == api.OK {
			t.Fatal("an allowed event is refused", err)
		}
		e, err := Template(l, user, source.Intn(5), "", 5)
		if err == api.OK && auth.Allowed(e, statemap.Events(l, replay.Current(l))) == api.OK {
			made++
			checkAccepted(t, l, event.Sign(e, ids.ServerOf(user)))
		}
	}
	if made < 20 {
		t.Error("few events were made", made)
	}
}

func checkAccepted(t *testing.T, l []api.Event, e api.Event) {
	t.Helper()
	if !slices.Equal(e.Auth, authset.Select(e, replay.Current(l))) {
		t.Fatal("Auth", e)
	}
	set, err := store.Put(l, e)
	if err != api.OK || event.Verify(e) != api.OK {
		t.Fatal("the event does not fit", e, err)
	}
	if why := replay.Why(set, e.Id); why != api.OK {
		t.Fatal("the event is rejected", e, why)
	}
}

func TestResultsAreNewMemory(t *testing.T) {
	made, _ := Room("!r:a", "@ann:a", 0, api.Public, api.Shared)
	l := sorted(made)
	c := api.Content{Allow: []string{"*"}, Deny: []string{"x"}}
	e, _ := Next(l, "@ann:a", api.KAccess, "", c, 0)
	e.Content.Allow[0], e.Content.Deny[0] = "y", "y"
	if c.Allow[0] != "*" || c.Deny[0] != "x" {
		t.Error("the result shares memory with an argument")
	}
}
