package replay_test

import (
	"fmt"
	"math/rand"
	"slices"
	"testing"

	"fedchat/api"
	"fedchat/auth"
	"fedchat/authset"
	"fedchat/content"
	"fedchat/event"
	"fedchat/graph"
	"fedchat/num"
	. "fedchat/replay"
	"fedchat/resolve"
	"fedchat/sample"
	"fedchat/statemap"
	"fedchat/store"
)

// verdict is what the definitions say of an event.
type verdict struct {
	before, after api.State
	err           api.Errno
}

// asWritten follows the definitions, event by event.
func asWritten(l []api.Event) map[int]verdict {
	found := map[int]verdict{}
	for _, id := range graph.Order(l) {
		e, _ := store.Get(l, id)
		states := []api.State{}
		for _, prev := range e.Prev {
			states = append(states, found[prev].after)
		}
		v := verdict{before: resolve.Resolve(l, states)}
		v.after = v.before
		v.err = errorOf(l, e, v.before, found)
		if v.err == api.OK && content.State(e.Kind) {
			v.after = statemap.Set(v.before, e.Kind, e.Key, e.Id)
		}
		found[id] = v
	}
	return found
}

func errorOf(l []api.Event, e api.Event, before api.State, found map[int]verdict) api.Errno {
	if err := authset.Fits(l, e); err != api.OK {
		return err
	}
	if err := auth.Allowed(e, authset.From(l, e)); err != api.OK {
		return err
	}
	for _, id := range e.Auth {
		if found[id].err != api.OK {
			return api.ErrAuth
		}
	}
	return auth.Allowed(e, statemap.Events(l, before))
}

func currentAsWritten(l []api.Event, found map[int]verdict) api.State {
	accepted := []int{}
	for id, v := range found {
		if v.err == api.OK {
			accepted = append(accepted, id)
		}
	}
	states := []api.State{}
	for _, id := range graph.Heads(l, accepted) {
		states = append(states, found[id].after)
	}
	return resolve.Resolve(l, states)
}

func checkAll(t *testing.T, l []api.Event) {
	t.Helper()
	found := asWritten(l)
	statuses := Statuses(l)
	accepted := []int{}
	if len(statuses) != len(l) {
		t.Fatal("Statuses", len(statuses), len(l))
	}
	for i, e := range l {
		v := found[e.Id]
		want := api.Accepted
		if v.err != api.OK {
			want = api.Rejected
		} else {
			accepted = append(accepted, e.Id)
		}
		s, status := At(l, e.Id)
		if !statemap.Same(s, v.before) || status != want || statuses[i] != want {
			t.Fatal("At", e, s, status, v)
		}
		if got := After(l, e.Id); !statemap.Same(got, v.after) {
			t.Fatal("After", e, got, v)
		}
		if got := Why(l, e.Id); got != v.err {
			t.Fatal("Why", e, got, v.err)
		}
	}
	if got := Accepted(l); !slices.Equal(got, num.Sorted(accepted)) {
		t.Fatal("Accepted", got, accepted)
	}
	if got := Current(l); !statemap.Same(got, currentAsWritten(l, found)) {
		t.Fatal("Current", got)
	}
}

func TestFollowsTheDefinitions(t *testing.T) {
	source := rand.New(rand.NewSource(1))
	for range 40 {
		checkAll(t, sample.Random(source.Intn, 5+source.Intn(25)).Events)
	}
}

func TestExamples(t *testing.T) {
	r := &sample.Room{Id: "!r:a"}
	create := r.Add("@ann:a", api.KCreate, "", api.Content{}, 0)
	join := r.Add("@ann:a", api.KMember, "@ann:a", api.Content{N: api.Join}, 0)
	if got := fmt.Sprint(Statuses(r.Events)); got != "[4 4]" {
		t.Error("Statuses", got)
	}
	before, status := At(r.Events, join.Id)
	if len(before) != 1 || before[0].Id != create.Id || status != api.Accepted || len(Current(r.Events)) != 2 {
		t.Error("the state before the join", before, status)
	}
	message := r.Add("@bob:b", api.KMessage, "", api.Content{Text: "hi"}, 0)
	if Why(r.Events, message.Id) != api.ErrMember || Why(r.Events, join.Id) != api.OK {
		t.Error("a message of a stranger", Why(r.Events, message.Id))
	}
	before, status = At(r.Events, message.Id)
	if status != api.Rejected || len(before) != 2 || !statemap.Same(After(r.Events, message.Id), before) {
		t.Error("the state after it", before, status)
	}
}

func TestNoRightSets(t *testing.T) {
	r := sample.New("!r:a", "@ann:a", api.Public, api.Shared)
	good := r.Events
	join, _ := store.Get(good, graph.Order(good)[1])
	gap := slices.DeleteFunc(slices.Clone(good), func(e api.Event) bool { return e.Id == join.Id })
	bad := slices.Clone(good)
	bad[0].Time++
	shuffled := slices.Clone(good)
	shuffled[0], shuffled[1] = shuffled[1], shuffled[0]
	deep := &sample.Room{Id: "!r:a", Events: good}
	f := deep.Frame("@ann:a", api.KName, "", api.Content{}, 0)
	f.Depth++
	deep.Put(f)
	for name, l := range map[string][]api.Event{"a gap": gap, "a wrong sum": bad, "another order": shuffled, "a wrong depth": deep.Events} {
		id := l[0].Id
		s, status := At(l, id)
		if len(s)+len(After(l, id))+len(Current(l))+len(Statuses(l))+len(Accepted(l)) != 0 || status != api.Unknown || Why(l, id) != api.ErrNone {
			t.Errorf("%s: something is returned", name)
		}
	}
	if s, status := At(good, 1); len(s)+len(After(good, 1)) != 0 || status != api.Unknown || Why(good, 1) != api.ErrNone {
		t.Error("an unknown event")
	}
	if s, status := At(nil, 1); len(s)+len(Current(nil))+len(Statuses(nil))+len(Accepted(nil)) != 0 || status != api.Unknown {
		t.Error("no events")
	}
}

func TestErrorsInOrder(t *testing.T) {
	r := sample.New("!r:a", "@ann:a", api.Public, api.Shared)
	stranger := r.Add("@eve:evil", api.KName, "", api.Content{Text: "x"}, 0)
	f := r.Frame("@ann:a", api.KName, "", api.Content{Text: "a"}, 0)
	f.Auth = num.Sorted(append(f.Auth, stranger.Id))
	if f.Depth > stranger.Depth {
		t.Fatal("the stranger's event is no head")
	}
	f.Prev, f.Depth = []int{stranger.Id}, stranger.Depth+1
	wrong := r.Put(f)
	kick := r.Add("@eve:evil", api.KMember, "@ann:a", api.Content{N: api.Leave}, 0)
	g := r.Frame("@ann:a", api.KName, "", api.Content{Text: "b"}, 0)
	join := slices.IndexFunc(r.Events, func(e api.Event) bool { return e.Kind == api.KMember && e.Sender == "@ann:a" })
	g.Auth = num.Sorted(append(num.Minus(g.Auth, []int{r.Events[join].Id}), kick.Id))
	g.Prev, g.Depth = []int{kick.Id}, kick.Depth+1
	byKick := r.Put(g)
	for name, c := range map[string]struct {
		id   int
		want api.Errno
	}{"a stranger": {stranger.Id, api.ErrMember}, "a name among Auth": {wrong.Id, api.ErrAuth}, "a kick by a stranger": {kick.Id, api.ErrMember}, "not joined by Auth": {byKick.Id, api.ErrMember}} {
		if got := Why(r.Events, c.id); got != c.want {
			t.Errorf("%s: %d", name, got)
		}
	}
	// A rejected join among Auth: the rules allow the event by it, but it was not accepted.
	secret := sample.New("!r:a", "@ann:a", api.ByInvite, api.Shared)
	uninvited := secret.Frame("@bob:b", api.KMember, "@bob:b", api.Content{N: api.Join}, 0)
	rejected := secret.Put(uninvited)
	h := secret.Frame("@bob:b", api.KName, "", api.Content{Text: "b"}, 0, rejected.Id)
	h.Auth = num.Sorted(append(h.Auth, rejected.Id))
	byRejected := secret.Put(h)
	if Why(secret.Events, rejected.Id) != api.ErrRule || Why(secret.Events, byRejected.Id) != api.ErrAuth {
		t.Error("a rejected join", Why(secret.Events, rejected.Id), Why(secret.Events, byRejected.Id))
	}
	checkAll(t, r.Events)
	checkAll(t, secret.Events)
}

func TestBannedOnAnotherBranch(t *testing.T) {
	r := sample.New("!r:a", "@ann:a", api.Public, api.Shared)
	join := r.Add("@bob:b", api.KMember, "@bob:b", api.Content{N: api.Join}, 1)
	ban := r.Add("@ann:a", api.KMember, "@bob:b", api.Content{N: api.Ban}, 2, join.Id)
	name := r.Add("@bob:b", api.KName, "", api.Content{Text: "mine"}, 3, join.Id)
	if got := fmt.Sprint(Why(r.Events, ban.Id), Why(r.Events, name.Id)); got != "0 0" {
		t.Error("both are accepted", got)
	}
	s := Current(r.Events)
	if id, _ := statemap.Get(s, api.KMember, "@bob:b"); id != ban.Id {
		t.Error("the ban is lost")
	}
	if _, found := statemap.Get(s, api.KName, ""); found {
		t.Error("the name of a banned user is kept")
	}
	later := r.Add("@bob:b", api.KMessage, "", api.Content{Text: "hi"}, 4, ban.Id)
	if Why(r.Events, later.Id) != api.ErrMember {
		t.Error("a message behind the ban", Why(r.Events, later.Id))
	}
}

func TestNoUnauthorizedEvents(t *testing.T) {
	source := rand.New(rand.NewSource(2))
	for range 15 {
		l := sample.Random(source.Intn, 25).Events
		accepted := Accepted(l)
		states := []api.State{Current(l)}
		for _, e := range l {
			before, status := At(l, e.Id)
			states = append(states, before, After(l, e.Id))
			if status == api.Accepted && auth.Allowed(e, statemap.Events(l, before)) != api.OK {
				t.Fatal("an accepted event is not allowed", e)
			}
		}
		for _, s := range states {
			if statemap.Check(s) != api.OK {
				t.Fatal("no state", s)
			}
			for _, entry := range s {
				e, known := store.Get(l, entry.Id)
				if !known || !num.Has(accepted, e.Id) || e.Kind != entry.Kind || e.Key != entry.Key {
					t.Fatal("an entry that is not accepted", entry)
				}
			}
		}
	}
}

func TestGrowthAndContent(t *testing.T) {
	source := rand.New(rand.NewSource(3))
	for range 15 {
		l := sample.Random(source.Intn, 25).Events
		keep := map[int]bool{}
		for _, id := range graph.Order(l)[:5+source.Intn(20)] {
			keep[id] = true
		}
		part := []api.Event{}
		stripped := []api.Event{}
		for _, e := range l {
			if keep[e.Id] {
				part = append(part, e)
			}
			if source.Intn(2) == 0 {
				e = event.Strip(e)
			}
			stripped = append(stripped, e)
		}
		for _, e := range part {
			before, status := At(part, e.Id)
			fullBefore, fullStatus := At(l, e.Id)
			if !statemap.Same(before, fullBefore) || status != fullStatus || Why(part, e.Id) != Why(l, e.Id) {
				t.Fatal("further events change an earlier one", e)
			}
		}
		if !slices.Equal(Statuses(stripped), Statuses(l)) || !statemap.Same(Current(stripped), Current(l)) {
			t.Fatal("stripping changes something")
		}
	}
}

func TestResultsAreNewMemory(t *testing.T) {
	r := sample.New("!r:a", "@ann:a", api.Public, api.Shared)
	last := graph.Order(r.Events)[3]
	old := slices.Clone(r.Events)
	s, _ := At(r.Events, last)
	s[0].Id = 9
	After(r.Events, last)[0].Id = 9
	Current(r.Events)[0].Id = 9
	if !store.Same(old, r.Events) {
		t.Error("an argument was changed")
	}
}
