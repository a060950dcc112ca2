package redact_test

import (
	"fmt"
	"math/rand"
	"slices"
	"testing"

	"fedchat/api"
	"fedchat/event"
	"fedchat/graph"
	"fedchat/levels"
	"fedchat/members"
	"fedchat/num"
	. "fedchat/redact"
	"fedchat/replay"
	"fedchat/sample"
	"fedchat/statemap"
	"fedchat/store"
)

// chat returns a room with a message of @bob:b.
func chat() (*sample.Room, api.Event) {
	s := sample.New("!r:a", "@ann:a", api.Public, api.Shared)
	s.Add("@bob:b", api.KMember, "@bob:b", api.Content{N: api.Join}, 0)
	s.Add("@cy:c", api.KMember, "@cy:c", api.Content{N: api.Join}, 0)
	return s, s.Add("@bob:b", api.KMessage, "", api.Content{Text: "hi"}, 0)
}

func redactionOf(s *sample.Room, sender string, target int, prev ...int) api.Event {
	return s.Add(sender, api.KRedact, "", api.Content{Target: target}, 0, prev...)
}

func TestOwnRedaction(t *testing.T) {
	s, message := chat()
	red := redactionOf(s, "@bob:b", message.Id)
	if May(s.Events, red) != api.OK || !slices.Equal(Gone(s.Events), []int{message.Id}) {
		t.Error("the redaction has no effect", May(s.Events, red))
	}
	if id, ok := By(s.Events, message.Id); id != red.Id || !ok {
		t.Error("By", id, ok)
	}
	if id, ok := By(s.Events, red.Id); id != 0 || ok {
		t.Error("By of another event", id, ok)
	}
	applied := Apply(s.Events)
	for i, e := range applied {
		want := s.Events[i]
		if e.Id == message.Id {
			want = event.Strip(want)
		}
		if !event.Same(e, want) {
			t.Error("Apply", e)
		}
	}
}

func TestWhoMayRedact(t *testing.T) {
	s, message := chat()
	byCy := redactionOf(s, "@cy:c", message.Id)
	if May(s.Events, byCy) != api.ErrLevel || replay.Why(s.Events, byCy.Id) != api.OK || len(Gone(s.Events)) != 0 {
		t.Error("a redaction below the level", May(s.Events, byCy))
	}
	byAnn := redactionOf(s, "@ann:a", message.Id)
	if May(s.Events, byAnn) != api.OK || len(Gone(s.Events)) != 1 {
		t.Error("a redaction by the creator", May(s.Events, byAnn))
	}
	s.Add("@bob:b", api.KMember, "@bob:b", api.Content{N: api.Leave}, 0)
	late := redactionOf(s, "@bob:b", message.Id)
	if May(s.Events, late) != api.ErrMember || replay.Why(s.Events, late.Id) != api.ErrMember {
		t.Error("a redaction after leaving", May(s.Events, late))
	}
	if id, _ := By(s.Events, message.Id); id != byAnn.Id {
		t.Error("By", id)
	}
}

func TestMayErrors(t *testing.T) {
	s, message := chat()
	red := redactionOf(s, "@bob:b", message.Id)
	unknown := redactionOf(s, "@eve:e", 77)
	with := func(change func(e *api.Event)) api.Event {
		e := red
		change(&e)
		return e
	}
	for name, c := range map[string]struct {
		l    []api.Event
		red  api.Event
		want api.Errno
	}{
		"a message":          {s.Events, message, api.ErrArg},
		"nothing":            {nil, api.Event{}, api.ErrArg},
		"an unknown target":  {s.Events, unknown, api.ErrNone},
		"no events":          {nil, red, api.ErrNone},
		"an unknown id":      {s.Events, with(func(e *api.Event) { e.Id = 5 }), api.ErrMember},
		"no right set":       {[]api.Event{message, red}, red, api.ErrMember},
		"another sender":     {s.Events, with(func(e *api.Event) { e.Sender = "@cy:c" }), api.ErrLevel},
		"a stranger":         {s.Events, with(func(e *api.Event) { e.Sender = "@eve:e" }), api.ErrMember},
		"the creator":        {s.Events, with(func(e *api.Event) { e.Sender = "@ann:a" }), api.OK},
		"the sender's own":   {s.Events, red, api.OK},
		"before the message": {s.Events, with(func(e *api.Event) { e.Id = graph.Order(s.Events)[0] }), api.ErrMember},
	} {
		if got := May(c.l, c.red); got != c.want {
			t.Errorf("%s: %d, want %d", name, got, c.want)
		}
	}
	if len(Gone(s.Events[1:]))+len(Gone(nil)) != 0 || !store.Same(Apply(s.Events[1:]), s.Events[1:]) {
		t.Error("no right set")
	}
	if _, ok := By(s.Events[1:], message.Id); ok {
		t.Error("By in no right set")
	}
}

func TestTheFirstRedactionCounts(t *testing.T) {
	s, message := chat()
	other := s.Add("@ann:a", api.KMessage, "", api.Content{Text: "aside"}, 0, message.Id)
	late := redactionOf(s, "@ann:a", message.Id, other.Id)
	early := redactionOf(s, "@bob:b", message.Id, message.Id)
	if id, ok := By(s.Events, message.Id); id != early.Id || !ok {
		t.Error("By", id, early.Id, late.Id)
	}
	twin := s.Add("@bob:b", api.KRedact, "", api.Content{Target: message.Id, Text: "again"}, 0, message.Id)
	if id, _ := By(s.Events, message.Id); id != min(early.Id, twin.Id) {
		t.Error("By of equal depths", id)
	}
}

func TestARedactedRedactionKeepsItsEffect(t *testing.T) {
	s, message := chat()
	red := redactionOf(s, "@bob:b", message.Id)
	second := redactionOf(s, "@ann:a", red.Id)
	if got := Gone(s.Events); !slices.Equal(got, num.Sorted([]int{message.Id, red.Id})) {
		t.Error("Gone", got)
	}
	if got := Gone(Apply(s.Events)); !slices.Equal(got, num.Sorted([]int{message.Id, red.Id})) {
		t.Error("Gone afterwards", got)
	}
	if id, _ := By(Apply(s.Events), red.Id); id != second.Id {
		t.Error("By", id)
	}
}

// goneAsWritten follows the definitions.
func goneAsWritten(l []api.Event) []int {
	gone := []int{}
	for _, id := range replay.Accepted(l) {
		e, _ := store.Get(l, id)
		target, known := store.Get(l, e.Content.Target)
		if e.Kind != api.KRedact || !known {
			continue
		}
		s, _ := replay.At(l, id)
		v, _ := levels.Of(statemap.Events(l, s))
		if members.InState(l, s, e.Sender) == api.Join && (e.Sender == target.Sender || levels.User(v, e.Sender) >= v.Redact) {
			gone = append(gone, target.Id)
		}
	}
	return num.Sorted(gone)
}

func TestFollowsTheDefinitions(t *testing.T) {
	source := rand.New(rand.NewSource(1))
	count := 0
	for range 40 {
		l := sample.Random(source.Intn, 30).Events
		gone := Gone(l)
		count += len(gone)
		if want := goneAsWritten(l); !slices.Equal(gone, want) {
			t.Fatal("Gone", gone, want)
		}
		applied := Apply(l)
		if fmt.Sprint(store.Ids(applied)) != fmt.Sprint(store.Ids(l)) || !slices.Equal(replay.Statuses(applied), replay.Statuses(l)) || !statemap.Same(replay.Current(applied), replay.Current(l)) {
			t.Fatal("Apply changes ids, statuses or states")
		}
		if !slices.Equal(Gone(applied), gone) || !store.Same(Apply(applied), applied) {
			t.Fatal("Apply twice")
		}
		part := slices.DeleteFunc(slices.Clone(l), func(e api.Event) bool { return !num.Has(graph.Order(l)[:20], e.Id) })
		if len(num.Minus(Gone(part), gone)) > 0 {
			t.Fatal("what was gone comes back")
		}
		for _, e := range l {
			by, ok := By(l, e.Id)
			if ok != num.Has(gone, e.Id) {
				t.Fatal("By", e.Id, by, ok)
			}
			if red, _ := store.Get(l, by); ok && (red.Content.Target != e.Id || May(l, red) != api.OK) {
				t.Fatal("By returns another redaction", red)
			}
		}
	}
	if count == 0 {
		t.Error("nothing was redacted")
	}
}

func TestApplyReturnsNewMemory(t *testing.T) {
	s, message := chat()
	redactionOf(s, "@bob:b", message.Id)
	old := store.Of(s.Events, store.Ids(s.Events))
	for _, e := range Apply(s.Events) {
		if len(e.Prev) > 0 {
			e.Prev[0] = 0
		}
	}
	if !store.Same(s.Events, old) {
		t.Error("the result shares memory with the argument")
	}
}
