package evil_test

import (
	"fmt"
	"math"
	"math/rand"
	"testing"

	"fedchat/api"
	"fedchat/clone"
	"fedchat/event"
	. "fedchat/evil"
	"fedchat/ids"
	"fedchat/room"
	"fedchat/sample"
	"fedchat/store"
)

func TestRight(t *testing.T) {
	s := api.Server{Name: "x"}
	for _, c := range []struct {
		kind int
		to   string
		want api.Errno
	}{{1, "b", api.OK}, {6, "b", api.OK}, {0, "b", api.ErrRange}, {7, "b", api.ErrRange}, {-1, "", api.ErrRange}, {math.MaxInt, "x", api.ErrRange}, {3, "", api.ErrName}, {3, "B", api.ErrName}, {5, "x", api.ErrArg}, {7, "x", api.ErrRange}} {
		d := api.Deed{Kind: c.kind, To: c.to}
		if got := Right(s, d); got != c.want {
			t.Errorf("Right of %d to %s: %d", c.kind, c.to, got)
		}
		if l, err := Forge(s, d); err != c.want || err != api.OK && len(l) != 0 {
			t.Errorf("Forge of %d to %s: %d", c.kind, c.to, err)
		}
	}
}

// message is one of @bob:b with wrong sums, which do not matter.
func message() api.Event {
	return api.Event{Id: 5, Room: "!r:b", Sender: "@bob:b", Kind: api.KMessage, Time: 7, Depth: 3, Prev: []int{1}, Auth: []int{1}, Content: api.Content{Text: "hi"}, Hash: 9, Sig: api.Sig{Server: "q", Sum: 4}}
}

func forge(t *testing.T, kind int, e api.Event) []api.Packet {
	t.Helper()
	l, err := Forge(api.Server{Name: "x", Down: true}, api.Deed{Kind: kind, To: "c", Event: e})
	if err != api.OK {
		t.Fatal("Forge", err)
	}
	for _, p := range l {
		p.Events = nil
		want := api.Packet{From: "x", To: "c", Kind: api.PTxn}
		if kind == 6 {
			want.Kind, want.Room = api.PAnswer, e.Room
		}
		if fmt.Sprint(p) != fmt.Sprint(want) {
			t.Error("the packet", p)
		}
	}
	return l
}

func events(l []api.Packet) []api.Event {
	all := []api.Event{}
	for _, p := range l {
		all = append(all, p.Events...)
	}
	return all
}

func TestForge(t *testing.T) {
	e := message()
	own := e
	own.Sender = "@bob:x"
	late := own
	late.Time = 8
	other := event.Sign(e, "b")
	x := other
	x.Time = 8
	other.Sig.Sum = event.IdOf(x)
	bare := event.Sign(e, "b")
	bare.Sig = api.Sig{}
	for kind, want := range map[int][]api.Event{
		1: {event.Sign(own, "x")}, 2: {other}, 3: {event.Sign(own, "x"), event.Sign(late, "x")}, 4: {event.Sign(e, "x")}, 5: {}, 6: {bare},
	} {
		got := forge(t, kind, e)
		if !store.Same(events(got), want) || len(got) != len(want) {
			t.Errorf("the deed %d: %v", kind, events(got))
		}
	}
	verdicts := []api.Errno{}
	for kind := 1; kind <= 6; kind++ {
		for _, f := range events(forge(t, kind, e)) {
			verdicts = append(verdicts, event.Verify(f))
		}
	}
	if got := fmt.Sprint(verdicts); got != fmt.Sprint([]api.Errno{api.OK, api.ErrSign, api.OK, api.OK, api.ErrSign, api.ErrSign}) {
		t.Error("what others say", got)
	}
}

func TestOddEvents(t *testing.T) {
	e := message()
	e.Sender = "nobody"
	if got := events(forge(t, 1, e)); got[0].Sender != "nobody" || got[0].Sig.Server != "x" {
		t.Error("an event without an own form", got)
	}
	room := message()
	room.Sender = "!bob:b"
	if got := events(forge(t, 1, room)); got[0].Sender != "@bob:x" {
		t.Error("a room as sender", got[0].Sender)
	}
	last := message()
	last.Time = api.MaxInt
	if got := forge(t, 2, last); len(got) != 0 {
		t.Error("no other sum", got)
	}
	if got := events(forge(t, 3, last)); len(got) != 2 || got[1].Time != api.MaxInt {
		t.Error("twins that are equal", got)
	}
	if l, err := Forge(api.Server{}, api.Deed{Kind: 1, To: "c", Event: message()}); err != api.OK || l[0].Events[0].Sender != "@bob:b" {
		t.Error("a server without a name", err)
	}
}

func TestSigned(t *testing.T) {
	own, other := message(), message()
	own.Sender = "@bob:x"
	good, foreign := event.Sign(own, "x"), event.Sign(other, "b")
	for i, c := range []struct {
		server string
		l      []api.Event
		want   bool
	}{{"x", nil, true}, {"x", []api.Event{good}, true}, {"x", []api.Event{good, foreign}, false}, {"x", []api.Event{good, event.Sign(other, "x"), {}}, true}, {"b", []api.Event{foreign}, true}, {"b", []api.Event{good}, false}} {
		if got := Signed(c.server, c.l); got != c.want {
			t.Errorf("%d: %t", i, got)
		}
	}
}

func TestNobodySpeaksForOthers(t *testing.T) {
	source := rand.New(rand.NewSource(1))
	for range 25 {
		s := sample.Random(source.Intn, 15)
		r := sample.Received(s, source.Intn)
		names := []string{"evil", "b", "x"}
		name := names[source.Intn(3)]
		for kind := 1; kind <= 6; kind++ {
			e := s.Events[source.Intn(len(s.Events))]
			switch source.Intn(3) {
			case 0:
				e = s.Frame("@ann:a", api.KName, "", api.Content{Text: "forged"}, 3)
			case 1:
				e.Content.Text = "changed"
			}
			l, err := Forge(api.Server{Name: name}, api.Deed{Kind: kind, To: "c", Event: e})
			if err != api.OK || !Signed(name, events(l)) {
				t.Fatal("Forge", kind, e, err)
			}
			for _, f := range events(l) {
				next, _, err := room.Receive(r, f)
				if ids.ServerOf(f.Sender) != name && (err == api.OK || !room.Same(next, r)) {
					t.Fatal("a forged event is taken in", kind, f, err)
				}
			}
		}
	}
}

func TestResultsAreNewMemory(t *testing.T) {
	e := message()
	old := clone.Event(e)
	for kind := 1; kind <= 6; kind++ {
		for _, f := range events(forge(t, kind, e)) {
			f.Prev[0], f.Auth[0] = 99, 99
		}
	}
	if !event.Same(e, old) {
		t.Error("a result shares memory with an argument")
	}
}
