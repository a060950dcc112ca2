package queues_test

import (
	"math"
	"math/rand"
	"slices"
	"testing"

	"fedchat/api"
	"fedchat/clone"
	"fedchat/num"
	. "fedchat/queues"
	"fedchat/store"
)

func events(from, to int) []api.Event {
	l := []api.Event{}
	for id := from; id < to; id++ {
		l = append(l, api.Event{Id: id, Prev: []int{id}})
	}
	return l
}

func same(a, b api.Queue) bool {
	return a.To == b.To && a.Next == b.Next && a.Fails == b.Fails && a.At == b.At && store.Same(a.Events, b.Events) && store.Same(a.Open, b.Open)
}

// isPacket reports whether a packet has just the fields of a transaction.
func isPacket(p api.Packet, to string, n int, ids ...int) bool {
	return p.From == "" && p.To == to && p.Kind == api.PTxn && p.N == n && p.Room == "" && p.User == "" && p.Err == 0 && len(p.Ids)+len(p.Auth) == 0 && slices.Equal(store.Ids(p.Events), ids)
}

func TestExample(t *testing.T) {
	q := api.Queue{To: "b"}
	for _, e := range events(1, 3) {
		q, _ = Push(q, e)
	}
	q, p, ok := Open(q, 500)
	if !ok || !isPacket(p, "b", 0, 1, 2) || q.Next != 1 || len(q.Events) != 0 {
		t.Fatal("the first packet", p, ok)
	}
	if again, p, ok := Open(q, 500); !ok || !isPacket(p, "b", 0, 1, 2) || !same(again, q) {
		t.Error("the same packet again", p, ok)
	}
	if !same(Ack(q, 1), q) {
		t.Error("Ack of another number")
	}
	if !same(Ack(q, 0), api.Queue{To: "b", Next: 1}) {
		t.Error("Ack", Ack(q, 0))
	}
	q = Fail(q, 500)
	if _, p, ok := Open(q, 1499); ok || !isNone(p) {
		t.Error("too early", p)
	}
	if _, p, ok := Open(q, 1500); !ok || !isPacket(p, "b", 0, 1, 2) {
		t.Error("in time", p)
	}
	if q = Fail(q, 1500); q.At != 3500 || q.Fails != 2 {
		t.Error("the second failure", q)
	}
	if q = Ack(q, 0); !same(q, api.Queue{To: "b", Next: 1}) {
		t.Error("Ack after failures", q)
	}
}

func isNone(p api.Packet) bool {
	return p.To == "" && p.Kind == 0 && p.N == 0 && len(p.Events) == 0
}

func TestPush(t *testing.T) {
	q := api.Queue{To: "b", Next: 3, Events: events(10, 12), Open: events(1, 3)}
	if got, err := Push(q, api.Event{Id: 5}); err != api.OK || !slices.Equal(store.Ids(got.Events), []int{10, 11, 5}) || len(got.Open) != 2 {
		t.Error("Push", got, err)
	}
	for _, id := range []int{1, 2, 10, 11} {
		if got, err := Push(q, api.Event{Id: id, Time: 9}); err != api.ErrTwice || !same(got, q) {
			t.Error("twice", id, err)
		}
	}
	full := api.Queue{To: "b", Next: 1, Events: events(0, 450), Open: events(1000, 1050)}
	if got, err := Push(full, api.Event{Id: 7000}); err != api.ErrFull || !same(got, full) {
		t.Error("a full queue", err)
	}
	if _, err := Push(full, api.Event{Id: 7}); err != api.ErrTwice {
		t.Error("twice in a full queue", err)
	}
	full.Events = full.Events[1:]
	if got, err := Push(full, api.Event{Id: 7000}); err != api.OK || Size(got) != 500 || Check(got) != api.OK {
		t.Error("the last place", err)
	}
}

func TestOpen(t *testing.T) {
	q := api.Queue{To: "b", Next: 7, Events: events(0, 120)}
	next, p, ok := Open(q, -5)
	if !ok || p.N != 7 || len(p.Events) != 50 || len(next.Open) != 50 || len(next.Events) != 70 || next.Events[0].Id != 50 || next.Next != 8 {
		t.Error("a long queue", p.N, len(p.Events))
	}
	for name, q := range map[string]api.Queue{"an empty queue": {To: "b", Next: 2}, "the last number": {To: "b", Next: api.MaxInt, Events: events(0, 1)}} {
		if got, p, ok := Open(q, 0); ok || !isNone(p) || !same(got, q) {
			t.Error(name, p)
		}
	}
	last := api.Queue{To: "b", Next: api.MaxInt - 1, Events: events(0, 1)}
	if got, p, ok := Open(last, 0); !ok || p.N != api.MaxInt-1 || got.Next != api.MaxInt || Check(got) != api.OK {
		t.Error("the last packet", p)
	}
	at := api.Queue{To: "b", Next: 1, Open: events(0, 1), At: -3, Fails: 1}
	if _, _, ok := Open(at, -4); ok {
		t.Error("before a negative time")
	}
	if _, _, ok := Open(at, -3); !ok {
		t.Error("at a negative time")
	}
}

func TestFail(t *testing.T) {
	q := api.Queue{To: "b", Next: 1, Open: events(0, 1)}
	for i, wait := range []int{1000, 2000, 4000, 8000, 16000, 32000, 64000, 64000, 64000} {
		before := q
		if q = Fail(q, 100); q.At != 100+wait || q.Fails != i+1 || q.Next != before.Next || len(q.Open) != 1 {
			t.Error("the failure", i, q)
		}
	}
	if empty := (api.Queue{To: "b", Events: events(0, 1)}); !same(Fail(empty, 5), empty) {
		t.Error("nothing was sent")
	}
	often := api.Queue{To: "b", Next: 1, Open: events(0, 1), Fails: api.MaxInt, At: 5}
	if !same(Fail(often, 9), often) {
		t.Error("too many failures")
	}
	often.Fails--
	if got := Fail(often, math.MaxInt); got.At != api.MaxInt || got.Fails != api.MaxInt || Check(got) != api.OK {
		t.Error("the last failure", got.At)
	}
	if got := Fail(q, math.MinInt); got.At != num.Add(-api.MaxInt, 64000) {
		t.Error("a very early time", got.At)
	}
}

func TestCheck(t *testing.T) {
	good := api.Queue{To: "b", Next: 1, Events: events(100, 105), Open: events(1, 4), Fails: 2, At: -7}
	for name, c := range map[string]struct {
		change func(q *api.Queue)
		want   api.Errno
	}{
		"good":               {func(q *api.Queue) {}, api.OK},
		"empty":              {func(q *api.Queue) { *q = api.Queue{To: "b"} }, api.OK},
		"no server":          {func(q *api.Queue) { q.To = "" }, api.ErrName},
		"name and number":    {func(q *api.Queue) { q.To, q.Next = "B", -1 }, api.ErrName},
		"next":               {func(q *api.Queue) { q.Next = -1 }, api.ErrRange},
		"a great next":       {func(q *api.Queue) { q.Next = api.MaxInt + 1 }, api.ErrRange},
		"fails":              {func(q *api.Queue) { q.Fails = -1 }, api.ErrRange},
		"many fails":         {func(q *api.Queue) { q.Fails = api.MaxInt + 1 }, api.ErrRange},
		"at":                 {func(q *api.Queue) { q.At = -api.MaxInt - 1 }, api.ErrRange},
		"a great at":         {func(q *api.Queue) { q.At = api.MaxInt + 1 }, api.ErrRange},
		"least at":           {func(q *api.Queue) { q.At = -api.MaxInt }, api.OK},
		"range before long":  {func(q *api.Queue) { q.At, q.Open = api.MaxInt+1, events(0, 51) }, api.ErrRange},
		"long":               {func(q *api.Queue) { q.Open = events(0, 51) }, api.ErrLong},
		"not too long":       {func(q *api.Queue) { q.Open = events(0, 50) }, api.OK},
		"full":               {func(q *api.Queue) { q.Events = events(100, 598) }, api.ErrFull},
		"not too full":       {func(q *api.Queue) { q.Events = events(100, 597) }, api.OK},
		"full before twice":  {func(q *api.Queue) { q.Events = make([]api.Event, 501) }, api.ErrFull},
		"twice":              {func(q *api.Queue) { q.Events[1].Id = q.Events[3].Id }, api.ErrTwice},
		"twice in both":      {func(q *api.Queue) { q.Events[1].Id = q.Open[0].Id }, api.ErrTwice},
		"fails without open": {func(q *api.Queue) { q.Open, q.At = nil, 0 }, api.ErrState},
		"at without open":    {func(q *api.Queue) { q.Open, q.Fails = nil, 0 }, api.ErrState},
		"neither":            {func(q *api.Queue) { q.Open, q.Fails, q.At = nil, 0, 0 }, api.OK},
		"open without next":  {func(q *api.Queue) { q.Next = 0 }, api.ErrState},
	} {
		q := clone.Queue(good)
		c.change(&q)
		if got := Check(q); got != c.want {
			t.Errorf("%s: %d, want %d", name, got, c.want)
		}
	}
	if Size(good) != 8 || Size(api.Queue{}) != 0 {
		t.Error("Size")
	}
}

func TestAllEventsAreSentInOrder(t *testing.T) {
	source := rand.New(rand.NewSource(1))
	q := api.Queue{To: "b"}
	pushed, now, want := 0, 0, 0
	sent := []int{}
	for range 3000 {
		old := clone.Queue(q)
		now += source.Intn(900)
		switch source.Intn(5) {
		case 0, 1:
			next, err := Push(q, api.Event{Id: pushed, Prev: []int{1}})
			if err == api.OK {
				pushed++
			}
			next.Events[0].Prev[0] = 1
			q = next
		case 2:
			next, p, ok := Open(q, now)
			if ok && len(q.Open) == 0 {
				if p.N != want {
					t.Fatal("a gap in the numbers", p.N, want)
				}
				want++
				sent = append(sent, store.Ids(p.Events)...)
			}
			if ok != (len(q.Open) > 0 && q.At <= now || len(q.Open) == 0 && len(q.Events) > 0) {
				t.Fatal("Open", q, now, ok)
			}
			q = next
		case 3:
			q = Ack(q, q.Next-1-source.Intn(2))
		case 4:
			if len(q.Open) > 0 && source.Intn(2) == 0 {
				next := Fail(q, now)
				if next.At < now+1000 || next.At > now+64000 {
					t.Fatal("the waiting time", next.At-now)
				}
				q = next
			}
		}
		if Check(q) != api.OK {
			t.Fatal("no queue", q, old)
		}
	}
	for i, id := range sent {
		if id != i {
			t.Fatal("another order", sent)
		}
	}
	if len(sent) < 100 {
		t.Error("few events were sent", len(sent))
	}
}

func TestResultsAreNewMemory(t *testing.T) {
	q := api.Queue{To: "b", Next: 1, Events: events(5, 7), Open: events(1, 3)}
	old := clone.Queue(q)
	e := api.Event{Id: 50, Prev: []int{1}}
	pushed, _ := Push(q, e)
	pushed.Events[2].Prev[0] = 9
	opened, p, _ := Open(q, 0)
	p.Events[0].Prev[0] = 9
	if opened.Open[0].Prev[0] == 9 {
		t.Error("the packet shares memory with the queue")
	}
	for _, next := range []api.Queue{pushed, opened, Ack(q, 5), Fail(q, 0)} {
		next.Events[0].Prev[0], next.Open[0].Prev[0] = 9, 9
	}
	if !same(q, old) || e.Prev[0] != 1 {
		t.Error("a result shares memory with an argument")
	}
}
