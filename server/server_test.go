package server_test

import (
	"fmt"
	"slices"
	"testing"

	"fedchat/api"
	"fedchat/build"
	"fedchat/clone"
	"fedchat/event"
	"fedchat/outgoing"
	"fedchat/room"
	"fedchat/sample"
	. "fedchat/server"
	"fedchat/store"
)

// same compares servers and packets, in which nil and empty lists are equal.
func same(a, b any) bool {
	return fmt.Sprint(a) == fmt.Sprint(b)
}

// hosted returns a server with a room that the sample has, as its events came in order.
func hosted(name string, samples ...*sample.Room) api.Server {
	s := api.Server{Name: name}
	for _, r := range samples {
		s = Put(s, sample.InOrder(r))
	}
	return s
}

// shared returns a public room of @ann:a, in which users of other servers are joined.
func shared(users ...string) *sample.Room {
	r := sample.New("!r:a", "@ann:a", api.Public, api.Shared)
	for _, user := range users {
		r.Add(user, api.KMember, user, api.Content{N: api.Join}, 0)
	}
	return r
}

func next(t *testing.T, s api.Server, id, user string, k api.Kind, key string, c api.Content) api.Event {
	t.Helper()
	r, _ := Room(s, id)
	e, err := build.Next(r.Events, user, k, key, c, 5)
	if err != api.OK {
		t.Fatal("build.Next", err)
	}
	return e
}

func queued(s api.Server, to string) []int {
	for _, q := range s.Queues {
		if q.To == to {
			return store.Ids(q.Events)
		}
	}
	return nil
}

func TestNew(t *testing.T) {
	if s, err := New("a"); err != api.OK || !same(s, api.Server{Name: "a"}) || Check(s) != api.OK {
		t.Error("New", s, err)
	}
	if s, err := New("A"); err != api.ErrName || !same(s, api.Server{}) {
		t.Error("New of no server", s, err)
	}
}

func TestRoomAndPut(t *testing.T) {
	s := api.Server{}
	for _, id := range []string{"!m:a", "!z:a", "!a:a"} {
		s = Put(s, api.Room{Id: id})
	}
	s = Put(s, api.Room{Id: "!m:a", Next: 7})
	if len(s.Rooms) != 3 || s.Rooms[0].Id != "!a:a" || s.Rooms[1].Next != 7 || s.Rooms[2].Id != "!z:a" {
		t.Error("Put", s.Rooms)
	}
	if r, ok := Room(s, "!m:a"); !ok || r.Next != 7 {
		t.Error("Room", r, ok)
	}
	if r, ok := Room(s, "!q:a"); ok || !room.Same(r, api.Room{}) {
		t.Error("an unknown room", r)
	}
	twice := api.Server{Rooms: []api.Room{{Id: "!b:a", Next: 1}, {Id: "!a:a"}, {Id: "!b:a", Next: 2}}}
	if r, _ := Room(twice, "!b:a"); r.Next != 1 {
		t.Error("the first room with an id", r)
	}
	if got := Put(twice, api.Room{Id: "!b:a", Next: 3}); got.Rooms[0].Next != 3 || got.Rooms[2].Next != 2 {
		t.Error("Put of an id that occurs twice", got.Rooms)
	}
}

func TestLocalCreatesRooms(t *testing.T) {
	s := api.Server{Name: "a"}
	first, _ := build.First("!r:a", "@ann:a", 0)
	got, err := Local(s, first)
	if r, _ := Room(got, "!r:a"); err != api.OK || len(r.Events) != 1 || len(got.Queues) != 0 || Check(got) != api.OK {
		t.Error("the first event", err)
	}
	foreign := event.Sign(api.Event{Room: "!r:b", Sender: "@ann:a", Kind: api.KCreate, State: true, Depth: 1}, "a")
	join := shared().Events[0]
	if join.Kind == api.KCreate {
		join = shared().Events[1]
	}
	full := api.Server{Name: "a"}
	for i := range api.MaxRooms {
		full.Rooms = append(full.Rooms, api.Room{Id: fmt.Sprintf("!x%02d:a", i)})
	}
	for name, c := range map[string]struct {
		s    api.Server
		e    api.Event
		want api.Errno
	}{
		"another server's room": {s, foreign, api.ErrNone},
		"no creation":           {s, join, api.ErrNone},
		"many rooms":            {full, first, api.ErrFull},
		"another server's user": {api.Server{Name: "b"}, first, api.ErrArg},
		"down":                  {api.Server{Name: "b", Down: true}, first, api.ErrDown},
		"no name":               {api.Server{}, api.Event{Kind: api.KCreate}, api.ErrName},
	} {
		if got, err := Local(c.s, c.e); err != c.want || !same(got, c.s) {
			t.Errorf("%s: %d", name, err)
		}
	}
}

func TestLocalErrors(t *testing.T) {
	r := shared("@bob:b")
	s := hosted("a", r)
	ban := next(t, s, "!r:a", "@ann:a", api.KMember, "@dan:a", api.Content{N: api.Ban})
	r.Put(ban)
	s = hosted("a", r)
	rejected := r.Frame("@eve:a", api.KMessage, "", api.Content{Text: "x"}, 0)
	soft := r.Frame("@dan:a", api.KMember, "@dan:a", api.Content{N: api.Join}, 0, ban.Prev...)
	gap := clone.Event(soft)
	gap.Prev = []int{1}
	unsigned := clone.Event(rejected)
	for name, c := range map[string]struct {
		e    api.Event
		want api.Errno
	}{
		"rejected": {event.Sign(rejected, "a"), api.ErrMember}, "soft": {event.Sign(soft, "a"), api.ErrSoft}, "a gap": {event.Sign(gap, "a"), api.ErrGap}, "not signed": {unsigned, api.ErrSum}, "wrongly signed": {event.Sign(rejected, "b"), api.ErrSign},
		"another user": {event.Sign(r.Frame("@bob:b", api.KMessage, "", api.Content{}, 0), "b"), api.ErrArg},
	} {
		if got, err := Local(s, c.e); err != c.want || !same(got, s) {
			t.Errorf("%s: %d, want %d", name, err, c.want)
		}
	}
}

func TestLocalPushes(t *testing.T) {
	r := shared("@bob:b", "@cy:c", "@dan:a")
	s := hosted("a", r)
	message := next(t, s, "!r:a", "@ann:a", api.KMessage, "", api.Content{Text: "hi"})
	got, err := Local(s, message)
	if err != api.OK || !slices.Equal(queued(got, "b"), []int{message.Id}) || !slices.Equal(queued(got, "c"), []int{message.Id}) || len(got.Queues) != 2 || got.Queues[0].To != "b" {
		t.Fatal("a message", err, got.Queues)
	}
	if !event.Same(got.Queues[0].Events[0], message) || Check(got) != api.OK {
		t.Error("the message in the queue", got.Queues[0].Events[0])
	}
	// The server of a user who is removed still gets the event that removes it.
	kick := next(t, got, "!r:a", "@ann:a", api.KMember, "@bob:b", api.Content{N: api.Leave})
	got, err = Local(got, kick)
	if err != api.OK || !slices.Equal(queued(got, "b"), []int{message.Id, kick.Id}) {
		t.Error("a kick", err, queued(got, "b"))
	}
	later := next(t, got, "!r:a", "@ann:a", api.KMessage, "", api.Content{Text: "ho"})
	got, err = Local(got, later)
	if err != api.OK || len(queued(got, "b")) != 2 || !slices.Equal(queued(got, "c"), []int{message.Id, kick.Id, later.Id}) {
		t.Error("a later message", err, got.Queues)
	}
	again, err := Local(got, later)
	if err != api.OK || !same(again, got) {
		t.Error("the same message again", err)
	}
}

func TestPushedEventsAreStripped(t *testing.T) {
	r := sample.New("!r:a", "@ann:a", api.Public, api.Joined)
	r.Add("@bob:b", api.KMember, "@bob:b", api.Content{N: api.Join}, 0)
	s := hosted("a", r)
	own := next(t, s, "!r:a", "@ann:a", api.KMessage, "", api.Content{Text: "hi"})
	s, _ = Local(s, own)
	deny := next(t, s, "!r:a", "@ann:a", api.KAccess, "", api.Content{Allow: []string{"a"}})
	s, err := Local(s, deny)
	if err != api.OK || !slices.Equal(queued(s, "b"), []int{own.Id, deny.Id}) {
		t.Error("the list that shuts a server out goes to it", err, queued(s, "b"))
	}
	secret := next(t, s, "!r:a", "@ann:a", api.KMessage, "", api.Content{Text: "secret"})
	s, _ = Local(s, secret)
	if len(queued(s, "b")) != 2 {
		t.Error("a server that is not allowed gets a message")
	}
	// The redaction of a message is pushed with the room as it is then.
	twice := hosted("a", shared("@bob:b"))
	message := next(t, twice, "!r:a", "@ann:a", api.KName, "", api.Content{Text: "name"})
	twice, _ = Local(twice, message)
	red := next(t, twice, "!r:a", "@ann:a", api.KRedact, "", api.Content{Target: message.Id, Text: "why"})
	twice, _ = Local(twice, red)
	rm, _ := Room(twice, "!r:a")
	if e := outgoing.Event(rm, red, "b"); !event.Same(twice.Queues[0].Events[1], e) {
		t.Error("the redaction", twice.Queues[0].Events[1])
	}
}

func TestFullQueuesAreIgnored(t *testing.T) {
	s := hosted("a", shared("@bob:b"))
	q := api.Queue{To: "b"}
	for id := range 500 {
		q.Events = append(q.Events, api.Event{Id: id})
	}
	s.Queues = []api.Queue{q}
	got, err := Local(s, next(t, s, "!r:a", "@ann:a", api.KMessage, "", api.Content{}))
	if err != api.OK || len(queued(got, "b")) != 500 {
		t.Error("a full queue", err)
	}
}

func TestFlush(t *testing.T) {
	s := api.Server{Name: "a", Now: 100, Queues: []api.Queue{{To: "b", Events: []api.Event{{Id: 1}}}, {To: "c"}, {To: "d", Next: 4, Open: []api.Event{{Id: 2}}, At: 200, Fails: 1}}}
	got, l := Flush(s, 150)
	if got.Now != 150 || len(l) != 1 || !same(l[0], api.Packet{From: "a", To: "b", Kind: api.PTxn, Events: []api.Event{{Id: 1}}}) || len(got.Queues[0].Open) != 1 || len(got.Queues[0].Events) != 0 {
		t.Error("Flush", got, l)
	}
	got, l = Flush(got, 250)
	if got.Now != 250 || len(l) != 2 || l[0].To != "b" || l[1].To != "d" || l[1].N != 3 {
		t.Error("later", l)
	}
	if again, _ := Flush(got, 5); !same(again, got) {
		t.Error("an earlier time", again.Now)
	}
	s.Down = true
	if got, l := Flush(s, 999); got.Now != 999 || len(l) != 0 || !same(got.Queues, s.Queues) {
		t.Error("down", got.Now, l)
	}
}

func TestCheck(t *testing.T) {
	good := hosted("a", shared("@bob:b"))
	second := sample.InOrder(sample.New("!s:a", "@ann:a", api.Public, api.Shared))
	good = Put(good, second)
	good.Queues = []api.Queue{{To: "b"}, {To: "c", Next: 5}}
	for name, c := range map[string]struct {
		change func(s *api.Server)
		want   api.Errno
	}{
		"good":               {func(s *api.Server) {}, api.OK},
		"name":               {func(s *api.Server) { s.Name = ""; s.Rooms[0].Next = 0 }, api.ErrName},
		"many rooms":         {func(s *api.Server) { s.Rooms = make([]api.Room, 21) }, api.ErrFull},
		"rooms in disorder":  {func(s *api.Server) { slices.Reverse(s.Rooms) }, api.ErrOrder},
		"a room twice":       {func(s *api.Server) { s.Rooms[1] = s.Rooms[0]; s.Rooms[0].Next = 0 }, api.ErrOrder},
		"a wrong room":       {func(s *api.Server) { s.Rooms[1].Next = 0; s.Queues[1].Next = -1 }, api.ErrForm},
		"queues in disorder": {func(s *api.Server) { slices.Reverse(s.Queues) }, api.ErrOrder},
		"a queue twice":      {func(s *api.Server) { s.Queues[1].To = "b"; s.Queues[1].Next = -1 }, api.ErrOrder},
		"a wrong queue":      {func(s *api.Server) { s.Queues[1].Next = -1; s.Pending = make([]api.Packet, 101) }, api.ErrRange},
		"many requests":      {func(s *api.Server) { s.Pending = make([]api.Packet, 101) }, api.ErrFull},
		"not too many":       {func(s *api.Server) { s.Pending = make([]api.Packet, 100) }, api.OK},
		"other fields":       {func(s *api.Server) { s.Users, s.Stream, s.Now, s.Down = []string{"x", "a"}, -1, -1, true }, api.OK},
	} {
		s := clone.Server(good)
		c.change(&s)
		if got := Check(s); got != c.want {
			t.Errorf("%s: %d, want %d", name, got, c.want)
		}
	}
}

func TestArgumentsAreKept(t *testing.T) {
	r := shared("@bob:b")
	s := hosted("a", r)
	s.Queues = []api.Queue{{To: "b", Next: 1, Open: []api.Event{{Id: 1, Prev: []int{1}}}}}
	s.Pending = []api.Packet{{To: "b", Kind: api.PMakeJoin, Room: "!q:b", Ids: []int{4}}}
	message := event.Sign(r.Frame("@ann:a", api.KMessage, "", api.Content{Text: "x"}, 0), "a")
	theirs := event.Sign(r.Frame("@bob:b", api.KMessage, "", api.Content{Text: "y"}, 0), "b")
	old := clone.Server(s)
	spoil := func(x api.Server, l []api.Packet) {
		for i := range x.Rooms {
			x.Rooms[i].Rows[0].Pos, x.Rooms[i].Events[1].Sender = 99, "spoiled"
			for j := range x.Rooms[i].Events {
				if len(x.Rooms[i].Events[j].Prev) > 0 {
					x.Rooms[i].Events[j].Prev[0] = 99
				}
			}
		}
		for i := range x.Queues {
			for j := range x.Queues[i].Open {
				x.Queues[i].Open[j].Prev[0] = 99
			}
		}
		for i := range x.Pending {
			x.Pending[i].Ids = append(x.Pending[i].Ids[:0], 99)
		}
		for i := range l {
			for j := range l[i].Events {
				l[i].Events[j].Prev = append(l[i].Events[j].Prev[:0], 99)
			}
		}
	}
	x, _ := Local(s, message)
	spoil(x, nil)
	x, _ = Local(s, theirs)
	spoil(x, nil)
	for _, p := range []api.Packet{
		{From: "b", To: "a", Kind: api.PTxn, Events: []api.Event{theirs}}, {From: "b", To: "a", Kind: api.PMissing, Room: "!r:a", Ids: store.Ids(r.Events), N: 50}, {From: "b", To: "a", Kind: 99}, {From: "b", To: "a", Kind: api.PAnswer, Room: "!q:b", Err: api.ErrNone}, {From: "b", To: "a", Kind: api.PAnswer},
	} {
		x, l := Handle(s, p)
		spoil(x, l)
	}
	x, l := Flush(s, 5)
	spoil(x, l)
	spoil(Put(s, api.Room{Id: "!z:z", Rows: []api.Row{{}}, Events: make([]api.Event, 2)}), nil)
	if !same(s, old) || theirs.Prev[0] == 99 {
		t.Error("an argument was changed")
	}
}
