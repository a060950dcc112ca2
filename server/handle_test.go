package server_test

import (
	"fmt"
	"math/rand"
	"slices"
	"testing"

	"fedchat/api"
	"fedchat/build"
	"fedchat/clone"
	"fedchat/event"
	"fedchat/gaps"
	"fedchat/graph"
	"fedchat/ids"
	"fedchat/joining"
	"fedchat/members"
	"fedchat/room"
	"fedchat/sample"
	. "fedchat/server"
	"fedchat/store"
)

// expect checks the packets that Handle returns.
func expect(t *testing.T, name string, got []api.Packet, want ...api.Packet) {
	t.Helper()
	if !same(got, want) {
		t.Errorf("%s: the packets are %v, want %v", name, got, want)
	}
}

// answers is an answer of the server a to the server b.
func answers(n int, room string, err api.Errno) api.Packet {
	return api.Packet{From: "a", To: "b", Kind: api.PAnswer, N: n, Room: room, Err: err}
}

func request(k api.PacketKind, n int) api.Packet {
	return api.Packet{From: "b", To: "a", Kind: k, N: n, Room: "!r:a"}
}

// denying returns the events of a public room that does not allow the server b.
func denying(users ...string) *sample.Room {
	r := shared(users...)
	r.Add("@ann:a", api.KAccess, "", api.Content{Allow: []string{"*"}, Deny: []string{"b"}}, 0)
	return r
}

func TestPacketsThatAreNotHandled(t *testing.T) {
	s := hosted("a", shared("@bob:b"))
	down := clone.Server(s)
	down.Down = true
	ask := request(api.PMissing, 5)
	with := func(change func(p *api.Packet)) api.Packet {
		p := ask
		change(&p)
		return p
	}
	for name, c := range map[string]struct {
		s api.Server
		p api.Packet
	}{
		"down": {down, ask}, "to another": {s, with(func(p *api.Packet) { p.To = "c" })}, "from itself": {s, with(func(p *api.Packet) { p.From = "a" })}, "from nobody": {s, with(func(p *api.Packet) { p.From = "" })}, "from no server": {s, with(func(p *api.Packet) { p.From = "B" })},
		"kind 0": {s, with(func(p *api.Packet) { p.Kind = 0 })}, "kind 9": {s, with(func(p *api.Packet) { p.Kind = 9 })},
	} {
		got, l := Handle(c.s, c.p)
		if !same(got, c.s) || len(l) != 0 {
			t.Errorf("%s: something happens", name)
		}
	}
	if _, l := Handle(s, ask); len(l) != 1 {
		t.Error("the packet itself")
	}
}

func TestTransaction(t *testing.T) {
	r := shared("@bob:b")
	s := hosted("a", r)
	first := r.Add("@bob:b", api.KMessage, "", api.Content{Text: "one"}, 0)
	second := r.Add("@bob:b", api.KMessage, "", api.Content{Text: "two"}, 0)
	other := sample.New("!q:b", "@bob:b", api.Public, api.Shared).Events[0]
	p := api.Packet{From: "b", To: "a", Kind: api.PTxn, N: 7, Room: "ignored", Events: []api.Event{second, other}}
	got, l := Handle(s, p)
	expect(t, "a gap", l, answers(7, "", api.OK), api.Packet{From: "a", To: "b", Kind: api.PMissing, N: api.MaxPage, Room: "!r:a", Ids: []int{first.Id}})
	if rm, _ := Room(got, "!r:a"); len(rm.Waiting) != 1 || len(got.Rooms) != 1 || len(got.Queues) != 0 {
		t.Error("the event does not wait", rm.Waiting)
	}
	p.Events = []api.Event{first, {}}
	got, l = Handle(got, p)
	expect(t, "the first event", l, answers(7, "", api.OK))
	rm, _ := Room(got, "!r:a")
	if row, _ := room.Row(rm, second.Id); row.Status != api.Accepted || len(rm.Waiting) != 0 || Check(got) != api.OK {
		t.Error("both events", rm.Rows)
	}
	again, l := Handle(got, p)
	expect(t, "again", l, answers(7, "", api.OK))
	if !same(again, got) {
		t.Error("the same transaction changes something")
	}
	_, l = Handle(got, api.Packet{From: "b", To: "a", Kind: api.PTxn, N: 8})
	expect(t, "an empty transaction", l, answers(8, "", api.OK))
}

func TestTransactionOfServersThatAreNotAllowed(t *testing.T) {
	r := denying("@bob:b")
	s := hosted("a", r)
	join := slices.IndexFunc(r.Events, func(e api.Event) bool { return e.Key == "@bob:b" })
	e := event.Sign(r.Frame("@bob:b", api.KMessage, "", api.Content{Text: "x"}, 0, r.Events[join].Id), "b")
	got, l := Handle(s, api.Packet{From: "b", To: "a", Kind: api.PTxn, Events: []api.Event{e}})
	expect(t, "denied", l, answers(0, "", api.OK))
	if !same(got, s) {
		t.Error("an event of a denied server is taken in")
	}
	got, l = Handle(s, api.Packet{From: "c", To: "a", Kind: api.PTxn, Events: []api.Event{e}})
	if rm, _ := Room(got, "!r:a"); len(rm.Events) != len(r.Events)+1 || len(l) != 1 {
		t.Error("an event that another server brings")
	}
}

func TestRequestsForTwoRooms(t *testing.T) {
	r := shared("@bob:b")
	q := sample.New("!a:a", "@ann:a", api.Public, api.Shared)
	s := hosted("a", r, q)
	gap := func(x *sample.Room, user string) api.Event {
		x.Add("@ann:a", api.KMessage, "", api.Content{Text: "lost"}, 0)
		return x.Add(user, api.KMessage, "", api.Content{Text: "late"}, 0)
	}
	late, later := gap(r, "@bob:b"), gap(q, "@ann:a")
	_, l := Handle(s, api.Packet{From: "b", To: "a", Kind: api.PTxn, Events: []api.Event{late, later, late}})
	expect(t, "two rooms", l, answers(0, "", api.OK), api.Packet{From: "a", To: "b", Kind: api.PMissing, N: api.MaxPage, Room: "!a:a", Ids: later.Prev}, api.Packet{From: "a", To: "b", Kind: api.PMissing, N: api.MaxPage, Room: "!r:a", Ids: late.Prev})
}

func TestMissingAndBack(t *testing.T) {
	r := shared("@bob:b")
	s := hosted("a", r)
	rm, _ := Room(s, "!r:a")
	order := graph.Order(rm.Events)
	p := request(api.PMissing, 2)
	p.Ids = []int{order[3], order[1]}
	want := answers(2, "!r:a", api.OK)
	want.Events = gaps.Answer(rm, "b", p.Ids, nil, 2)
	got, l := Handle(s, p)
	expect(t, "PMissing", l, want)
	if !same(got, s) || len(want.Events) != 2 {
		t.Error("the server is changed")
	}
	p.Kind = api.PBack
	want.Events = gaps.Answer(rm, "b", rm.Heads, p.Ids, 2)
	_, l = Handle(s, p)
	expect(t, "PBack", l, want)
	for _, k := range []api.PacketKind{api.PMissing, api.PBack} {
		unknown := request(k, 3)
		unknown.Room = "!x:a"
		_, l = Handle(s, unknown)
		expect(t, "an unknown room", l, answers(3, "!x:a", api.ErrNone))
		_, l = Handle(hosted("a", shared("@cy:c")), request(k, 3))
		expect(t, "no part in the room", l, answers(3, "!r:a", api.ErrAccess))
		_, l = Handle(hosted("a", denying("@bob:b")), request(k, 3))
		expect(t, "denied", l, answers(3, "!r:a", api.ErrAccess))
	}
}

func TestMakeJoin(t *testing.T) {
	s := hosted("a", shared())
	s.Now = 44
	rm, _ := Room(s, "!r:a")
	ask := request(api.PMakeJoin, 6)
	ask.User = "@bob:b"
	join, _ := joining.Make(rm, "@bob:b", "", 44)
	want := answers(6, "!r:a", api.OK)
	want.User, want.Events = "@bob:b", []api.Event{join}
	got, l := Handle(s, ask)
	expect(t, "PMakeJoin", l, want)
	if !same(got, s) {
		t.Error("the server is changed")
	}
	foreign, unknown := ask, ask
	foreign.User, unknown.Room, unknown.User = "@cy:c", "!x:a", "@cy:c"
	_, l = Handle(s, foreign)
	expect(t, "another server's user", l, answers(6, "!r:a", api.ErrArg))
	_, l = Handle(s, unknown)
	expect(t, "an unknown room", l, answers(6, "!x:a", api.ErrNone))
	_, l = Handle(hosted("a", denying()), foreign)
	expect(t, "denied", l, answers(6, "!r:a", api.ErrAccess))
	secret := hosted("a", sample.New("!r:a", "@ann:a", api.ByInvite, api.Shared))
	_, l = Handle(secret, ask)
	expect(t, "no invitation", l, answers(6, "!r:a", api.ErrRule))
}

// restricted returns a room that members of !s:a may join, with some users in it.
func restricted(users ...string) *sample.Room {
	r := sample.New("!r:a", "@zoe:a", api.Public, api.Shared)
	for _, user := range users {
		r.Add(user, api.KMember, user, api.Content{N: api.Join}, 0)
	}
	r.Add("@zoe:a", api.KRules, "", api.Content{N: api.Restricted, Allow: []string{"!s:a"}}, 0)
	return r
}

func lobby(users ...string) *sample.Room {
	r := sample.New("!s:a", "@zoe:a", api.Public, api.Shared)
	for _, user := range users {
		r.Add(user, api.KMember, user, api.Content{N: api.Join}, 0)
	}
	return r
}

func TestRestrictedRooms(t *testing.T) {
	s := hosted("a", restricted("@ann:a", "@cy:c"), lobby("@bob:b"))
	s.Now = 9
	ask := request(api.PMakeJoin, 6)
	ask.User = "@bob:b"
	got, l := Handle(s, ask)
	rm, _ := Room(got, "!r:a")
	before, _ := Room(s, "!r:a")
	invite, err := build.Next(before.Events, "@ann:a", api.KMember, "@bob:b", api.Content{N: api.Invite}, 9)
	if e, known := store.Get(rm.Events, invite.Id); err != api.OK || !known || !event.Same(e, invite) || len(rm.Events) != len(before.Events)+1 {
		t.Fatal("the first user by the state does not invite", err)
	}
	join, _ := joining.Make(rm, "@bob:b", "@ann:a", 9)
	want := answers(6, "!r:a", api.OK)
	want.User, want.Events = "@bob:b", []api.Event{join}
	expect(t, "restricted", l, want)
	if join.Content.Via != "@ann:a" || !slices.Equal(queued(got, "c"), []int{invite.Id}) || Check(got) != api.OK {
		t.Error("the invitation is not pushed", got.Queues)
	}
	again, l := Handle(got, ask)
	if len(l) != 1 || l[0].Err != api.OK || l[0].Events[0].Content.Via != "" || !same(again, got) {
		t.Error("the user is invited again", l)
	}
}

func TestRestrictedRoomsThatDoNotHelp(t *testing.T) {
	ask := request(api.PMakeJoin, 6)
	ask.User = "@bob:b"
	banned := restricted("@ann:a")
	banned.Add("@zoe:a", api.KMember, "@bob:b", api.Content{N: api.Ban}, 0)
	nobody := sample.New("!r:a", "@zoe:a", api.Public, api.Shared)
	nobody.Add("@cy:c", api.KMember, "@cy:c", api.Content{N: api.Join}, 0)
	nobody.Add("@zoe:a", api.KRules, "", api.Content{N: api.Restricted, Allow: []string{"!s:a"}}, 0)
	nobody.Add("@zoe:a", api.KMember, "@zoe:a", api.Content{N: api.Leave}, 0)
	weak := restricted("@ann:a")
	weak.Add("@zoe:a", api.KPower, "", api.Content{Levels: api.Levels{Users: []api.Level{{User: "@zoe:a", N: 100}}, Invite: 50}}, 0)
	weak.Add("@zoe:a", api.KMember, "@zoe:a", api.Content{N: api.Leave}, 0)
	for name, c := range map[string]struct {
		s    api.Server
		want api.Errno
	}{
		"not in the lobby":   {hosted("a", restricted(), lobby("@cy:c")), api.ErrRule},
		"no lobby":           {hosted("a", restricted()), api.ErrRule},
		"banned":             {hosted("a", banned, lobby("@bob:b")), api.ErrBanned},
		"nobody of this one": {hosted("a", nobody, lobby("@bob:b")), api.ErrRule},
		"a low level":        {hosted("a", weak, lobby("@bob:b")), api.ErrRule},
	} {
		got, l := Handle(c.s, ask)
		expect(t, name, l, answers(6, "!r:a", c.want))
		if !same(got, c.s) {
			t.Errorf("%s: the server is changed", name)
		}
	}
	// A higher level of another user of the server helps.
	strong := restricted("@ann:a")
	strong.Add("@zoe:a", api.KPower, "", api.Content{Levels: api.Levels{Users: []api.Level{{User: "@zoe:a", N: 100}}, Invite: 50}}, 0)
	_, l := Handle(hosted("a", strong, lobby("@bob:b")), ask)
	if len(l) != 1 || l[0].Err != api.OK || l[0].Events[0].Content.Via != "@zoe:a" {
		t.Error("the creator invites", l)
	}
	late := hosted("a", restricted("@ann:a"), lobby("@bob:b"))
	late.Now = api.MaxTime + 1
	same1, l := Handle(late, ask)
	expect(t, "an invitation that cannot be made", l, answers(6, "!r:a", api.ErrRange))
	if !same(same1, late) {
		t.Error("the server is changed")
	}
}

func TestSendJoin(t *testing.T) {
	r := shared("@cy:c", "@dan:d")
	s := hosted("a", r)
	join := event.Sign(r.Frame("@bob:b", api.KMember, "@bob:b", api.Content{N: api.Join, Text: "hello"}, 0), "b")
	p := request(api.PSendJoin, 3)
	p.Events = []api.Event{join}
	got, l := Handle(s, p)
	before, _ := Room(s, "!r:a")
	after, list, _ := joining.Send(before, join)
	want := answers(3, "!r:a", api.OK)
	want.Events, want.Auth = []api.Event{join}, list
	expect(t, "PSendJoin", l, want)
	if rm, _ := Room(got, "!r:a"); !room.Same(rm, after) || !slices.Equal(queued(got, "c"), []int{join.Id}) || !slices.Equal(queued(got, "d"), []int{join.Id}) || len(got.Queues) != 2 {
		t.Error("the join is not pushed", got.Queues)
	}
	again, l := Handle(got, p)
	if len(l) != 1 || l[0].Err != api.OK || !same(again, got) {
		t.Error("the same join again")
	}
	with := func(change func(p *api.Packet)) api.Packet {
		q := clone.Packet(p)
		change(&q)
		return q
	}
	for name, c := range map[string]struct {
		s    api.Server
		p    api.Packet
		want api.Errno
	}{
		"no events":         {s, with(func(p *api.Packet) { p.Events = nil }), api.ErrArg},
		"two events":        {s, with(func(p *api.Packet) { p.Events = append(p.Events, join) }), api.ErrArg},
		"another server's":  {s, with(func(p *api.Packet) { p.Events[0].Sender, p.Events[0].Key = "@cy:c", "@cy:c" }), api.ErrArg},
		"no join":           {s, with(func(p *api.Packet) { p.Events[0].Content.N = api.Leave }), api.ErrArg},
		"a wrong signature": {s, with(func(p *api.Packet) { p.Events[0].Sig.Sum++ }), api.ErrSign},
		"denied":            {hosted("a", denying()), with(func(p *api.Packet) { p.Events = nil }), api.ErrAccess},
		"a gap":             {hosted("a", sample.New("!r:a", "@ann:a", api.Public, api.World)), p, api.ErrGap},
	} {
		got, l := Handle(c.s, c.p)
		expect(t, name, l, answers(3, "!r:a", c.want))
		if !same(got, c.s) {
			t.Errorf("%s: the server is changed", name)
		}
	}
	unknown := with(func(p *api.Packet) { p.Room = "!x:a" })
	_, l = Handle(s, unknown)
	expect(t, "an unknown room", l, answers(3, "!x:a", api.ErrNone))
}

func TestKnockPackets(t *testing.T) {
	r := sample.New("!r:a", "@ann:a", api.Public, api.Shared)
	r.Add("@cy:c", api.KMember, "@cy:c", api.Content{N: api.Join}, 0)
	r.Add("@ann:a", api.KRules, "", api.Content{N: api.ByKnock}, 0)
	s := hosted("a", r)
	knocks := event.Sign(r.Frame("@bob:b", api.KMember, "@bob:b", api.Content{N: api.Knock, Text: "please"}, 0), "b")
	p := request(api.PKnock, 3)
	p.Events = []api.Event{knocks}
	got, l := Handle(s, p)
	want := answers(3, "!r:a", api.OK)
	want.Events = []api.Event{knocks}
	expect(t, "PKnock", l, want)
	if rm, _ := Room(got, "!r:a"); members.InState(rm.Events, rm.State, "@bob:b") != api.Knock || !slices.Equal(queued(got, "c"), []int{knocks.Id}) {
		t.Error("the knock is not taken in", got.Queues)
	}
	p.Events[0].Content.N = api.Join
	_, l = Handle(s, p)
	expect(t, "a join", l, answers(3, "!r:a", api.ErrArg))
	p.Room = "!x:a"
	_, l = Handle(s, p)
	expect(t, "an unknown room", l, answers(3, "!x:a", api.ErrNone))
}

func TestInvitations(t *testing.T) {
	r := sample.New("!q:b", "@bob:b", api.ByInvite, api.Shared)
	invite := r.Add("@bob:b", api.KMember, "@ann:a", api.Content{N: api.Invite}, 0)
	p := api.Packet{From: "b", To: "a", Kind: api.PInvite, Room: "!q:b", Events: []api.Event{invite}, N: 4}
	s := api.Server{Name: "a"}
	got, l := Handle(s, p)
	if len(l) != 0 || !same(got.Pending, []api.Packet{p}) {
		t.Error("an invitation", got.Pending, l)
	}
	full, almost := api.Server{Name: "a", Pending: make([]api.Packet, 100)}, api.Server{Name: "a", Pending: make([]api.Packet, 99)}
	if got, _ := Handle(almost, p); len(got.Pending) != 100 || got.Pending[99].N != 4 {
		t.Error("the last place")
	}
	other := r.Add("@bob:b", api.KMember, "@cy:c", api.Content{N: api.Invite}, 0)
	leave := r.Add("@bob:b", api.KMember, "@ann:a", api.Content{N: api.Leave}, 0)
	with := func(l ...api.Event) api.Packet {
		q := p
		q.Events = l
		return q
	}
	wrong := invite
	wrong.Time++
	byEve := event.Sign(func() api.Event { e := clone.Event(invite); e.Sender = "@eve:e"; return e }(), "e")
	name := event.Sign(api.Event{Room: "!q:b", Sender: "@bob:b", Kind: api.KMessage, Depth: 2, Prev: []int{1}}, "b")
	for what, c := range map[string]struct {
		s api.Server
		p api.Packet
	}{"too many": {full, p}, "no event": {s, with()}, "two events": {s, with(invite, invite)}, "another user": {s, with(other)}, "no invitation": {s, with(leave)}, "a wrong sum": {s, with(wrong)}, "another sender": {s, with(byEve)}, "another kind": {s, with(name)}} {
		if got, l := Handle(c.s, c.p); len(l) != 0 || !same(got, c.s) {
			t.Errorf("%s: something happens", what)
		}
	}
}

func TestAcknowledgements(t *testing.T) {
	s := api.Server{Name: "a", Queues: []api.Queue{{To: "b", Next: 5, Open: []api.Event{{Id: 1}}, Fails: 1, At: 9}, {To: "c", Next: 5, Open: []api.Event{{Id: 2}}}}}
	ack := api.Packet{From: "b", To: "a", Kind: api.PAnswer, N: 4}
	got, l := Handle(s, ack)
	if len(l) != 0 || !same(got.Queues, []api.Queue{{To: "b", Next: 5}, s.Queues[1]}) {
		t.Error("an acknowledgement", got.Queues)
	}
	for name, change := range map[string]func(p *api.Packet){"another number": func(p *api.Packet) { p.N = 5 }, "an error": func(p *api.Packet) { p.Err = api.ErrNone }, "no queue": func(p *api.Packet) { p.From = "d" }} {
		p := ack
		change(&p)
		if got, l := Handle(s, p); len(l) != 0 || !same(got, s) {
			t.Errorf("%s: something happens", name)
		}
	}
}

func TestJoiningFromAfar(t *testing.T) {
	host := hosted("a", shared("@cy:c"))
	s := api.Server{Name: "b", Pending: []api.Packet{{To: "c", Kind: api.PMakeJoin, N: 7, Room: "!r:a", User: "@bob:b"}, {From: "b", To: "a", Kind: api.PMakeJoin, N: 7, Room: "!r:a", User: "@bob:b"}}}
	ask := s.Pending[1]
	host, l := Handle(host, ask)
	template := l[0]
	s, l = Handle(s, template)
	signed := event.Sign(template.Events[0], "b")
	send := api.Packet{From: "b", To: "a", Kind: api.PSendJoin, N: 7, Room: "!r:a", User: "@bob:b", Events: []api.Event{signed}}
	expect(t, "the join is signed", l, send)
	if !same(s.Pending[1:], []api.Packet{send}) || len(s.Pending) != 2 {
		t.Error("Pending", s.Pending)
	}
	_, l = Handle(host, send)
	result := l[0]
	joined, l := Handle(s, result)
	r, known := Room(joined, "!r:a")
	if len(l) != 0 || !known || members.InState(r.Events, r.State, "@bob:b") != api.Join || len(joined.Pending) != 1 || Check(joined) != api.OK {
		t.Error("the room is not joined", known, l)
	}
	full := clone.Server(s)
	for i := range api.MaxRooms {
		full.Rooms = append(full.Rooms, api.Room{Id: fmt.Sprintf("!x%02d:b", i)})
	}
	if got, _ := Handle(full, result); len(got.Rooms) != api.MaxRooms || len(got.Pending) != 1 {
		t.Error("too many rooms")
	}
	bad := clone.Packet(result)
	bad.Auth = bad.Auth[1:]
	if got, l := Handle(s, bad); len(got.Rooms) != 0 || len(got.Pending) != 1 || len(l) != 0 {
		t.Error("an incomplete list is accepted")
	}
	refused := result
	refused.Err = api.ErrRule
	if got, l := Handle(s, refused); len(got.Rooms) != 0 || len(got.Pending) != 1 || len(l) != 0 {
		t.Error("an error")
	}
	already := Put(s, sample.InOrder(shared("@cy:c")))
	if got, _ := Handle(already, result); !same(got.Rooms, already.Rooms) || len(got.Pending) != 1 {
		t.Error("a room that is known")
	}
}

func TestOnlyOwnJoinsAreSigned(t *testing.T) {
	host := hosted("a", shared())
	s := api.Server{Name: "b", Pending: []api.Packet{{From: "b", To: "a", Kind: api.PMakeJoin, N: 7, Room: "!r:a", User: "@bob:b"}}}
	_, l := Handle(host, s.Pending[0])
	template := l[0]
	for name, change := range map[string]func(p *api.Packet){
		"no event":      func(p *api.Packet) { p.Events = nil },
		"two events":    func(p *api.Packet) { p.Events = append(p.Events, p.Events[0]) },
		"kind":          func(p *api.Packet) { p.Events[0].Kind = api.KName },
		"sender":        func(p *api.Packet) { p.Events[0].Sender = "@ben:b" },
		"key":           func(p *api.Packet) { p.Events[0].Key = "@ben:b" },
		"leave":         func(p *api.Packet) { p.Events[0].Content.N = api.Leave },
		"text":          func(p *api.Packet) { p.Events[0].Content.Text = "x" },
		"room":          func(p *api.Packet) { p.Events[0].Room = "!s:a" },
		"both users":    func(p *api.Packet) { p.Events[0].Sender, p.Events[0].Key, p.User = "@ben:b", "@ben:b", "@ben:b" },
		"with an error": func(p *api.Packet) { p.Err = api.ErrFull },
	} {
		p := clone.Packet(template)
		change(&p)
		if got, l := Handle(s, p); len(l) != 0 || len(got.Pending) != 0 {
			t.Errorf("%s: the join is signed", name)
		}
	}
	for name, change := range map[string]func(p *api.Packet){"number": func(p *api.Packet) { p.N = 8 }, "room": func(p *api.Packet) { p.Room = "!s:a" }, "server": func(p *api.Packet) { p.From = "c" }} {
		p := clone.Packet(template)
		change(&p)
		if got, l := Handle(s, p); len(l) != 0 || !same(got, s) {
			t.Errorf("another %s: something happens", name)
		}
	}
	invitation := clone.Server(s)
	invitation.Pending[0].Kind = api.PInvite
	if got, l := Handle(invitation, template); len(l) != 0 || !same(got, invitation) {
		t.Error("an answer to an invitation")
	}
}

func TestAnswersFillGaps(t *testing.T) {
	r := shared("@bob:b")
	s := hosted("a", r)
	l := []api.Event{}
	for i := range 4 {
		l = append(l, r.Add("@bob:b", api.KMessage, "", api.Content{Text: fmt.Sprint(i)}, 0))
	}
	s, _ = Handle(s, api.Packet{From: "b", To: "a", Kind: api.PTxn, Events: l[3:]})
	answer := api.Packet{From: "b", To: "a", Kind: api.PAnswer, N: 100, Room: "!r:a", Events: l[2:3]}
	half, packets := Handle(s, answer)
	if rm, _ := Room(half, "!r:a"); len(packets) != 0 || len(rm.Waiting) != 2 {
		t.Error("nothing new was taken in", packets, rm.Waiting)
	}
	fork := event.Sign(func() api.Event { e := clone.Event(l[0]); e.Content.Text = "fork"; return e }(), "b")
	answer.Events = []api.Event{fork}
	more, packets := Handle(half, answer)
	expect(t, "something is still missing", packets, api.Packet{From: "a", To: "b", Kind: api.PMissing, N: api.MaxPage, Room: "!r:a", Ids: []int{l[1].Id}})
	answer.Events = l[:2]
	whole, packets := Handle(more, answer)
	if rm, _ := Room(whole, "!r:a"); len(packets) != 0 || len(rm.Waiting) != 0 || len(rm.Events) != 10 || Check(whole) != api.OK {
		t.Error("nothing is missing", packets, rm.Waiting)
	}
	refused := answer
	refused.Err = api.ErrAccess
	if got, packets := Handle(more, refused); len(packets) != 0 || !same(got, more) {
		t.Error("an answer with an error")
	}
	unknown := answer
	unknown.Room = "!x:a"
	if got, packets := Handle(more, unknown); len(packets) != 0 || !same(got, more) {
		t.Error("an answer for an unknown room")
	}
	denied := hosted("a", denying("@bob:b"))
	if got, packets := Handle(denied, answer); len(packets) != 0 || !same(got, denied) {
		t.Error("an answer of a denied server")
	}
}

func TestNothingIsForged(t *testing.T) {
	source := rand.New(rand.NewSource(1))
	for range 30 {
		x := sample.Random(source.Intn, 20)
		part := &sample.Room{Id: x.Id}
		order := graph.Order(x.Events)
		for _, id := range order[:8+source.Intn(8)] {
			e, _ := store.Get(x.Events, id)
			part.Events, _ = store.Put(part.Events, e)
		}
		s := hosted([]string{"a", "b", "c"}[source.Intn(3)], part)
		for range 15 {
			p := api.Packet{From: []string{"a", "b", "c", "evil"}[source.Intn(4)], To: s.Name, Kind: api.PacketKind(1 + source.Intn(8)), N: source.Intn(120), Room: []string{"!r:a", ""}[source.Intn(2)], User: sample.Users()[source.Intn(5)]}
			for range source.Intn(4) {
				e := x.Events[source.Intn(len(x.Events))]
				if source.Intn(4) == 0 {
					e.Content.Text = "changed"
				}
				if source.Intn(6) == 0 {
					e.Time++
				}
				p.Events, p.Auth, p.Ids = append(p.Events, e), append(p.Auth, e), append(p.Ids, e.Id)
			}
			before, _ := Room(s, "!r:a")
			next, packets := Handle(s, p)
			after, _ := Room(next, "!r:a")
			if Check(next) != api.OK {
				t.Fatal("no server", p, Check(next))
			}
			for _, e := range after.Events {
				if event.Verify(e) != api.OK || e.Sig.Server != ids.ServerOf(e.Sender) {
					t.Fatal("a forged event", e)
				}
				_, old := room.Known(before, e.Id)
				if _, sent := store.Get(p.Events, e.Id); !old && !sent && p.Kind != api.PMakeJoin {
					t.Fatal("an event from nowhere", e)
				}
			}
			if p.Kind == api.PTxn {
				again, l := Handle(next, p)
				count := 0
				for _, a := range l {
					if a.Kind == api.PAnswer {
						count++
					}
				}
				if p.From != s.Name && count != 1 || !same(again, next) {
					t.Fatal("a transaction again")
				}
			}
			for _, a := range packets {
				if a.From != s.Name || a.To != p.From {
					t.Fatal("a packet to another server", a)
				}
			}
			s = next
		}
	}
}
