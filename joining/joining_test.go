package joining_test

import (
	"math/rand"
	"slices"
	"testing"

	"fedchat/api"
	"fedchat/auth"
	"fedchat/build"
	"fedchat/clone"
	"fedchat/event"
	"fedchat/graph"
	"fedchat/ids"
	. "fedchat/joining"
	"fedchat/members"
	"fedchat/num"
	"fedchat/outgoing"
	"fedchat/replay"
	"fedchat/room"
	"fedchat/sample"
	"fedchat/statemap"
	"fedchat/store"
)

func public() api.Room {
	return sample.InOrder(sample.New("!r:a", "@ann:a", api.Public, api.Shared))
}

func none(r api.Room) bool {
	return room.Same(r, api.Room{})
}

func TestJoinOfTheExample(t *testing.T) {
	r := public()
	join, err := Make(r, "@bob:b", "@ann:a", 7)
	template, _ := build.Template(r.Events, "@bob:b", api.Join, "@ann:a", 7)
	if err != api.OK || !event.Same(join, template) || join.Depth != 5 {
		t.Fatal("Make", join, err)
	}
	signed := event.Sign(join, "b")
	next, l, err := Send(r, signed)
	if err != api.OK || room.Check(next) != api.OK || members.InState(next.Events, next.State, "@bob:b") != api.Join {
		t.Fatal("Send", err)
	}
	if l[0].Kind != api.KCreate || l[len(l)-1].Id != signed.Id || !graph.Closed(l) || !slices.Equal(store.Ids(l), graph.Order(l)) || len(l) != 5 {
		t.Error("the list", store.Ids(l))
	}
	accepted, err := Accept("!r:a", l)
	if err != api.OK || room.Check(accepted) != api.OK || members.InState(accepted.Events, accepted.State, "@bob:b") != api.Join {
		t.Error("Accept", err)
	}
	again, l2, err := Send(next, signed)
	if err != api.OK || !room.Same(again, next) || !store.Same(l, l2) {
		t.Error("the join is sent again", err)
	}
}

func TestMakeErrors(t *testing.T) {
	secret := sample.InOrder(sample.New("!r:a", "@ann:a", api.ByInvite, api.Shared))
	s := sample.New("!r:a", "@ann:a", api.Public, api.Shared)
	s.Add("@ann:a", api.KAccess, "", api.Content{Allow: []string{"*"}, Deny: []string{"evil"}}, 0)
	closed := sample.InOrder(s)
	for name, c := range map[string]struct {
		r         api.Room
		user, via string
		time      int
		want      api.Errno
	}{
		"denied":         {closed, "@eve:evil", "", 0, api.ErrAccess},
		"denied, time":   {closed, "@eve:evil", "x", -1, api.ErrAccess},
		"allowed":        {closed, "@bob:b", "", 0, api.OK},
		"no invitation":  {secret, "@bob:b", "", 0, api.ErrRule},
		"a time":         {secret, "@bob:b", "", -1, api.ErrRange},
		"no user":        {secret, "bob", "", 0, api.ErrName},
		"via":            {secret, "@bob:b", "x", 0, api.ErrName},
		"an empty room":  {api.Room{Id: "!r:a"}, "@bob:b", "", 0, api.ErrState},
		"joined already": {secret, "@ann:a", "", 0, api.OK},
	} {
		e, err := Make(c.r, c.user, c.via, c.time)
		if err != c.want || err != api.OK && !event.Same(e, api.Event{}) {
			t.Errorf("%s: %d, want %d", name, err, c.want)
		}
	}
}

func TestInvite(t *testing.T) {
	secret := sample.InOrder(sample.New("!r:a", "@ann:a", api.ByInvite, api.Shared))
	next, e, err := Invite(secret, "@ann:a", "@bob:b", 3)
	want, _ := build.Next(secret.Events, "@ann:a", api.KMember, "@bob:b", api.Content{N: api.Invite}, 3)
	if err != api.OK || !event.Same(e, want) || members.InState(next.Events, next.State, "@bob:b") != api.Invite || room.Check(next) != api.OK {
		t.Error("Invite", e, err)
	}
	if _, err := Make(next, "@bob:b", "", 0); err != api.OK {
		t.Error("an invited user", err)
	}
	for name, c := range map[string]struct {
		user, target string
		time         int
		want         api.Errno
	}{"a stranger": {"@cy:c", "@bob:b", 0, api.ErrMember}, "a member": {"@ann:a", "@ann:a", 0, api.ErrMember}, "no user": {"@ann:a", "bob", 0, api.ErrName}, "a time": {"@ann:a", "@bob:b", -1, api.ErrRange}} {
		if r, e, err := Invite(secret, c.user, c.target, c.time); err != c.want || !none(r) || !event.Same(e, api.Event{}) {
			t.Errorf("%s: %d", name, err)
		}
	}
	if r, _, err := Invite(api.Room{}, "@ann:a", "@bob:b", 0); err != api.ErrState || !none(r) {
		t.Error("no events", err)
	}
}

func TestSendErrors(t *testing.T) {
	s := sample.New("!r:a", "@ann:a", api.Public, api.Shared)
	ban := s.Add("@ann:a", api.KMember, "@dan:d", api.Content{N: api.Ban}, 0)
	s.Add("@ann:a", api.KAccess, "", api.Content{Allow: []string{"*"}, Deny: []string{"evil"}}, 0)
	r := sample.InOrder(s)
	frame := func(user string, n int, prev ...int) api.Event {
		return s.Frame(user, api.KMember, user, api.Content{N: n}, 0, prev...)
	}
	sign := func(e api.Event) api.Event { return event.Sign(e, ids.ServerOf(e.Sender)) }
	good := frame("@bob:b", api.Join)
	with := func(change func(e *api.Event)) api.Event {
		e := clone.Event(good)
		change(&e)
		return sign(e)
	}
	for name, c := range map[string]struct {
		e    api.Event
		want api.Errno
	}{
		"a leave":        {sign(frame("@bob:b", api.Leave)), api.ErrArg},
		"a message":      {with(func(e *api.Event) { e.Kind, e.State = api.KMessage, false }), api.ErrArg},
		"another key":    {with(func(e *api.Event) { e.Key = "@cy:c" }), api.ErrArg},
		"nothing":        {api.Event{}, api.ErrArg},
		"denied":         {sign(frame("@eve:evil", api.Join)), api.ErrAccess},
		"not signed":     {good, api.ErrSum},
		"wrongly signed": {event.Sign(good, "c"), api.ErrSign},
		"another room":   {with(func(e *api.Event) { e.Room = "!s:a" }), api.ErrRoom},
		"a gap":          {with(func(e *api.Event) { e.Prev = []int{1} }), api.ErrGap},
		"a wrong depth":  {with(func(e *api.Event) { e.Depth++ }), api.ErrCycle},
		"banned":         {sign(frame("@dan:d", api.Join)), api.ErrBanned},
		"wrong auth":     {with(func(e *api.Event) { e.Auth = nil }), api.ErrAuth},
		"banned later":   {sign(frame("@dan:d", api.Join, ban.Prev...)), api.ErrSoft},
	} {
		if next, l, err := Send(r, c.e); err != c.want || !none(next) || len(l) != 0 {
			t.Errorf("%s: %d, want %d", name, err, c.want)
		}
	}
	if _, _, err := Send(r, sign(good)); err != api.OK {
		t.Error("a right join", err)
	}
}

func TestKnock(t *testing.T) {
	s := sample.New("!r:a", "@ann:a", api.ByKnock, api.Shared)
	r := sample.InOrder(s)
	knock := event.Sign(s.Frame("@bob:b", api.KMember, "@bob:b", api.Content{N: api.Knock}, 0), "b")
	next, err := Knock(r, knock)
	if err != api.OK || members.InState(next.Events, next.State, "@bob:b") != api.Knock || room.Check(next) != api.OK {
		t.Error("Knock", err)
	}
	join := event.Sign(s.Frame("@bob:b", api.KMember, "@bob:b", api.Content{N: api.Join}, 0), "b")
	if r, err := Knock(r, join); err != api.ErrArg || !none(r) {
		t.Error("a join", err)
	}
	if r, _, err := Send(r, knock); err != api.ErrArg || !none(r) {
		t.Error("a knock is sent as a join", err)
	}
	if r, _, err := Send(r, join); err != api.ErrRule || !none(r) {
		t.Error("a join without an invitation", err)
	}
	open := sample.New("!r:a", "@ann:a", api.Public, api.Shared)
	open.Add("@ann:a", api.KAccess, "", api.Content{Allow: []string{"a"}}, 0)
	denied := event.Sign(open.Frame("@bob:b", api.KMember, "@bob:b", api.Content{N: api.Knock}, 0), "b")
	if r, err := Knock(sample.InOrder(open), denied); err != api.ErrAccess || !none(r) {
		t.Error("a denied server", err)
	}
}

func TestAcceptErrors(t *testing.T) {
	s := sample.New("!r:a", "@ann:a", api.Public, api.Shared)
	join := s.Add("@bob:b", api.KMember, "@bob:b", api.Content{N: api.Join}, 0)
	ban := s.Add("@ann:a", api.KMember, "@bob:b", api.Content{N: api.Ban}, 0)
	rejected := s.Add("@bob:b", api.KMessage, "", api.Content{Text: "x"}, 0)
	l := store.Of(s.Events, graph.Order(s.Events))
	beside := s.Add("@bob:b", api.KName, "", api.Content{Text: "n"}, 0, join.Id)
	wrong := clone.Event(l[2])
	wrong.Time++
	for name, c := range map[string]struct {
		id   string
		l    []api.Event
		want api.Errno
	}{
		"no room":        {"r", l[:5], api.ErrName},
		"no events":      {"!r:a", nil, api.ErrMember},
		"a wrong event":  {"!r:a", []api.Event{l[0], l[1], wrong, l[3]}, api.ErrSum},
		"another room":   {"!s:a", l[:5], api.ErrRoom},
		"a gap":          {"!r:a", l[1:5], api.ErrGap},
		"a gap within":   {"!r:a", slices.Concat(l[:2], l[3:5]), api.ErrGap},
		"the join":       {"!r:a", l[:5], api.OK},
		"another order":  {"!r:a", []api.Event{l[3], l[0], l[2], l[1], l[4]}, api.OK},
		"rejected last":  {"!r:a", append(slices.Clone(l[:6]), rejected), api.ErrMember},
		"soft last":      {"!r:a", []api.Event{l[0], l[1], l[2], l[3], join, ban, beside}, api.ErrMember},
		"accepted again": {"!r:a", append(slices.Clone(l[:5]), l[0]), api.OK},
	} {
		r, err := Accept(c.id, c.l)
		if err != c.want || err != api.OK && !none(r) {
			t.Errorf("%s: %d, want %d", name, err, c.want)
		}
	}
}

func TestVia(t *testing.T) {
	r := public()
	other := clone.Room(r)
	other.Id = "!s:a"
	rooms := []api.Room{{Id: "!x:x"}, other, r}
	for i, c := range []struct {
		rooms []api.Room
		allow []string
		user  string
		want  bool
	}{{rooms, []string{"!r:a"}, "@ann:a", true}, {rooms, []string{"!q:q", "!s:a"}, "@ann:a", true}, {rooms, []string{"!x:x"}, "@ann:a", false}, {rooms, nil, "@ann:a", false}, {rooms, []string{"!r:a"}, "@bob:b", false}, {nil, []string{"!r:a"}, "@ann:a", false}} {
		if got := Via(c.rooms, c.allow, c.user); got != c.want {
			t.Errorf("%d: %t", i, got)
		}
	}
}

func TestConsequences(t *testing.T) {
	source := rand.New(rand.NewSource(1))
	joined, refused := 0, 0
	for range 40 {
		s := sample.Random(source.Intn, 5+source.Intn(20))
		r := sample.Received(s, source.Intn)
		user := sample.Users()[source.Intn(5)]
		join, err := Make(r, user, "", 5)
		if err != api.OK {
			refused++
			signed := event.Sign(s.Frame(user, api.KMember, user, api.Content{N: api.Join}, 5), ids.ServerOf(user))
			if _, _, err := Send(r, signed); err == api.OK {
				t.Fatal("Send takes what Make refuses")
			}
			continue
		}
		if len(r.Heads) >= api.MaxPrev {
			continue
		}
		joined++
		if auth.Allowed(join, statemap.Events(r.Events, r.State)) != api.OK {
			t.Fatal("a join that is not allowed")
		}
		signed := event.Sign(join, ids.ServerOf(user))
		next, l, err := Send(r, signed)
		if err != api.OK || members.InState(next.Events, next.State, user) != api.Join {
			t.Fatal("Send", err)
		}
		if !graph.Closed(l) || l[len(l)-1].Id != signed.Id || !slices.Equal(store.Ids(l), graph.Order(l)) {
			t.Fatal("the list")
		}
		want := num.Union(graph.Ancestors(next.Events, []int{signed.Id}), nil)
		if len(num.Minus(want, store.Ids(l))) > 0 {
			t.Fatal("an ancestor is missing")
		}
		for _, e := range l {
			own, _ := store.Get(next.Events, e.Id)
			if !event.Same(e, outgoing.Event(next, own, ids.ServerOf(user))) {
				t.Fatal("another form", e)
			}
		}
		accepted, err := Accept(r.Id, l)
		if err != api.OK || members.InState(accepted.Events, accepted.State, user) != api.Join || replay.Why(accepted.Events, signed.Id) != api.OK {
			t.Fatal("Accept", err)
		}
	}
	if joined < 5 || refused < 5 {
		t.Error("few joins", joined, refused)
	}
}
