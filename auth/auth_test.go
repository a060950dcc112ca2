package auth_test

import (
	"math/rand"
	"testing"

	"fedchat/api"
	. "fedchat/auth"
	"fedchat/event"
	"fedchat/ids"
	"fedchat/levels"
	"fedchat/members"
	"fedchat/rules"
)

func create(sender string) api.Event {
	return api.Event{Id: 1, Room: "!r:s", Kind: api.KCreate, State: true, Sender: sender}
}

func member(sender, key string, n int) api.Event {
	return api.Event{Id: 5, Room: "!r:s", Kind: api.KMember, State: true, Sender: sender, Key: key, Content: api.Content{N: n}}
}

func joined(user string) api.Event {
	return member(user, user, api.Join)
}

func rule(n int) api.Event {
	return api.Event{Kind: api.KRules, State: true, Content: api.Content{N: n}}
}

// power gives @a:s 100, @m:s 50 and @n:s 50; invites need 20, kicks 30, bans 40, messages 5, state 10.
func power() api.Event {
	return api.Event{Kind: api.KPower, State: true, Content: api.Content{Levels: api.Levels{Users: []api.Level{{User: "@a:s", N: 100}, {User: "@i:s", N: 20}, {User: "@k:s", N: 30}, {User: "@l:s", N: 4}, {User: "@m:s", N: 50}, {User: "@n:s", N: 50}}, Invite: 20, Kick: 30, Ban: 40, Message: 5, State: 10}}}
}

type check struct {
	name string
	e    api.Event
	l    []api.Event
	want api.Errno
}

func run(t *testing.T, f func(e api.Event, l []api.Event) api.Errno, checks []check) {
	t.Helper()
	for _, c := range checks {
		if got := f(c.e, c.l); got != c.want {
			t.Errorf("%s: %d, want %d", c.name, got, c.want)
		}
	}
}

func TestCreation(t *testing.T) {
	message := api.Event{Room: "!r:s", Kind: api.KMessage, Sender: "@a:s"}
	run(t, Allowed, []check{
		{"the first event", create("@a:s"), nil, api.OK},
		{"another server", create("@a:t"), nil, api.ErrCreate},
		{"a second creation", create("@a:s"), []api.Event{create("@b:s")}, api.ErrCreate},
		{"a creation with other events", create("@a:s"), []api.Event{joined("@a:s")}, api.OK},
		{"no creation", message, []api.Event{joined("@a:s")}, api.ErrCreate},
		{"a member without creation", joined("@a:s"), nil, api.ErrCreate},
	})
}

func TestMessagesAndState(t *testing.T) {
	l := []api.Event{create("@a:s"), joined("@a:s"), joined("@l:s"), joined("@i:s"), power()}
	send := func(sender string, k api.Kind) api.Event {
		return api.Event{Room: "!r:s", Sender: sender, Kind: k}
	}
	run(t, Allowed, []check{
		{"a message", send("@a:s", api.KMessage), l, api.OK},
		{"not joined", send("@b:s", api.KMessage), l, api.ErrMember},
		{"a low level", send("@l:s", api.KMessage), l, api.ErrLevel},
		{"state", send("@i:s", api.KName), l, api.OK},
		{"invited", send("@b:s", api.KName), append(l, member("@a:s", "@b:s", api.Invite)), api.ErrMember},
		{"banned", send("@b:s", api.KName), append(l, member("@a:s", "@b:s", api.Ban)), api.ErrMember},
		{"the first membership counts", send("@a:s", api.KName), append(l, member("@a:s", "@a:s", api.Ban)), api.OK},
		{"an unknown kind", send("@a:s", 99), l, api.OK},
	})
	run(t, Level, []check{
		{"the level alone", send("@i:s", api.KName), l[4:], api.OK},
		{"below", send("@l:s", api.KMessage), l[4:], api.ErrLevel},
		{"no levels", send("@x:s", api.KName), nil, api.OK},
	})
}

func TestPowerLevels(t *testing.T) {
	l := []api.Event{create("@a:s"), joined("@a:s"), joined("@i:s"), joined("@l:s"), power()}
	change := func(sender string, n int) api.Event {
		e := power()
		e.Room, e.Sender, e.Content.Levels.Message = "!r:s", sender, n
		return e
	}
	run(t, Allowed, []check{
		{"within the own level", change("@i:s", 20), l, api.OK},
		{"above the own level", change("@i:s", 21), l, api.ErrLevel},
		{"state is not allowed", change("@l:s", 1), l, api.ErrLevel},
		{"not joined", change("@m:s", 1), l, api.ErrMember},
		{"the creator's first levels", change("@a:s", 1), l[:2], api.OK},
	})
	other := change("@i:s", 21)
	other.Kind = api.KName
	if Level(other, l) != api.OK {
		t.Error("levels in another kind do not matter")
	}
}

func TestFirstJoin(t *testing.T) {
	c := []api.Event{create("@a:s")}
	first := joined("@a:s")
	first.Prev = []int{1}
	with := func(change func(e *api.Event)) api.Event {
		e := first
		change(&e)
		return e
	}
	run(t, Allowed, []check{
		{"the first join", first, c, api.OK},
		{"another prev", with(func(e *api.Event) { e.Prev = []int{2} }), c, api.ErrRule},
		{"two prevs", with(func(e *api.Event) { e.Prev = []int{1, 2} }), c, api.ErrRule},
		{"no prev", with(func(e *api.Event) { e.Prev = nil }), c, api.ErrRule},
		{"another user", with(func(e *api.Event) { e.Sender, e.Key = "@b:s", "@b:s" }), c, api.ErrRule},
		{"another key", with(func(e *api.Event) { e.Key = "@b:s" }), c, api.ErrMember},
		{"another sender", with(func(e *api.Event) { e.Sender = "@b:s" }), c, api.ErrMember},
		{"a leave", with(func(e *api.Event) { e.Content.N = api.Leave }), c, api.ErrMember},
		{"left before", first, append(c, member("@a:s", "@a:s", api.Leave)), api.ErrRule},
		{"banned before", first, append(c, member("@b:s", "@a:s", api.Ban)), api.ErrBanned},
		{"other members", first, append(c, joined("@b:s")), api.OK},
	})
	if Member(first, nil) != api.ErrRule || Member(first, c) != api.OK {
		t.Error("Member without a creation")
	}
	other := first
	other.Kind = api.KName
	if Member(other, c) != api.OK {
		t.Error("Member examines the kind")
	}
}

func TestOwnMemberships(t *testing.T) {
	c := create("@a:s")
	now := func(n int) []api.Event { return []api.Event{c, member("@b:s", "@b:s", n)} }
	own := func(n int) api.Event { return member("@b:s", "@b:s", n) }
	run(t, Allowed, []check{
		{"uninvited", own(api.Join), []api.Event{c}, api.ErrRule},
		{"invited", own(api.Join), now(api.Invite), api.OK},
		{"public", own(api.Join), []api.Event{c, rule(api.Public)}, api.OK},
		{"again", own(api.Join), now(api.Join), api.OK},
		{"banned", own(api.Join), append(now(api.Ban), rule(api.Public)), api.ErrBanned},
		{"banned and leaving", own(api.Leave), now(api.Ban), api.ErrBanned},
		{"leaving", own(api.Leave), now(api.Join), api.OK},
		{"refusing", own(api.Leave), now(api.Invite), api.OK},
		{"leaving twice", own(api.Leave), now(api.Leave), api.ErrMember},
		{"knocking", own(api.Knock), []api.Event{c, rule(api.ByKnock)}, api.OK},
		{"knocking elsewhere", own(api.Knock), []api.Event{c, rule(api.Public)}, api.ErrRule},
		{"knocking as a member", own(api.Knock), append(now(api.Join), rule(api.ByKnock)), api.ErrMember},
		{"inviting oneself", own(api.Invite), now(api.Leave), api.ErrMember},
		{"banning oneself", own(api.Ban), now(api.Join), api.ErrMember},
		{"an unknown membership", own(9), now(api.Join), api.ErrMember},
		{"from an unknown membership", own(api.Join), now(9), api.ErrMember},
		{"restricted", own(api.Join), append(now(api.Invite), rule(api.Restricted)), api.OK},
	})
}

func TestOtherMemberships(t *testing.T) {
	l := []api.Event{create("@a:s"), power()}
	for _, user := range []string{"@a:s", "@i:s", "@k:s", "@l:s", "@m:s", "@n:s"} {
		l = append(l, joined(user))
	}
	banned := append(l[:len(l):len(l)], member("@a:s", "@b:s", api.Ban))
	low := append(l[:len(l):len(l)], joined("@z:s"))
	run(t, Allowed, []check{
		{"an invitation", member("@i:s", "@b:s", api.Invite), l, api.OK},
		{"an invitation below", member("@l:s", "@b:s", api.Invite), l, api.ErrLevel},
		{"by a stranger", member("@x:s", "@b:s", api.Invite), l, api.ErrMember},
		{"inviting a member", member("@a:s", "@i:s", api.Invite), l, api.ErrMember},
		{"inviting a banned user", member("@a:s", "@b:s", api.Invite), banned, api.ErrMember},
		{"a kick", member("@k:s", "@i:s", api.Leave), l, api.OK},
		{"a kick below", member("@i:s", "@l:s", api.Leave), l, api.ErrLevel},
		{"a kick of an equal", member("@m:s", "@n:s", api.Leave), l, api.ErrLevel},
		{"a kick of a better one", member("@k:s", "@m:s", api.Leave), l, api.ErrLevel},
		{"a kick of nobody", member("@a:s", "@b:s", api.Leave), l, api.ErrMember},
		{"an unban", member("@m:s", "@b:s", api.Leave), banned, api.OK},
		{"an unban below the level of bans", member("@k:s", "@b:s", api.Leave), banned, api.ErrLevel},
		{"a ban", member("@m:s", "@b:s", api.Ban), l, api.OK},
		{"a ban below", member("@k:s", "@z:s", api.Ban), low, api.ErrLevel},
		{"a ban of an equal", member("@m:s", "@n:s", api.Ban), l, api.ErrLevel},
		{"a ban again", member("@m:s", "@b:s", api.Ban), banned, api.OK},
		{"a join for another", member("@a:s", "@b:s", api.Join), l, api.ErrMember},
		{"a knock for another", member("@a:s", "@b:s", api.Knock), l, api.ErrMember},
		{"the example", member("@z:s", "@a:s", api.Ban), []api.Event{create("@a:s"), joined("@a:s"), joined("@z:s")}, api.ErrLevel},
	})
	high := power()
	high.Content.Levels.Ban, high.Content.Levels.Kick = 20, 60
	run(t, Allowed, []check{{"an unban below the level of kicks", member("@m:s", "@b:s", api.Leave), []api.Event{create("@a:s"), high, joined("@m:s"), member("@a:s", "@b:s", api.Ban)}, api.ErrLevel}})
}

// rulesAsWritten are the rules of the chapter, one after the other.
func rulesAsWritten(e api.Event, l []api.Event) api.Errno {
	has := func(k api.Kind, key string, any bool) bool {
		for _, x := range l {
			if x.Kind == k && (any || x.Key == key) {
				return true
			}
		}
		return false
	}
	if e.Kind == api.KCreate {
		if !has(api.KCreate, "", true) && ids.ServerOf(e.Sender) == ids.ServerOf(e.Room) {
			return api.OK
		}
		return api.ErrCreate
	}
	if !has(api.KCreate, "", true) {
		return api.ErrCreate
	}
	v, creator := levels.Of(l)
	level := levels.User(v, e.Sender)
	if e.Kind != api.KMember {
		if members.Of(l, e.Sender) != api.Join {
			return api.ErrMember
		}
		if level < levels.Needs(v, e.Kind) {
			return api.ErrLevel
		}
		if e.Kind == api.KPower {
			return levels.Change(v, e.Content.Levels, e.Sender)
		}
		return api.OK
	}
	m, now, self := e.Content.N, members.Of(l, e.Key), e.Key == e.Sender
	if len(e.Prev) == 1 && e.Prev[0] == 1 && self && e.Key == creator && m == api.Join && !has(api.KMember, e.Key, false) {
		return api.OK
	}
	if self && now == api.Ban {
		return api.ErrBanned
	}
	if !members.Move(now, m, self) {
		return api.ErrMember
	}
	n, _ := rules.Of(l)
	below := levels.User(v, e.Key) < level
	switch {
	case self && m == api.Join:
		return rules.Join(n, now)
	case self && m == api.Knock:
		return rules.Knock(n, now)
	case self:
		return api.OK
	case members.Of(l, e.Sender) != api.Join:
		return api.ErrMember
	case m == api.Invite && level < v.Invite, m == api.Leave && (now == api.Ban && level < v.Ban || level < v.Kick || !below), m == api.Ban && (level < v.Ban || !below):
		return api.ErrLevel
	}
	return api.OK
}

func TestFollowsTheRules(t *testing.T) {
	source := rand.New(rand.NewSource(1))
	users := []string{"@a:s", "@k:s", "@m:s", "@n:s", "@z:t"}
	user := func() string { return users[source.Intn(len(users))] }
	answers := map[api.Errno]int{}
	for range 100000 {
		l := []api.Event{}
		if source.Intn(8) > 0 {
			l = append(l, create(user()))
		}
		for range source.Intn(6) {
			who := user()
			l = append(l, member(who, who, source.Intn(5)))
		}
		if source.Intn(2) == 0 {
			l = append(l, power())
		}
		if source.Intn(2) == 0 {
			l = append(l, rule(source.Intn(5)))
		}
		e := api.Event{Room: "!r:s", Sender: user(), Kind: api.Kind(1 + source.Intn(14)), Prev: []int{1 + source.Intn(2)}}
		if source.Intn(3) > 0 {
			e.Kind = api.KMember
			e.Key = e.Sender
			if source.Intn(2) == 0 {
				e.Key = user()
			}
			e.Content.N = source.Intn(6)
		}
		if e.Kind == api.KPower {
			e.Content = power().Content
			e.Content.Levels.Ban = source.Intn(100)
		}
		e.Content.Text = "text"
		got := Allowed(e, l)
		answers[got]++
		if want := rulesAsWritten(e, l); got != want {
			t.Fatal(e, l, got, want)
		}
		stripped := []api.Event{}
		for _, x := range l {
			x.Content.Text = "text"
			stripped = append(stripped, event.Strip(x))
		}
		if Allowed(event.Strip(e), stripped) != got {
			t.Fatal("a stripped form is not treated alike", e, l)
		}
		if got == api.OK && e.Kind != api.KCreate && e.Kind != api.KMember && members.Of(l, e.Sender) != api.Join {
			t.Fatal("an event of a user who is not joined", e, l)
		}
	}
	for _, err := range []api.Errno{api.OK, api.ErrCreate, api.ErrMember, api.ErrBanned, api.ErrLevel, api.ErrRule} {
		if answers[err] == 0 {
			t.Errorf("the answer %d never came", err)
		}
	}
}
