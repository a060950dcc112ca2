package explain_test

import (
	"fmt"
	"math"
	"math/rand"
	"slices"
	"strings"
	"testing"

	"fedchat/api"
	"fedchat/auth"
	"fedchat/authset"
	"fedchat/content"
	. "fedchat/explain"
	"fedchat/graph"
	"fedchat/iterate"
	"fedchat/num"
	"fedchat/replay"
	"fedchat/resolve"
	"fedchat/room"
	"fedchat/sample"
	"fedchat/statemap"
	"fedchat/store"
	"fedchat/visible"
)

// short writes a reason in one line.
func short(x api.Reason) string {
	s := fmt.Sprint(x.Rule, ":", x.Id, ":", Errno(x.Err))
	if len(x.Kids) == 0 {
		return s
	}
	kids := []string{}
	for _, kid := range x.Kids {
		kids = append(kids, short(kid))
	}
	return s + "(" + strings.Join(kids, " ") + ")"
}

func create(sender string) api.Event {
	return api.Event{Id: 1, Room: "!r:s", Kind: api.KCreate, Sender: sender}
}

func member(id int, sender, key string, n int) api.Event {
	return api.Event{Id: id, Room: "!r:s", Kind: api.KMember, Sender: sender, Key: key, Content: api.Content{N: n}}
}

func power(id int) api.Event {
	return api.Event{Id: id, Room: "!r:s", Kind: api.KPower, Content: api.Content{Levels: api.Levels{Users: []api.Level{{User: "@a:s", N: 100}, {User: "@m:s", N: 50}, {User: "@n:s", N: 50}}, Invite: 20, Kick: 30, Ban: 40, Message: 5, State: 10}}}
}

func joined(id int, user string) api.Event { return member(id, user, user, api.Join) }

func TestAllowed(t *testing.T) {
	l := []api.Event{create("@a:s"), joined(2, "@a:s"), power(3), {Id: 4, Kind: api.KRules, Content: api.Content{N: api.ByKnock}}, joined(5, "@m:s"), joined(6, "@n:s"), joined(7, "@z:s"), member(8, "@a:s", "@b:s", api.Ban), member(9, "@a:s", "@i:s", api.Invite)}
	message := func(sender string, k api.Kind) api.Event {
		return api.Event{Id: 50, Room: "!r:s", Kind: k, Sender: sender}
	}
	first := joined(50, "@a:s")
	first.Prev = []int{1}
	levelUp := message("@m:s", api.KPower)
	levelUp.Content = power(0).Content
	levelUp.Content.Levels.Ban = 60
	other := create("@a:t")
	for i, c := range []struct {
		e    api.Event
		l    []api.Event
		want string
	}{
		{create("@a:s"), nil, "allowed:1:ok(create-alone:0:ok create-server:1:ok)"}, {create("@a:s"), l, "allowed:1:create(create-alone:1:create)"}, {other, nil, "allowed:1:create(create-alone:0:ok create-server:1:create)"},
		{message("@a:s", api.KMessage), nil, "allowed:50:create(creation:0:create)"}, {joined(50, "@a:s"), nil, "allowed:50:create(creation:0:create)"},
		{message("@x:s", api.KMessage), l, "allowed:50:member(creation:1:ok sender-joined:0:member)"}, {message("@b:s", api.KMessage), l, "allowed:50:member(creation:1:ok sender-joined:8:member)"}, {message("@z:s", api.KMessage), l, "allowed:50:level(creation:1:ok sender-joined:7:ok level:3:level)"}, {message("@m:s", api.KMessage), l, "allowed:50:ok(creation:1:ok sender-joined:5:ok level:3:ok)"}, {message("@a:s", api.KName), l[:2], "allowed:50:ok(creation:1:ok sender-joined:2:ok level:0:ok)"},
		{levelUp, l, "allowed:50:level(creation:1:ok sender-joined:5:ok level:3:ok power-change:3:level)"}, {message("@z:s", api.KPower), l, "allowed:50:level(creation:1:ok sender-joined:7:ok level:3:level)"}, {power(50), l, "allowed:50:member(creation:1:ok sender-joined:0:member)"},
		{first, l[:1], "allowed:50:ok(creation:1:ok first-join:1:ok)"}, {first, l[:2], "allowed:50:ok(creation:1:ok not-banned:2:ok move:2:ok join-rule:0:ok)"},
		{joined(50, "@b:s"), l, "allowed:50:banned(creation:1:ok not-banned:8:banned)"}, {joined(50, "@x:s"), l, "allowed:50:rule(creation:1:ok not-banned:0:ok move:0:ok join-rule:4:rule)"}, {joined(50, "@i:s"), l, "allowed:50:ok(creation:1:ok not-banned:9:ok move:9:ok join-rule:4:ok)"}, {member(50, "@x:s", "@x:s", api.Knock), l, "allowed:50:ok(creation:1:ok not-banned:0:ok move:0:ok knock-rule:4:ok)"}, {member(50, "@x:s", "@x:s", api.Knock), l[:3], "allowed:50:rule(creation:1:ok not-banned:0:ok move:0:ok knock-rule:0:rule)"}, {member(50, "@z:s", "@z:s", api.Leave), l, "allowed:50:ok(creation:1:ok not-banned:7:ok move:7:ok)"}, {member(50, "@x:s", "@x:s", api.Leave), l, "allowed:50:member(creation:1:ok not-banned:0:ok move:0:member)"},
		{member(50, "@a:s", "@z:s", api.Join), l, "allowed:50:member(creation:1:ok move:7:member)"}, {member(50, "@x:s", "@q:s", api.Invite), l, "allowed:50:member(creation:1:ok move:0:ok sender-joined:0:member)"}, {member(50, "@z:s", "@q:s", api.Invite), l, "allowed:50:level(creation:1:ok move:0:ok sender-joined:7:ok invite-level:3:level)"}, {member(50, "@m:s", "@q:s", api.Invite), l, "allowed:50:ok(creation:1:ok move:0:ok sender-joined:5:ok invite-level:3:ok)"},
		{member(50, "@m:s", "@z:s", api.Leave), l, "allowed:50:ok(creation:1:ok move:7:ok sender-joined:5:ok kick-level:3:ok kick-target:3:ok)"}, {member(50, "@m:s", "@n:s", api.Leave), l, "allowed:50:level(creation:1:ok move:6:ok sender-joined:5:ok kick-level:3:ok kick-target:3:level)"}, {member(50, "@z:s", "@n:s", api.Leave), l, "allowed:50:level(creation:1:ok move:6:ok sender-joined:7:ok kick-level:3:level)"}, {member(50, "@m:s", "@b:s", api.Leave), l, "allowed:50:ok(creation:1:ok move:8:ok sender-joined:5:ok unban-level:3:ok kick-level:3:ok kick-target:3:ok)"}, {member(50, "@z:s", "@b:s", api.Leave), l, "allowed:50:level(creation:1:ok move:8:ok sender-joined:7:ok unban-level:3:level)"},
		{member(50, "@m:s", "@q:s", api.Ban), l, "allowed:50:ok(creation:1:ok move:0:ok sender-joined:5:ok ban-level:3:ok ban-target:3:ok)"}, {member(50, "@m:s", "@a:s", api.Ban), l, "allowed:50:level(creation:1:ok move:2:ok sender-joined:5:ok ban-level:3:ok ban-target:3:level)"}, {member(50, "@z:s", "@a:s", api.Ban), l, "allowed:50:level(creation:1:ok move:2:ok sender-joined:7:ok ban-level:3:level)"},
	} {
		if got := short(Allowed(c.e, c.l)); got != c.want {
			t.Errorf("%d: %s, want %s", i, got, c.want)
		}
	}
}

func TestAllowedHasTheAnswerOfItsLastRule(t *testing.T) {
	source := rand.New(rand.NewSource(1))
	users := []string{"@a:s", "@m:s", "@n:s", "@z:t"}
	rules := map[string]int{}
	for range 50000 {
		l := []api.Event{}
		if source.Intn(8) > 0 {
			l = append(l, create(users[source.Intn(4)]))
		}
		for i := range source.Intn(6) {
			user := users[source.Intn(4)]
			l = append(l, member(10+i, user, user, source.Intn(5)))
		}
		if source.Intn(2) == 0 {
			l = append(l, power(3))
		}
		if source.Intn(2) == 0 {
			l = append(l, api.Event{Id: 4, Kind: api.KRules, Content: api.Content{N: source.Intn(5)}})
		}
		e := api.Event{Id: 50, Room: "!r:s", Sender: users[source.Intn(4)], Kind: api.Kind(1 + source.Intn(12)), Prev: []int{1 + source.Intn(2)}}
		if source.Intn(3) > 0 {
			e = member(50, e.Sender, users[source.Intn(4)], source.Intn(6))
			e.Prev = []int{1}
		}
		if e.Kind == api.KPower {
			e.Content = power(0).Content
			e.Content.Levels.Ban = source.Intn(100)
		}
		x := Allowed(e, l)
		if x.Rule != "allowed" || x.Id != 50 || x.Err != auth.Allowed(e, l) {
			t.Fatal("the answer", e, l, short(x))
		}
		for i, kid := range x.Kids {
			rules[kid.Rule+Errno(kid.Err)]++
			if last := i == len(x.Kids)-1; last && kid.Err != x.Err || !last && kid.Err != api.OK || len(kid.Kids) > 0 {
				t.Fatal("the rules", e, l, short(x))
			}
		}
	}
	if len(rules) < 30 {
		t.Error("few rules were asked", len(rules), rules)
	}
}

// rejectedAsWritten follows the definition.
func rejectedAsWritten(l []api.Event, id int) api.Reason {
	e, _ := store.Get(l, id)
	x := api.Reason{Rule: "rejected", Id: id, Err: replay.Why(l, id)}
	add := func(kid api.Reason) {
		if n := len(x.Kids); n == 0 || x.Kids[n-1].Err == api.OK {
			x.Kids = append(x.Kids, kid)
		}
	}
	add(api.Reason{Rule: "fits", Id: id, Err: authset.Fits(l, e)})
	by := Allowed(e, authset.From(l, e))
	by.Rule = "by-auth"
	add(by)
	for _, a := range e.Auth {
		kid := api.Reason{Rule: "auth-accepted", Id: a}
		if replay.Why(l, a) != api.OK {
			kid.Err, kid.Kids = api.ErrAuth, []api.Reason{rejectedAsWritten(l, a)}
		}
		add(kid)
	}
	before, _ := replay.At(l, id)
	state := Allowed(e, statemap.Events(l, before))
	state.Rule = "by-state"
	add(state)
	return x
}

// invalidAuth returns a room in which a rejected join is among the Auth of another event.
func invalidAuth() (*sample.Room, api.Event) {
	s := sample.New("!r:a", "@ann:a", api.ByInvite, api.Shared)
	rejected := s.Add("@bob:b", api.KMember, "@bob:b", api.Content{N: api.Join}, 0)
	f := s.Frame("@bob:b", api.KName, "", api.Content{Text: "b"}, 0, rejected.Id)
	f.Auth = num.Sorted(append(f.Auth, rejected.Id))
	return s, s.Put(f)
}

func TestRejected(t *testing.T) {
	source := rand.New(rand.NewSource(2))
	count := 0
	sets := [][]api.Event{}
	for range 25 {
		sets = append(sets, sample.Random(source.Intn, 5+source.Intn(20)).Events)
	}
	s, nested := invalidAuth()
	sets = append(sets, s.Events)
	for _, l := range sets {
		for _, e := range l {
			x, ok := Rejected(l, e.Id)
			why := replay.Why(l, e.Id)
			if ok != (why != api.OK) || !ok && !Same(x, api.Reason{}) {
				t.Fatal("Rejected", e, ok)
			}
			if !ok {
				if Check(l, api.Reason{Rule: "rejected", Id: e.Id, Err: api.ErrAuth}) != api.ErrState {
					t.Fatal("a reason for an accepted event")
				}
				continue
			}
			count++
			if !Same(x, rejectedAsWritten(l, e.Id)) || x.Kids[len(x.Kids)-1].Err != why || Check(l, x) != api.OK {
				t.Fatal("the reason", short(x), Check(l, x))
			}
			read, line, err := Parse(Text(x))
			if !Same(read, x) || line != 0 || err != api.OK {
				t.Fatal("the text of the reason")
			}
			changed := x
			changed.Kids = slices.Clone(x.Kids)
			changed.Kids[0].Id++
			if Check(l, changed) != api.ErrState {
				t.Fatal("a changed reason is accepted")
			}
		}
	}
	if x, _ := Rejected(s.Events, nested.Id); Depth(x) < 5 || x.Err != api.ErrAuth {
		t.Error("a rejected authorization event", short(x))
	}
	if count < 50 {
		t.Error("few events were rejected", count)
	}
	if x, ok := Rejected(s.Events[1:], nested.Id); ok || !Same(x, api.Reason{}) {
		t.Error("no right set")
	}
	if x, ok := Rejected(s.Events, 5); ok || !Same(x, api.Reason{}) {
		t.Error("an unknown event")
	}
}

func TestCheck(t *testing.T) {
	s, e := invalidAuth()
	x, _ := Rejected(s.Events, e.Id)
	with := func(change func(x *api.Reason)) api.Reason {
		y := x
		y.Kids = slices.Clone(x.Kids)
		change(&y)
		return y
	}
	for name, c := range map[string]struct {
		l    []api.Event
		x    api.Reason
		want api.Errno
	}{
		"right": {s.Events, x, api.OK}, "another rule": {s.Events, with(func(x *api.Reason) { x.Rule = "allowed" }), api.ErrForm}, "not plain": {s.Events, with(func(x *api.Reason) { x.Kids[0].Rule = "Fits" }), api.ErrForm}, "a number": {s.Events, with(func(x *api.Reason) { x.Id = -1 }), api.ErrForm}, "not plain, no set": {nil, with(func(x *api.Reason) { x.Err = 31 }), api.ErrForm},
		"no right set": {s.Events[1:], x, api.ErrNone}, "unknown": {s.Events, with(func(x *api.Reason) { x.Id = 5 }), api.ErrNone}, "no events": {nil, x, api.ErrNone},
		"another answer": {s.Events, with(func(x *api.Reason) { x.Err = api.ErrLevel }), api.ErrState}, "fewer kids": {s.Events, with(func(x *api.Reason) { x.Kids = x.Kids[1:] }), api.ErrState}, "more kids": {s.Events, with(func(x *api.Reason) { x.Kids = append(x.Kids, x.Kids[0]) }), api.ErrState},
	} {
		if got := Check(c.l, c.x); got != c.want {
			t.Errorf("%s: %d, want %d", name, got, c.want)
		}
	}
}

func TestHidden(t *testing.T) {
	source := rand.New(rand.NewSource(3))
	rules := map[string]int{}
	for range 12 {
		r := sample.Received(sample.Random(source.Intn, 18), source.Intn)
		for _, user := range sample.Users() {
			for _, id := range append(store.Ids(r.Events), 5) {
				x, ok := Hidden(r, id, user)
				err := visible.May(r, id, user)
				if ok != (err != api.OK) || !ok && !Same(x, api.Reason{}) {
					t.Fatal("Hidden", id, user, ok)
				}
				if !ok {
					continue
				}
				want := api.Reason{Rule: "hidden", Id: id, Err: err}
				add := func(rule string, id int, err api.Errno) {
					want.Kids = append(want.Kids, api.Reason{Rule: rule, Id: id, Err: err})
				}
				if err == api.ErrNone {
					add("accepted-row", id, api.ErrNone)
				} else {
					s, _ := replay.At(r.Events, id)
					h, _ := statemap.Get(s, api.KHistory, "")
					m, _ := statemap.Get(s, api.KMember, user)
					now, _ := statemap.Get(r.State, api.KMember, user)
					v, _ := visible.At(r.Events, id)
					add("accepted-row", id, api.OK)
					add("world", h, api.ErrHidden)
					add("joined-then", m, api.ErrHidden)
					if v == api.Shared || v == api.Invited && slices.Contains(visible.Member(r.Events, id, user), api.Invite) {
						add("open", h, api.OK)
						add("comes-to-it", now, api.ErrHidden)
					} else {
						add("open", h, api.ErrHidden)
					}
				}
				if !Same(x, want) {
					t.Fatal("the reason", short(x), short(want))
				}
				rules[x.Kids[len(x.Kids)-1].Rule]++
			}
		}
	}
	if rules["accepted-row"] == 0 || rules["open"] == 0 || rules["comes-to-it"] == 0 {
		t.Error("some reasons never came", rules)
	}
	if x, ok := Hidden(api.Room{}, 7, "u"); !ok || short(x) != "hidden:7:none(accepted-row:7:none)" {
		t.Error("an empty room", short(x))
	}
}

// lostAsWritten follows the definition.
func lostAsWritten(l []api.Event, id int) (api.Reason, bool) {
	e, known := store.Get(l, id)
	now, found := statemap.Get(replay.Current(l), e.Kind, e.Key)
	if !known || !content.State(e.Kind) || replay.Why(l, id) != api.OK || found && now == id {
		return api.Reason{}, false
	}
	x := api.Reason{Rule: "lost", Id: id, Err: api.ErrState}
	heads, states := graph.Heads(l, replay.Accepted(l)), []api.State{}
	entry := false
	for _, head := range heads {
		s := replay.After(l, head)
		states = append(states, s)
		by, _ := statemap.Get(s, e.Kind, e.Key)
		entry = entry || by == id
		x.Kids = append(x.Kids, api.Reason{Rule: "overwritten", Id: head, Err: api.ErrState, Kids: []api.Reason{{Rule: "by", Id: by}}})
	}
	if !entry {
		return x, true
	}
	p, q := resolve.Sides(l, states)
	s, _ := statemap.Split(states)
	rule, side := "power-order", p
	if !num.Has(p, id) {
		rule, side, s = "mainline-order", q, iterate.Apply(l, s, p)
	}
	order := api.Reason{Rule: rule, Id: id}
	before := side[:slices.Index(side, id)]
	for _, earlier := range before {
		order.Kids = append(order.Kids, api.Reason{Rule: "before", Id: earlier})
	}
	try := Allowed(e, iterate.Base(l, iterate.Apply(l, s, before), e))
	try.Rule = "tried"
	x.Kids = []api.Reason{order, try}
	if try.Err == api.OK {
		x.Kids = append(x.Kids, api.Reason{Rule: "replaced", Id: now, Err: api.ErrState})
	}
	return x, true
}

func TestLost(t *testing.T) {
	source := rand.New(rand.NewSource(4))
	rules := map[string]int{}
	for range 40 {
		l := sample.Random(source.Intn, 10+source.Intn(20)).Events
		for _, id := range append(store.Ids(l), 5) {
			x, ok := Lost(l, id)
			want, wantOk := lostAsWritten(l, id)
			if ok != wantOk || !Same(x, want) {
				t.Fatal("Lost", id, ok, short(x), short(want))
			}
			if ok {
				rules[x.Kids[0].Rule]++
				rules[x.Kids[len(x.Kids)-1].Rule]++
			}
		}
		gap := slices.DeleteFunc(slices.Clone(l), func(e api.Event) bool { return e.Kind == api.KCreate })
		if x, ok := Lost(gap, gap[0].Id); ok || !Same(x, api.Reason{}) {
			t.Fatal("no right set")
		}
	}
	for _, rule := range []string{"overwritten", "power-order", "mainline-order", "tried", "replaced"} {
		if rules[rule] == 0 {
			t.Errorf("%s never came: %v", rule, rules)
		}
	}
}

func TestBannedOnAnotherBranchIsLost(t *testing.T) {
	s := sample.New("!r:a", "@ann:a", api.Public, api.Shared)
	join := s.Add("@bob:b", api.KMember, "@bob:b", api.Content{N: api.Join}, 1)
	ban := s.Add("@ann:a", api.KMember, "@bob:b", api.Content{N: api.Ban}, 2, join.Id)
	name := s.Add("@bob:b", api.KName, "", api.Content{Text: "mine"}, 3, join.Id)
	x, ok := Lost(s.Events, name.Id)
	if !ok || x.Kids[0].Rule != "mainline-order" || x.Kids[1].Rule != "tried" || x.Kids[1].Err != api.ErrMember || x.Kids[1].Kids[1].Id != ban.Id {
		t.Error(short(x))
	}
	if _, ok := Lost(s.Events, ban.Id); ok {
		t.Error("the ban is lost")
	}
	if x, ok := Lost(s.Events, join.Id); !ok || x.Kids[0].Rule != "power-order" {
		t.Error("the join", short(x))
	}
}

func TestErrnoSizeDepthAndSame(t *testing.T) {
	names := strings.Fields("ok arg range name twice none form long order short text sum sign room gap cycle auth create member banned level rule access hidden soft rate state gone trust full down")
	for i, name := range names {
		if Errno(api.Errno(i)) != name {
			t.Error("Errno of", i)
		}
	}
	for _, e := range []api.Errno{-1, 31, math.MaxInt, math.MinInt} {
		if Errno(e) != "unknown" {
			t.Error("Errno of", e)
		}
	}
	leaf := api.Reason{Rule: "a"}
	tree := api.Reason{Rule: "b", Kids: []api.Reason{leaf, {Rule: "c", Kids: []api.Reason{leaf, leaf}}}}
	if Size(leaf) != 1 || Size(tree) != 5 || Depth(leaf) != 1 || Depth(tree) != 3 {
		t.Error("Size or Depth")
	}
	for i, c := range []struct {
		a, b api.Reason
		want bool
	}{{tree, tree, true}, {leaf, tree, false}, {api.Reason{Kids: []api.Reason{}}, api.Reason{}, true}, {api.Reason{Id: 1}, api.Reason{}, false}, {api.Reason{Err: 1}, api.Reason{}, false}, {api.Reason{Kids: []api.Reason{leaf, tree}}, api.Reason{Kids: []api.Reason{tree, leaf}}, false}} {
		if Same(c.a, c.b) != c.want || Same(c.b, c.a) != c.want {
			t.Errorf("Same %d", i)
		}
	}
}

// chain is a reason with a number of levels.
func chain(n int) api.Reason {
	x := api.Reason{Rule: "a"}
	for range n - 1 {
		x = api.Reason{Rule: "b", Kids: []api.Reason{x}}
	}
	return x
}

func TestText(t *testing.T) {
	if got := Text(api.Reason{Rule: "lost", Id: 5, Err: api.ErrState, Kids: []api.Reason{{Rule: "by"}}}); got != "lost 0000000000000005 state\n  by 0000000000000000 ok\n" {
		t.Error("Text", got)
	}
	rule32 := strings.Repeat("a-", 16)
	for i, c := range []struct {
		x     api.Reason
		plain bool
	}{{api.Reason{}, false}, {api.Reason{Rule: rule32}, true}, {api.Reason{Rule: rule32 + "a"}, false}, {api.Reason{Rule: "A"}, false}, {api.Reason{Rule: "a1"}, false}, {api.Reason{Rule: "a", Id: -1}, false}, {api.Reason{Rule: "a", Id: 1 << 62}, false}, {api.Reason{Rule: "a", Id: 1<<62 - 1, Err: api.ErrDown}, true}, {api.Reason{Rule: "a", Err: 31}, false}, {api.Reason{Rule: "a", Err: -1}, false}, {api.Reason{Rule: "a", Kids: []api.Reason{{}}}, false}, {chain(40), true}, {chain(41), false}, {chain(5000), false}} {
		if got := Text(c.x); (got != "") != c.plain || strings.Count(got, "\n") != Size(c.x) && c.plain {
			t.Errorf("%d: %q", i, got)
		}
		if c.plain {
			if x, line, err := Parse(Text(c.x)); !Same(x, c.x) || line != 0 || err != api.OK {
				t.Errorf("%d: Parse of Text", i)
			}
		}
	}
}

func TestParse(t *testing.T) {
	a, zero := "a 0000000000000000 ok\n", " 0000000000000000 ok\n"
	deep := Text(chain(40))
	for s, want := range map[string]int{
		"": 1, "\n": 1, "a 0 ok": 1, "a 0 ok\n": 1, a[:len(a)-1]: 1, "  " + a: 1, " " + a: 1, a + a: 2, a + " " + a: 2, a + "   " + a: 2, a + "    " + a: 2, a + "  " + a + "      " + a: 3, a + "  " + a + a: 3, a + "\n": 2, a + "  " + a[:len(a)-1]: 2, a + "x": 2,
		"A" + zero: 1, "a1" + zero: 1, zero: 1, strings.Repeat("a", 33) + zero: 1, "a  0000000000000000 ok\n": 1, "a 0000000000000000  ok\n": 1, "a 0000000000000000 ok \n": 1, "a 0000000000000000 OK\n": 1, "a 0000000000000000 unknown\n": 1, "a 0000000000000000 \n": 1, "a 4000000000000000 ok\n": 1, "a 000000000000000A ok\n": 1, "a 0000000000000000 ok\r\n": 1, "\ta 0000000000000000 ok\n": 1,
		deep + strings.Repeat("  ", 40) + a: 41,
	} {
		if x, line, err := Parse(s); !Same(x, api.Reason{}) || line != want || err != api.ErrText {
			t.Errorf("Parse(%q): %d, %d", s, line, err)
		}
	}
	if x, line, err := Parse(strings.Repeat("x", 100001)); !Same(x, api.Reason{}) || line != 0 || err != api.ErrLong {
		t.Error("a long text", err)
	}
	if _, line, err := Parse(strings.Repeat("x", 100000)); line != 1 || err != api.ErrText {
		t.Error("not too long", err)
	}
	if x, _, err := Parse(deep + "  " + a + "    " + a + "  " + a); err != api.OK || Size(x) != 43 || len(x.Kids) != 3 {
		t.Error("several kids", err, Size(x))
	}
}

func randomReason(source *rand.Rand, levels int) api.Reason {
	x := api.Reason{Rule: []string{"a", "b-c", "-"}[source.Intn(3)], Id: source.Intn(3), Err: api.Errno(source.Intn(31))}
	if levels > 1 {
		for range source.Intn(3) {
			x.Kids = append(x.Kids, randomReason(source, levels-1))
		}
	}
	return x
}

func TestParseInvertsText(t *testing.T) {
	source := rand.New(rand.NewSource(5))
	for range 3000 {
		x := randomReason(source, 1+source.Intn(6))
		s := Text(x)
		if got, line, err := Parse(s); !Same(got, x) || line != 0 || err != api.OK || strings.Count(s, "\n") != Size(x) {
			t.Fatal("Parse of Text", s)
		}
		b := []byte(s)
		b[source.Intn(len(b))] = " \n0ak"[source.Intn(5)]
		if got, _, err := Parse(string(b)); err == api.OK && Text(got) != string(b) {
			t.Fatalf("another text is accepted: %q", b)
		}
	}
}

func TestPathOfTheExample(t *testing.T) {
	l := []api.Event{{Id: 4, Auth: []int{3, 2}}, {Id: 3, Auth: []int{1}}, {Id: 2, Auth: []int{1}}, {Id: 1}, {Id: 4, Auth: []int{1}}}
	for _, c := range []struct {
		a, b int
		want string
	}{{4, 1, "[4 2 1]"}, {4, 4, "[4]"}, {3, 1, "[3 1]"}, {1, 4, "[]"}, {9, 9, "[]"}, {4, 9, "[]"}, {9, 1, "[]"}, {2, 3, "[]"}} {
		if got := fmt.Sprint(Path(l, c.a, c.b)); got != c.want {
			t.Errorf("Path from %d to %d: %s", c.a, c.b, got)
		}
	}
}

// shortest finds the least of the shortest ways by trying all, level by level.
func shortest(l []api.Event, a, b int) []int {
	if _, ok := store.Get(l, a); !ok {
		return nil
	}
	ways := [][]int{{a}}
	for range len(l) + 1 {
		next := [][]int{}
		for _, way := range ways {
			if way[len(way)-1] == b {
				return way
			}
			e, _ := store.Get(l, way[len(way)-1])
			for _, id := range num.Sorted(e.Auth) {
				if _, ok := store.Get(l, id); ok {
					next = append(next, append(slices.Clone(way), id))
				}
			}
		}
		slices.SortStableFunc(next, slices.Compare)
		ways = next
	}
	return nil
}

func TestPath(t *testing.T) {
	source := rand.New(rand.NewSource(6))
	found := 0
	for range 3000 {
		l := []api.Event{}
		for range 2 + source.Intn(6) {
			e := api.Event{Id: source.Intn(6)}
			for range source.Intn(4) {
				e.Auth = append(e.Auth, source.Intn(7))
			}
			l = append(l, e)
		}
		a, b := source.Intn(7), source.Intn(7)
		got := Path(l, a, b)
		if want := shortest(l, a, b); !slices.Equal(got, want) {
			t.Fatal("Path", l, a, b, got, want)
		}
		_, knownA := store.Get(l, a)
		_, knownB := store.Get(l, b)
		if (len(got) > 0) != (knownA && knownB && (a == b || num.Has(graph.Chain(l, []int{a}), b))) {
			t.Fatal("whether there is a path", l, a, b)
		}
		if len(got) > 1 {
			found++
		}
	}
	if found < 100 {
		t.Error("few paths", found)
	}
	long := []api.Event{{Id: 0}}
	for i := 1; i < 3000; i++ {
		long = append(long, api.Event{Id: i, Auth: []int{i - 1, max(i-2, 0)}})
	}
	if got := Path(long, 2999, 0); len(got) != 1501 || got[1] != 2997 {
		t.Error("a long path", len(got))
	}
	if r, err := room.New("!r:a"); err != api.OK || len(Path(r.Events, 1, 2)) != 0 {
		t.Error("no events")
	}
}
