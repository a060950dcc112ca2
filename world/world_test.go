package world_test

import (
	"fmt"
	"math/rand"
	"slices"
	"testing"

	"fedchat/api"
	"fedchat/build"
	"fedchat/clone"
	"fedchat/event"
	"fedchat/ids"
	"fedchat/members"
	"fedchat/outgoing"
	"fedchat/server"
	"fedchat/statemap"
	"fedchat/store"
	"fedchat/sums"
	. "fedchat/world"
)

// same compares worlds, in which nil and empty lists are equal.
func same(a, b any) bool {
	return fmt.Sprint(a) == fmt.Sprint(b)
}

func fresh(t *testing.T, names ...string) api.Grid {
	t.Helper()
	g, err := New(names, nil)
	if err != api.OK {
		t.Fatal("New", err)
	}
	return g
}

func act(word string, n int, body api.Content, names ...string) api.Act {
	return api.Act{Word: word, Names: names, N: n, Body: body}
}

// do performs an act that must succeed, and returns its output.
func do(t *testing.T, g *api.Grid, word string, n int, body api.Content, names ...string) string {
	t.Helper()
	next, output, err := Step(*g, act(word, n, body, names...))
	if err != api.OK {
		t.Fatalf("%s %v: %d", word, names, err)
	}
	*g = next
	return output
}

func say(t *testing.T, g *api.Grid, user, room, text string) string {
	t.Helper()
	return do(t, g, "send", int(api.KMessage), api.Content{Text: text}, user, room)
}

func settled(t *testing.T, g *api.Grid) {
	t.Helper()
	if got := do(t, g, "settle", 5000, api.Content{}); got != "settled" {
		t.Fatal("the world is", got)
	}
}

func roomOf(t *testing.T, g api.Grid, name, id string) api.Room {
	t.Helper()
	s, ok := Server(g, name)
	if !ok {
		t.Fatal("no server", name)
	}
	r, ok := server.Room(s, id)
	if !ok {
		t.Fatalf("%s does not know %s", name, id)
	}
	return r
}

// town returns a world of three servers in which users of a and b are in the room !r:a.
func town(t *testing.T) api.Grid {
	t.Helper()
	g := fresh(t, "a", "b", "c")
	do(t, &g, "create", api.Public, api.Content{}, "@u:a", "r")
	do(t, &g, "join", 0, api.Content{}, "@w:b", "!r:a", "a")
	settled(t, &g)
	return g
}

func TestNew(t *testing.T) {
	g, err := New([]string{"b", "a", "b"}, []string{"b", "b"})
	if err != api.OK || len(g.Servers) != 2 || g.Servers[0].Name != "a" || !slices.Equal(g.Evil, []string{"b"}) || g.Now != 0 {
		t.Error("New", g, err)
	}
	nine := []string{"a", "b", "c", "d", "e", "f", "g", "h", "i"}
	for i, c := range []struct {
		names, evil []string
		want        api.Errno
	}{{nil, nil, api.ErrShort}, {nil, []string{"a"}, api.ErrShort}, {nine, nil, api.ErrFull}, {append(nine, ""), []string{"z"}, api.ErrFull}, {nine[:8], nil, api.OK}, {[]string{"a", "B"}, []string{"z"}, api.ErrName}, {[]string{"a"}, []string{"z"}, api.ErrNone}, {[]string{"a"}, []string{"a"}, api.OK}} {
		if g, err := New(c.names, c.evil); err != c.want || err != api.OK && !same(g, api.Grid{}) {
			t.Errorf("%d: %d", i, err)
		}
	}
}

func TestServer(t *testing.T) {
	g := api.Grid{Servers: []api.Server{{Name: "a", Now: 1}, {Name: "a", Now: 2}}}
	if s, ok := Server(g, "a"); !ok || s.Now != 1 {
		t.Error("Server", s)
	}
	if s, ok := Server(g, "b"); ok || !same(s, api.Server{}) {
		t.Error("an unknown server")
	}
}

func TestErrorsOfWords(t *testing.T) {
	g := town(t)
	do(t, &g, "crash", 0, api.Content{}, "c")
	for name, c := range map[string]struct {
		a    api.Act
		want api.Errno
	}{
		"no word":            {api.Act{}, api.ErrArg},
		"an unknown word":    {act("leave", 0, api.Content{}, "@u:a"), api.ErrArg},
		"too few names":      {act("send", 0, api.Content{}, "@u:z"), api.ErrArg},
		"too many names":     {act("send", 0, api.Content{}, "@u:z", "!r:a", "k", "l"), api.ErrArg},
		"join with two":      {act("join", 0, api.Content{}, "@u:a", "!r:a"), api.ErrArg},
		"settle with one":    {act("settle", 0, api.Content{}, "a"), api.ErrArg},
		"evil with two":      {act("evil", 0, api.Content{}, "@u:a", "!r:a"), api.ErrArg},
		"an unknown server":  {act("send", 99, api.Content{}, "@u:z", "!r:a"), api.ErrNone},
		"no user":            {act("send", 99, api.Content{}, "u", "!r:a"), api.ErrNone},
		"flush":              {act("flush", 0, api.Content{}, "z"), api.ErrNone},
		"cut":                {act("cut", 0, api.Content{}, "a", "z"), api.ErrNone},
		"heal":               {act("heal", 0, api.Content{}, "z", "a"), api.ErrNone},
		"down":               {act("send", 99, api.Content{}, "@u:c", "!x:a"), api.ErrDown},
		"create while down":  {act("create", 9, api.Content{}, "@u:c", "R"), api.ErrDown},
		"join while down":    {act("join", 0, api.Content{}, "@u:c", "!r:a", "z"), api.ErrDown},
		"sync while down":    {act("sync", 0, api.Content{}, "c", "z", "!x:a"), api.ErrDown},
		"evil while down":    {act("evil", 0, api.Content{}, "@u:c", "!x:a", "z"), api.ErrDown},
		"flush while down":   {act("flush", 0, api.Content{}, "c"), api.ErrDown},
		"crash while down":   {act("crash", 0, api.Content{}, "c"), api.ErrState},
		"start while up":     {act("start", 0, api.Content{}, "a"), api.ErrState},
		"start of nobody":    {act("start", 0, api.Content{}, "z"), api.ErrNone},
		"deliver of nothing": {act("deliver", 0, api.Content{}), api.ErrNone},
		"drop of nothing":    {act("drop", 0, api.Content{}), api.ErrNone},
		"copy of nothing":    {act("copy", 0, api.Content{}), api.ErrNone},
		"a tick back":        {act("tick", -1, api.Content{}), api.ErrRange},
		"a long tick":        {act("tick", 1000001, api.Content{}), api.ErrRange},
		"an unknown room":    {act("send", 99, api.Content{}, "@u:a", "!x:a"), api.ErrNone},
		"an unknown kind":    {act("send", 99, api.Content{}, "@u:a", "!r:a"), api.ErrArg},
		"not a member":       {act("send", int(api.KMessage), api.Content{}, "@x:a", "!r:a"), api.ErrMember},
		"sync without room":  {act("sync", 0, api.Content{}, "a", "b", "!x:a"), api.ErrNone},
		"join by nobody":     {act("join", 0, api.Content{}, "@u:b", "!x:a", "z"), api.ErrNone},
		"evil by an honest":  {act("evil", 0, api.Content{}, "@u:a", "!x:a", "z"), api.ErrState},
		"a room's name":      {act("create", 1, api.Content{}, "@u:a", "R"), api.ErrName},
		"a room's rule":      {act("create", 4, api.Content{}, "@u:a", "r"), api.ErrRange},
		"a visibility":       {act("create", 1, api.Content{N: 4}, "@u:a", "q"), api.ErrRange},
		"a room twice":       {act("create", 1, api.Content{}, "@u:a", "r"), api.ErrTwice},
		"invite by nobody":   {act("invite", 0, api.Content{}, "@x:a", "!r:a", "@v:c"), api.ErrMember},
		"invite elsewhere":   {act("invite", 0, api.Content{}, "@u:a", "!x:a", "@v:c"), api.ErrNone},
	} {
		if next, output, err := Step(g, c.a); err != c.want || output != "" || !same(next, g) {
			t.Errorf("%s: %d, want %d", name, err, c.want)
		}
	}
}

func TestCreateAndSend(t *testing.T) {
	g := fresh(t, "a", "b")
	g.Now = 77
	if got := do(t, &g, "create", api.ByKnock, api.Content{N: api.Joined}, "@u:a", "r"); got != "!r:a" {
		t.Error("create", got)
	}
	r := roomOf(t, g, "a", "!r:a")
	want, _ := build.Room("!r:a", "@u:a", 77, api.ByKnock, api.Joined)
	for _, e := range want {
		if got, ok := store.Get(r.Events, e.Id); !ok || !event.Same(got, e) {
			t.Error("an event of the room", e)
		}
	}
	e, _ := build.Next(r.Events, "@u:a", api.KPolicy, "key", api.Content{Text: "a*", N: int(api.KMember)}, 77)
	if got := do(t, &g, "send", int(api.KPolicy), e.Content, "@u:a", "!r:a", "key"); got != sums.Hex(e.Id) {
		t.Error("send", got)
	}
	if got, ok := store.Get(roomOf(t, g, "a", "!r:a").Events, e.Id); !ok || !event.Same(got, e) {
		t.Error("the event", got)
	}
	full := g
	for i := range api.MaxRooms - 1 {
		do(t, &full, "create", 0, api.Content{}, "@u:a", fmt.Sprint("x", i))
	}
	if _, _, err := Step(full, act("create", 0, api.Content{}, "@u:a", "last")); err != api.ErrFull {
		t.Error("too many rooms", err)
	}
}

func TestJoinAndAgree(t *testing.T) {
	g := town(t)
	a, b := roomOf(t, g, "a", "!r:a"), roomOf(t, g, "b", "!r:a")
	if len(a.Events) != 6 || !slices.Equal(store.Ids(a.Events), store.Ids(b.Events)) || !Agree(g, "!r:a") || members.InState(b.Events, b.State, "@w:b") != api.Join {
		t.Error("both do not know the same")
	}
	// A second user of b joins at home.
	if got := do(t, &g, "join", 0, api.Content{}, "@x:b", "!r:a", "nobody"); len(got) != 16 {
		t.Error("a join at home", got)
	}
	settled(t, &g)
	if r := roomOf(t, g, "a", "!r:a"); members.InState(r.Events, r.State, "@x:b") != api.Join {
		t.Error("the second user")
	}
}

func TestJoinPacket(t *testing.T) {
	g := fresh(t, "a", "b")
	g.Now = 40
	if got := do(t, &g, "join", 0, api.Content{}, "@w:b", "!r:a", "a"); got != "" {
		t.Error("the output of a join", got)
	}
	p := api.Packet{From: "b", To: "a", Kind: api.PMakeJoin, N: 141, Room: "!r:a", User: "@w:b"}
	s, _ := Server(g, "b")
	if !same(g.Net.Packets, []api.Packet{p}) || !same(s.Pending, []api.Packet{p}) {
		t.Error("the packet", g.Net.Packets, s.Pending)
	}
	do(t, &g, "join", 0, api.Content{}, "@w:b", "!q:a", "b")
	if got := do(t, &g, "deliver", 1, api.Content{}); got != "4 b" || len(g.Net.Packets) != 1 {
		t.Error("a join by the own server", got, g.Net.Packets)
	}
	for range 98 {
		do(t, &g, "join", 0, api.Content{}, "@w:b", "!q:a", "a")
	}
	if _, _, err := Step(g, act("join", 0, api.Content{}, "@w:b", "!q:a", "a")); err != api.ErrFull {
		t.Error("too many requests", err)
	}
	if _, _, err := Step(g, act("join", 0, api.Content{}, "@w:b", "!q:a", "z")); err != api.ErrNone {
		t.Error("an unknown server, and too many requests", err)
	}
	do(t, &g, "cut", 0, api.Content{}, "a", "b")
	cut := fresh(t, "a", "b")
	do(t, &cut, "cut", 0, api.Content{}, "b", "a")
	do(t, &cut, "join", 0, api.Content{}, "@w:b", "!r:a", "a")
	if s, _ := Server(cut, "b"); len(cut.Net.Packets) != 0 || len(s.Pending) != 1 {
		t.Error("a lost request", cut.Net.Packets)
	}
}

func TestInvite(t *testing.T) {
	g := town(t)
	out := do(t, &g, "invite", 0, api.Content{}, "@u:a", "!r:a", "@v:c")
	r := roomOf(t, g, "a", "!r:a")
	id, _ := statemap.Get(r.State, api.KMember, "@v:c")
	e, _ := store.Get(r.Events, id)
	if out != sums.Hex(id) || !same(g.Net.Packets, []api.Packet{{From: "a", To: "c", Kind: api.PInvite, Room: "!r:a", Events: []api.Event{e}}}) {
		t.Error("an invitation", out, g.Net.Packets)
	}
	settled(t, &g)
	if s, _ := Server(g, "c"); len(s.Pending) != 1 || !event.Same(s.Pending[0].Events[0], e) {
		t.Error("it does not arrive")
	}
	do(t, &g, "invite", 0, api.Content{}, "@u:a", "!r:a", "@y:b")
	do(t, &g, "invite", 0, api.Content{}, "@u:a", "!r:a", "@y:a")
	if len(g.Net.Packets) != 0 {
		t.Error("invitations of servers that get the event anyway", g.Net.Packets)
	}
	do(t, &g, "invite", 0, api.Content{}, "@u:a", "!r:a", "@y:nowhere")
	if len(g.Net.Packets) != 1 || do(t, &g, "deliver", 0, api.Content{}) != "6 nowhere" {
		t.Error("an unknown server", g.Net.Packets)
	}
}

func TestSyncDeliverDropAndCopy(t *testing.T) {
	g := town(t)
	r := roomOf(t, g, "b", "!r:a")
	do(t, &g, "sync", 0, api.Content{}, "b", "a", "!r:a")
	p := api.Packet{From: "b", To: "a", Kind: api.PBack, N: api.MaxPage, Room: "!r:a", Ids: r.Heads}
	if !same(g.Net.Packets, []api.Packet{p}) {
		t.Error("sync", g.Net.Packets)
	}
	do(t, &g, "copy", -1, api.Content{})
	if !same(g.Net.Packets, []api.Packet{p, p}) {
		t.Error("copy", g.Net.Packets)
	}
	if got := do(t, &g, "deliver", 5, api.Content{}); got != "3 a" || len(g.Net.Packets) != 2 || g.Net.Packets[1].Kind != api.PAnswer {
		t.Error("deliver", got, g.Net.Packets)
	}
	do(t, &g, "drop", 0, api.Content{})
	if len(g.Net.Packets) != 1 || g.Net.Packets[0].Kind != api.PAnswer {
		t.Error("drop", g.Net.Packets)
	}
	if got := do(t, &g, "deliver", 0, api.Content{}); got != "8 b" || len(g.Net.Packets) != 0 {
		t.Error("deliver of the answer", got)
	}
}

func TestTimeAndFlush(t *testing.T) {
	g := town(t)
	now := g.Now
	do(t, &g, "tick", 1000000, api.Content{})
	if g.Now != now+1000000 {
		t.Error("tick", g.Now)
	}
	say(t, &g, "@u:a", "!r:a", "hi")
	do(t, &g, "flush", 0, api.Content{}, "a")
	s, _ := Server(g, "a")
	if len(g.Net.Packets) != 1 || g.Net.Packets[0].Kind != api.PTxn || s.Now != g.Now || len(s.Queues[0].Open) != 1 {
		t.Error("flush", g.Net.Packets, s.Queues)
	}
	do(t, &g, "drop", 0, api.Content{})
	do(t, &g, "cut", 0, api.Content{}, "b", "a")
	do(t, &g, "flush", 0, api.Content{}, "a")
	s, _ = Server(g, "a")
	if q := s.Queues[0]; len(g.Net.Packets) != 0 || q.Fails != 1 || q.At != g.Now+1000 || len(q.Open) != 1 {
		t.Error("a flush into a cut link", q)
	}
	do(t, &g, "heal", 0, api.Content{}, "a", "b")
	do(t, &g, "flush", 0, api.Content{}, "a")
	if len(g.Net.Packets) != 0 {
		t.Error("a flush before the time")
	}
	settled(t, &g)
	if len(roomOf(t, g, "b", "!r:a").Events) != 7 {
		t.Error("the message does not arrive")
	}
	g.Now = api.MaxTime - 5
	do(t, &g, "tick", 100, api.Content{})
	if g.Now != api.MaxTime {
		t.Error("the last time", g.Now)
	}
}

func TestFullNetworkLosesPacketsWithoutFailure(t *testing.T) {
	g := town(t)
	say(t, &g, "@u:a", "!r:a", "hi")
	for range 1000 {
		g.Net.Packets = append(g.Net.Packets, api.Packet{To: "nowhere"})
	}
	do(t, &g, "flush", 0, api.Content{}, "a")
	if s, _ := Server(g, "a"); len(g.Net.Packets) != 1000 || s.Queues[0].Fails != 0 || len(s.Queues[0].Open) != 1 {
		t.Error("a full network", len(g.Net.Packets), s.Queues[0])
	}
}

func TestCrashAndStart(t *testing.T) {
	g := town(t)
	do(t, &g, "crash", 0, api.Content{}, "b")
	say(t, &g, "@u:a", "!r:a", "hi")
	next, ok := Settle(g, 20)
	if ok || next.Now <= g.Now {
		t.Error("a packet to a crashed server is acknowledged")
	}
	do(t, &next, "start", 0, api.Content{}, "b")
	settled(t, &next)
	if len(roomOf(t, next, "b", "!r:a").Events) != 7 {
		t.Error("the message does not arrive")
	}
}

func TestSettle(t *testing.T) {
	g := town(t)
	if next, ok := Settle(g, 0); !ok || !same(next, g) {
		t.Error("nothing to do")
	}
	say(t, &g, "@u:a", "!r:a", "hi")
	for steps, want := range map[int]bool{-5: false, 0: false, 1: false, 2: false, 3: true, 100: true} {
		next, ok := Settle(g, steps)
		if ok != want {
			t.Errorf("%d steps: %t", steps, ok)
		}
		if steps == 1 && (len(next.Net.Packets) != 1 || next.Now != g.Now+1000) || steps <= 0 && !same(next, g) {
			t.Errorf("the world after %d steps", steps)
		}
	}
	if got := do(t, &g, "settle", 1, api.Content{}); got != "not settled" {
		t.Error("settle", got)
	}
	// A queue of a server that is down does not count.
	down := town(t)
	say(t, &down, "@u:a", "!r:a", "hi")
	do(t, &down, "crash", 0, api.Content{}, "a")
	if next, ok := Settle(down, 3); !ok || !same(next, down) {
		t.Error("a queue of a server that is down")
	}
}

func TestPartition(t *testing.T) {
	g := town(t)
	do(t, &g, "cut", 0, api.Content{}, "a", "b")
	one, two := say(t, &g, "@u:a", "!r:a", "one"), say(t, &g, "@w:b", "!r:a", "two")
	if next, ok := Settle(g, 30); ok || len(roomOf(t, next, "b", "!r:a").Events) != 7 {
		t.Error("something passes a cut link")
	}
	do(t, &g, "heal", 0, api.Content{}, "a", "b")
	settled(t, &g)
	for _, name := range []string{"a", "b"} {
		r := roomOf(t, g, name, "!r:a")
		heads := []string{sums.Hex(r.Heads[0]), sums.Hex(r.Heads[1])}
		if len(r.Events) != 8 || !slices.Contains(heads, one) || !slices.Contains(heads, two) {
			t.Error("the events of", name, heads)
		}
	}
	if !Agree(g, "!r:a") {
		t.Error("both do not agree")
	}
}

func TestAgree(t *testing.T) {
	g := town(t)
	if !Agree(g, "!unknown:a") || !Agree(api.Grid{}, "!r:a") {
		t.Error("an unknown room")
	}
	other := clone.Grid(g)
	other.Servers[1].Rooms[0].Heads = nil
	if Agree(other, "!r:a") {
		t.Error("other heads")
	}
	other.Evil = []string{"b"}
	if !Agree(other, "!r:a") {
		t.Error("a malicious server counts")
	}
	state := clone.Grid(g)
	state.Servers[1].Rooms[0].State[0].Id++
	if Agree(state, "!r:a") {
		t.Error("another state")
	}
	state.Servers[1].Rooms[0].Events = state.Servers[1].Rooms[0].Events[1:]
	if !Agree(state, "!r:a") {
		t.Error("servers that do not know the same events")
	}
}

func TestEvilDeeds(t *testing.T) {
	g := town(t)
	g.Evil = []string{"b"}
	r := roomOf(t, g, "b", "!r:a")
	do(t, &g, "evil", 4, api.Content{Target: int(api.KPolicy), Text: "x*", N: 2}, "@w:b", "!r:a", "a", "key")
	want := event.Sign(api.Event{Room: "!r:a", Sender: "@w:b", Kind: api.KPolicy, State: true, Key: "key", Time: g.Now, Depth: 7, Prev: r.Heads, Auth: g.Net.Packets[0].Events[0].Auth, Content: api.Content{Text: "x*", N: 2}}, "b")
	if !same(g.Net.Packets, []api.Packet{{From: "b", To: "a", Kind: api.PTxn, Events: []api.Event{want}}}) || len(want.Auth) != 3 {
		t.Error("the packet", g.Net.Packets)
	}
	settled(t, &g)
	a := roomOf(t, g, "a", "!r:a")
	if _, known := store.Get(a.Events, want.Id); !known {
		t.Error("an event of the malicious server's own user")
	}
	for name, c := range map[string]struct {
		a    api.Act
		want api.Errno
	}{
		"an honest server": {act("evil", 1, api.Content{}, "@u:a", "!x:a", "z"), api.ErrState},
		"an unknown room":  {act("evil", 9, api.Content{}, "@w:b", "!x:a", "a"), api.ErrNone},
		"an unknown name":  {act("evil", 9, api.Content{}, "@w:b", "!r:a", "z"), api.ErrNone},
		"a wrong deed":     {act("evil", 9, api.Content{}, "@w:b", "!r:a", "a"), api.ErrRange},
		"to itself":        {act("evil", 1, api.Content{}, "@w:b", "!r:a", "b"), api.ErrArg},
	} {
		if next, output, err := Step(g, c.a); err != c.want || output != "" || !same(next, g) {
			t.Errorf("%s: %d", name, err)
		}
	}
}

// randomAct returns some act in a world of the servers a, b and evil.
func randomAct(pick func(n int) int) api.Act {
	servers := []string{"a", "b", "evil"}
	users := []string{"@u:a", "@v:a", "@w:b", "@x:b", "@y:evil"}
	s, u := func() string { return servers[pick(3)] }, func() string { return users[pick(5)] }
	room := []string{"!r:a", "!q:b"}[pick(5)/4]
	switch pick(16) {
	case 0:
		return act("create", pick(4), api.Content{N: pick(4)}, u(), []string{"r", "q"}[pick(2)])
	case 1, 2:
		return act("join", 0, api.Content{}, u(), room, s())
	case 3:
		return act("invite", 0, api.Content{}, u(), room, u())
	case 4:
		return act("sync", 0, api.Content{}, s(), s(), room)
	case 5:
		return act([]string{"deliver", "drop", "copy"}[pick(3)], pick(9), api.Content{})
	case 6:
		return act([]string{"cut", "heal", "heal"}[pick(3)], 0, api.Content{}, s(), s())
	case 7:
		return act([]string{"crash", "start", "start"}[pick(3)], 0, api.Content{}, s())
	case 8:
		return act("flush", 0, api.Content{}, s())
	case 9:
		return act("settle", pick(12), api.Content{})
	case 10:
		k := []api.Kind{api.KName, api.KMember, api.KPower, api.KMessage}[pick(4)]
		key := ""
		if k == api.KMember {
			key = u()
		}
		return act("evil", 1+pick(6), api.Content{Target: int(k), N: pick(5), Text: "evil"}, u(), room, s(), key)
	case 11:
		return act("send", int(api.KMember), api.Content{N: pick(5)}, u(), room, u())
	case 12:
		return act("send", int(api.KName), api.Content{Text: "name"}, u(), room)
	}
	return act("send", int(api.KMessage), api.Content{Text: fmt.Sprint(pick(50))}, u(), room)
}

func TestAfterAnyActs(t *testing.T) {
	source := rand.New(rand.NewSource(1))
	answers := map[api.Errno]int{}
	for range 12 {
		g, _ := New([]string{"a", "b", "evil"}, []string{"evil"})
		g, _, _ = Step(g, act("create", api.Public, api.Content{}, "@u:a", "r"))
		for range 120 {
			next, _, err := Step(g, randomAct(source.Intn))
			answers[err]++
			g = next
		}
		for _, s := range g.Servers {
			if server.Check(s) != api.OK {
				t.Fatal("no server", server.Check(s))
			}
		}
		for _, room := range []string{"!r:a", "!q:b"} {
			if !Agree(g, room) {
				t.Fatal("the servers do not agree")
			}
			nobodySpeaksForOthers(t, g, room)
		}
	}
	if answers[api.OK] < 300 {
		t.Error("few acts succeed", answers)
	}
}

func nobodySpeaksForOthers(t *testing.T, g api.Grid, room string) {
	t.Helper()
	for _, s := range g.Servers {
		r, _ := server.Room(s, room)
		for _, e := range r.Events {
			home, ok := Server(g, ids.ServerOf(e.Sender))
			if s.Name == "evil" || home.Name == s.Name || home.Name == "evil" || e.Kind == api.KMember && e.Content.N == api.Join {
				continue
			}
			own, _ := server.Room(home, room)
			if _, known := store.Get(own.Events, e.Id); !ok || !known {
				t.Fatal("an event that its server does not have", e)
			}
		}
	}
}

func TestDelivery(t *testing.T) {
	source := rand.New(rand.NewSource(2))
	shared := 0
	for range 8 {
		g := fresh(t, "a", "b", "evil")
		g, _, _ = Step(g, act("create", api.Public, api.Content{}, "@u:a", "r"))
		for range 60 {
			if a := randomAct(source.Intn); a.Word != "evil" {
				g, _, _ = Step(g, a)
			}
		}
		for _, name := range []string{"a", "b", "evil"} {
			g, _, _ = Step(g, act("start", 0, api.Content{}, name))
		}
		g.Net.Cut = nil
		for changed := true; changed; {
			g, changed = round(t, g)
		}
		for _, room := range []string{"!r:a", "!q:b"} {
			shared += sameEvents(t, g, room)
		}
	}
	if shared == 0 {
		t.Error("no room is shared")
	}
}

// round lets every server ask every other one, and reports whether something was new.
func round(t *testing.T, g api.Grid) (api.Grid, bool) {
	t.Helper()
	count := func(g api.Grid) int {
		n := 0
		for _, s := range g.Servers {
			for _, r := range s.Rooms {
				n += len(r.Events)
			}
		}
		return n
	}
	before := count(g)
	for _, s := range g.Servers {
		for _, other := range g.Servers {
			for _, r := range s.Rooms {
				if s.Name != other.Name {
					g, _, _ = Step(g, act("sync", 0, api.Content{}, s.Name, other.Name, r.Id))
				}
			}
		}
	}
	g, ok := Settle(g, 5000)
	if !ok {
		t.Fatal("the world does not settle")
	}
	return g, count(g) != before
}

func sameEvents(t *testing.T, g api.Grid, room string) int {
	t.Helper()
	count := 0
	for _, x := range g.Servers {
		for _, y := range g.Servers {
			r, known := server.Room(x, room)
			q, both := server.Room(y, room)
			if x.Name >= y.Name || !known || !both {
				continue
			}
			part := func(r api.Room, name string) bool {
				return slices.Contains(members.Servers(statemap.Events(r.Events, r.State)), name) && outgoing.May(r, name) == api.OK
			}
			if !part(r, x.Name) || !part(r, y.Name) || !part(q, x.Name) || !part(q, y.Name) {
				continue
			}
			count++
			if !slices.Equal(store.Ids(r.Events), store.Ids(q.Events)) {
				t.Fatal("servers with part in a room do not know the same", x.Name, y.Name)
			}
		}
	}
	return count
}

func TestArgumentsAreKept(t *testing.T) {
	source := rand.New(rand.NewSource(3))
	g := town(t)
	g.Evil = []string{"b"}
	for range 150 {
		old := clone.Grid(g)
		next, _, _ := Step(g, randomAct(source.Intn))
		kept := clone.Grid(next)
		for i := range next.Servers {
			for j := range next.Servers[i].Rooms {
				next.Servers[i].Rooms[j].Events[0].Sender, next.Servers[i].Rooms[j].Rows[0].Pos = "spoiled", 99
				next.Servers[i].Rooms[j].Heads = append(next.Servers[i].Rooms[j].Heads[:0], 99)
			}
			next.Servers[i].Queues = append(next.Servers[i].Queues[:0], api.Queue{})
		}
		for i := range next.Net.Packets {
			next.Net.Packets[i].N = -1
		}
		if !same(g, old) {
			t.Fatal("the argument was changed")
		}
		g = kept
	}
	Settle(g, 5)
}
