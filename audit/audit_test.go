package audit_test

import (
	"fmt"
	"math/rand"
	"slices"
	"strings"
	"testing"

	"fedchat/api"
	. "fedchat/audit"
	"fedchat/clone"
	"fedchat/event"
	"fedchat/members"
	"fedchat/room"
	"fedchat/sample"
	"fedchat/script"
	"fedchat/server"
	"fedchat/store"
	"fedchat/world"
)

// run performs the lines of a script, without those of users at home.
func run(t *testing.T, g api.Grid, text string) api.Grid {
	t.Helper()
	acts, _, err := script.Parse(text)
	if err != api.OK {
		t.Fatal("Parse", err)
	}
	for _, a := range acts {
		if g, _, err = world.Step(g, a); err != api.OK {
			t.Fatal(script.Line(a), err)
		}
	}
	return g
}

// town is a world of two servers with a public room of @u:a, which @w:b has joined.
func town(t *testing.T) api.Grid {
	t.Helper()
	g, _ := world.New([]string{"a", "b"}, nil)
	return run(t, g, "create @u:a r n=1\njoin @w:b !r:a a\nsettle n=60\nsend @u:a !r:a n=11 text=one\nsend @u:a !r:a n=11 text=two\nsettle n=60")
}

func checkAll(t *testing.T, g api.Grid, room, user string) {
	t.Helper()
	if text, err := Rooms(g); text != "" || err != api.OK {
		t.Error("Rooms", text, err)
	}
	if text, err := Views(g, room, user); text != "" || err != api.OK {
		t.Error("Views", text, err)
	}
	if text, err := Secrets(g, room, user); text != "" || err != api.OK {
		t.Error("Secrets", text, err)
	}
}

func TestExample(t *testing.T) {
	g := town(t)
	checkAll(t, g, "!r:a", "@w:b")
	checkAll(t, g, "!r:a", "@u:a")
	checkAll(t, g, "!r:a", "@stranger:a")
}

func TestEvents(t *testing.T) {
	s := sample.New("!r:a", "@ann:a", api.Public, api.Shared)
	rejected := s.Add("@eve:e", api.KMessage, "", api.Content{Text: "x"}, 0)
	message := s.Add("@ann:a", api.KMessage, "", api.Content{Text: "x"}, 0)
	good := sample.InOrder(s)
	place := slices.IndexFunc(good.Rows, func(row api.Row) bool { return row.Id == rejected.Id })
	last := slices.IndexFunc(good.Rows, func(row api.Row) bool { return row.Id == message.Id })
	at := func(r *api.Room, id int) *api.Event {
		return &r.Events[slices.IndexFunc(r.Events, func(e api.Event) bool { return e.Id == id })]
	}
	for name, c := range map[string]struct {
		change func(r *api.Room)
		id     int
		want   api.Errno
	}{
		"right":             {func(r *api.Room) {}, 0, api.OK},
		"accepted":          {func(r *api.Room) { r.Rows[place].Status = api.Accepted }, rejected.Id, api.ErrMember},
		"soft":              {func(r *api.Room) { r.Rows[place].Status = api.Soft }, rejected.Id, api.ErrMember},
		"another soft":      {func(r *api.Room) { r.Rows[last].Status = api.Soft }, 0, api.OK},
		"rejected":          {func(r *api.Room) { r.Rows[last].Status = api.Rejected }, message.Id, api.ErrState},
		"unknown":           {func(r *api.Room) { r.Rows[last].Status = 0 }, message.Id, api.ErrState},
		"another status":    {func(r *api.Room) { r.Rows[place].Status = 77 }, 0, api.OK},
		"no event":          {func(r *api.Room) { r.Rows[last].Id = 5 }, 5, api.ErrNone},
		"a wrong signature": {func(r *api.Room) { at(r, message.Id).Sig.Sum++ }, good.Rows[0].Id, api.ErrNone},
		"an event is missing": {func(r *api.Room) {
			r.Events = slices.DeleteFunc(r.Events, func(e api.Event) bool { return e.Depth == 1 })
		}, good.Rows[0].Id, api.ErrNone},
		"a forged first one": {func(r *api.Room) { at(r, r.Rows[0].Id).Time++ }, good.Rows[0].Id, api.ErrSum},
		"nothing":            {func(r *api.Room) { r.Rows = nil }, 0, api.OK},
	} {
		r := clone.Room(good)
		c.change(&r)
		if id, err := Events(r); id != c.id || err != c.want {
			t.Errorf("%s: %d, %d", name, id, err)
		}
	}
}

func TestRooms(t *testing.T) {
	good := town(t)
	for name, c := range map[string]struct {
		change func(g *api.Grid)
		text   string
		want   api.Errno
	}{
		"right":              {func(g *api.Grid) {}, "", api.OK},
		"a wrong room":       {func(g *api.Grid) { g.Servers[1].Rooms[0].Next++ }, "b !r:a", api.ErrForm},
		"the first one":      {func(g *api.Grid) { g.Servers[1].Rooms[0].Next++; g.Servers[0].Rooms[0].Id = "r" }, "a r", api.ErrName},
		"a malicious server": {func(g *api.Grid) { g.Servers[1].Rooms[0].Next++; g.Evil = []string{"b"} }, "", api.OK},
		"no servers":         {func(g *api.Grid) { g.Servers = nil }, "", api.OK},
	} {
		g := clone.Grid(good)
		c.change(&g)
		if text, err := Rooms(g); text != c.text || err != c.want {
			t.Errorf("%s: %q, %d", name, text, err)
		}
	}
}

func TestViews(t *testing.T) {
	good := town(t)
	for name, c := range map[string]struct {
		change     func(g *api.Grid)
		room, user string
		text       string
		want       api.Errno
	}{
		"an unknown server": {func(g *api.Grid) {}, "!r:a", "@u:z", "", api.ErrNone},
		"no user":           {func(g *api.Grid) {}, "!r:a", "u", "", api.ErrNone},
		"an unknown room":   {func(g *api.Grid) {}, "!x:a", "@u:a", "", api.ErrNone},
		"down":              {func(g *api.Grid) { g.Servers[0].Down = true }, "!r:a", "@u:a", "1", api.ErrDown},
		"a room as user":    {func(g *api.Grid) {}, "!r:a", "!r:a", "1", api.ErrName},
		"not joined":        {func(g *api.Grid) {}, "!r:a", "@x:a", "", api.OK},
	} {
		g := clone.Grid(good)
		c.change(&g)
		if text, err := Views(g, c.room, c.user); text != c.text || err != c.want {
			t.Errorf("%s: %q, %d", name, text, err)
		}
	}
	long := run(t, good, strings.Repeat("send @u:a !r:a n=11 text=x\ntick n=1\n", 200)+"tick n=1")
	if text, err := Views(long, "!r:a", "@u:a"); text != "1" || err != api.ErrGap {
		t.Error("a long timeline", text, err)
	}
	if text, err := Views(long, "!r:a", "@w:b"); text != "" || err != api.OK {
		t.Error("the timeline of the other server", text, err)
	}
}

func TestSecrets(t *testing.T) {
	g := town(t)
	for _, c := range [][2]string{{"!r:a", "@u:z"}, {"!r:a", "u"}, {"!x:a", "@u:a"}} {
		if text, err := Secrets(g, c[0], c[1]); text != "" || err != api.ErrNone {
			t.Error(c, text, err)
		}
	}
	g.Servers[0].Down = true
	if text, err := Secrets(g, "!r:a", "@u:a"); text != "" || err != api.OK {
		t.Error("a server that is down", text, err)
	}
}

// randomLine is a line of a script that may fail.
func randomLine(pick func(n int) int) string {
	users := []string{"@u:a", "@v:a", "@w:b", "@x:b", "@y:evil"}
	u, s := func() string { return users[pick(5)] }, func() string { return []string{"a", "b", "evil"}[pick(3)] }
	lines := []string{
		"send " + u() + " !r:a n=11 text=hi", "send " + u() + " !r:a n=11 text=ho", "send " + u() + " !r:a n=7 text=name", "join " + u() + " !r:a a", "join " + u() + " !r:a " + s(),
		"invite " + u() + " !r:a " + u(), fmt.Sprint("send ", u(), " !r:a ", u(), " n=2 c=", pick(5)), fmt.Sprint("send ", u(), " !r:a n=5 c=", pick(4)), fmt.Sprint("evil ", u(), " !r:a ", s(), " n=", 1+pick(6), " to=000000000000000", []string{"b", "7", "2"}[pick(3)]),
		"settle n=30", "settle n=5", "cut a b", "heal a b", "crash " + s(), "start " + s(), "sync " + s() + " " + s() + " !r:a", fmt.Sprint("deliver n=", pick(5)), fmt.Sprint("drop n=", pick(5)),
	}
	return lines[pick(len(lines))]
}

func TestWorldsKeepTheirPromises(t *testing.T) {
	source := rand.New(rand.NewSource(1))
	joined := 0
	for range 10 {
		g, _ := world.New([]string{"a", "b", "evil"}, []string{"evil"})
		g = run(t, g, "create @u:a r n=1\njoin @w:b !r:a a\nsettle n=60")
		for range 90 {
			acts, _, err := script.Parse(randomLine(source.Intn))
			if err != api.OK {
				t.Fatal("Parse", err)
			}
			g, _, _ = world.Step(g, acts[0])
		}
		if text, err := Rooms(g); text != "" || err != api.OK {
			t.Fatal("Rooms", text, err)
		}
		for _, user := range []string{"@u:a", "@v:a", "@w:b", "@x:b", "@y:evil", "@z:a"} {
			if text, err := Secrets(g, "!r:a", user); text != "" || err != api.OK && err != api.ErrNone {
				t.Fatal("Secrets", user, text, err)
			}
			s, _ := world.Server(g, user[3:])
			r, known := server.Room(s, "!r:a")
			if !known || s.Down || members.InState(r.Events, r.State, user) != api.Join {
				continue
			}
			joined++
			if text, err := Views(g, "!r:a", user); text != "" || err != api.OK {
				t.Fatal("Views", user, text, err)
			}
		}
	}
	if joined < 10 {
		t.Error("few users are joined", joined)
	}
}

func TestForgedRowsAreFound(t *testing.T) {
	source := rand.New(rand.NewSource(2))
	found := 0
	for range 20 {
		r := sample.Received(sample.Random(source.Intn, 18), source.Intn)
		if id, err := Events(r); id != 0 || err != api.OK || room.Check(r) != api.OK {
			t.Fatal("Events", id, err)
		}
		i := source.Intn(len(r.Rows))
		row := &r.Rows[i]
		e, _ := store.Get(r.Events, row.Id)
		if row.Status == api.Rejected {
			row.Status = api.Accepted
			found++
		} else {
			row.Status = api.Rejected
		}
		if id, err := Events(r); id != row.Id || err == api.OK || event.Verify(e) != api.OK {
			t.Fatal("a wrong row is not found", id, err)
		}
	}
	if found == 0 {
		t.Error("no row was rejected")
	}
}
