package bridge_test

import (
	"fmt"
	"math/rand"
	"slices"
	"strings"
	"testing"

	"fedchat/api"
	. "fedchat/bridge"
	"fedchat/content"
	"fedchat/ids"
)

func TestUser(t *testing.T) {
	for _, c := range []struct {
		network, name, server, want string
		err                         api.Errno
	}{
		{"irc", "Bob!", "a.b", "@_irc_=42ob=21:a.b", api.OK}, {"i", "\x00\xff_=", "a", "@_i_=00=ff=5f=3d:a", api.OK}, {"abcdefg9", "z0", "a", "@_abcdefg9_z0:a", api.OK},
		{"IRC", "", "", "", api.ErrName}, {"", "x", "a", "", api.ErrName}, {"abcdefghi", "x", "a", "", api.ErrName}, {"i_c", "x", "a", "", api.ErrName}, {"irc", "", "A", "", api.ErrShort}, {"irc", "ABCDEFGHIJ", "A", "", api.ErrName}, {"irc", "ABCDEFGHIJ", "a", "", api.ErrLong}, {"irc", "ABCDEFGHI", "a", "@_irc_=41=42=43=44=45=46=47=48=49:a", api.OK}, {"irc", strings.Repeat("x", 27), "a", "@_irc_" + strings.Repeat("x", 27) + ":a", api.OK}, {"irc", strings.Repeat("x", 28), "a", "", api.ErrLong},
	} {
		if got, err := User(c.network, c.name, c.server); got != c.want || err != c.err {
			t.Errorf("User(%q, %q, %q) = %q, %d", c.network, c.name, c.server, got, err)
		}
	}
}

func TestBack(t *testing.T) {
	for _, c := range []struct {
		user, network, name string
		err                 api.Errno
	}{
		{"@_irc_=42ob=21:a.b", "irc", "Bob!", api.OK}, {"@_irc_=62ob:a.b", "", "", api.ErrForm}, {"@bob:a.b", "", "", api.ErrForm}, {"bob", "", "", api.ErrName}, {"!_irc_x:a", "", "", api.ErrName},
		{"@_irc_:a", "", "", api.ErrForm}, {"@_irc:a", "", "", api.ErrForm}, {"@__x:a", "", "", api.ErrForm}, {"@irc_x:a", "", "", api.ErrForm}, {"@x_irc_x:a", "", "", api.ErrForm}, {"@_irc_x_y:a", "", "", api.ErrForm}, {"@_irc_x=5:a", "", "", api.ErrForm}, {"@_irc_x=:a", "", "", api.ErrForm}, {"@_irc_=5g:a", "", "", api.ErrForm}, {"@_irc_=g5:a", "", "", api.ErrForm}, {"@_irc_x.y:a", "", "", api.ErrForm}, {"@_irc_=zz:a", "", "", api.ErrForm}, {"@_abcdefghi_x:a", "", "", api.ErrForm}, {"@_i-c_x:a", "", "", api.ErrForm}, {"@_irc_=5f:a", "irc", "_", api.OK}, {"@_1_0:a", "1", "0", api.OK}, {"@_irc_==3d:a", "", "", api.ErrForm},
	} {
		network, name, err := Back(c.user)
		if network != c.network || name != c.name || err != c.err {
			t.Errorf("Back(%q) = %q, %q, %d", c.user, network, name, err)
		}
	}
}

func TestIdentitiesAreRestored(t *testing.T) {
	source := rand.New(rand.NewSource(1))
	seen := map[string]string{}
	for range 20000 {
		b := make([]byte, 1+source.Intn(5))
		for i := range b {
			b[i] = byte(source.Intn(256))
			if source.Intn(2) == 0 {
				b[i] = "ab09=_A"[source.Intn(7)]
			}
		}
		network, name := []string{"irc", "x", "x1"}[source.Intn(3)], string(b)
		user, err := User(network, name, "s")
		if err != api.OK || ids.User(user) != api.OK || ids.ServerOf(user) != "s" {
			t.Fatal("User", network, name, err)
		}
		if n, m, err := Back(user); n != network || m != name || err != api.OK {
			t.Fatal("Back", user, n, m, err)
		}
		if other, known := seen[user]; known && other != network+"/"+name {
			t.Fatal("two identities have one ghost", user)
		}
		seen[user] = network + "/" + name
		local := "_irc_" + name
		if ghost := "@" + local + ":s"; ids.User(ghost) == api.OK {
			if n, m, err := Back(ghost); err == api.OK {
				if again, _ := User(n, m, "s"); again != ghost {
					t.Fatal("a ghost that is none", ghost)
				}
			}
		}
	}
}

func ghost(network, name, server string) api.Ghost {
	user, _ := User(network, name, server)
	return api.Ghost{Network: network, Name: name, User: user}
}

func TestCheck(t *testing.T) {
	many := []api.Ghost{}
	for i := range 201 {
		many = append(many, ghost("irc", fmt.Sprintf("n%03d", i), "a"))
	}
	for i, c := range []struct {
		l    []api.Ghost
		want api.Errno
	}{
		{nil, api.OK}, {many[:200], api.OK}, {many, api.ErrFull}, {[]api.Ghost{ghost("a", "z", "x"), ghost("b", "A", "y"), ghost("b", "B", "x")}, api.OK},
		{[]api.Ghost{{Network: "a", Name: "b", User: "x"}}, api.ErrName}, {[]api.Ghost{{Network: "a", Name: "b", User: "@bob:x"}}, api.ErrForm}, {[]api.Ghost{{Network: "a", Name: "c", User: "@_a_b:x"}}, api.ErrForm}, {[]api.Ghost{{Network: "b", Name: "b", User: "@_a_b:x"}}, api.ErrForm},
		{[]api.Ghost{ghost("b", "a", "x"), ghost("a", "b", "x")}, api.ErrOrder}, {[]api.Ghost{ghost("a", "b", "x"), ghost("a", "b", "y")}, api.ErrOrder}, {[]api.Ghost{ghost("b", "a", "x"), ghost("a", "b", "x"), {}}, api.ErrOrder}, {[]api.Ghost{ghost("b", "a", "x"), {Network: "a", User: "@_a_b:x"}}, api.ErrForm},
	} {
		if got := Check(c.l); got != c.want {
			t.Errorf("%d: %d, want %d", i, got, c.want)
		}
	}
}

func TestBind(t *testing.T) {
	l := []api.Ghost{}
	for _, name := range []string{"b", "d", "a", "c", "B"} {
		next, user, err := Bind(l, "irc", name, "s")
		if want, _ := User("irc", name, "s"); user != want || err != api.OK || Check(next) != api.OK || len(next) != len(l)+1 {
			t.Fatal("Bind", user, err)
		}
		again, user2, err := Bind(next, "irc", name, "other")
		if user2 != user || err != api.OK || !slices.Equal(again, next) {
			t.Fatal("Bind again", user2, err)
		}
		l = next
	}
	first, _, _ := Bind(l, "a", "z", "s")
	last, _, _ := Bind(l, "x", "a", "s")
	if first[0].Network != "a" || last[5].Network != "x" {
		t.Error("other networks", first, last)
	}
	many := []api.Ghost{}
	for i := range 200 {
		many = append(many, ghost("irc", fmt.Sprintf("n%03d", i), "a"))
	}
	for i, c := range []struct {
		network, name, server string
		want                  api.Errno
	}{{"I", "", "", api.ErrName}, {"irc", "", "a", api.ErrShort}, {"irc", "n003", "A", api.ErrName}, {"irc", "ABCDEFGHIJ", "a", api.ErrLong}, {"irc", "new", "a", api.ErrFull}, {"irc", "n003", "a", api.OK}} {
		l, user, err := Bind(many, c.network, c.name, c.server)
		if err != c.want || err != api.OK && (len(l) != 0 || user != "") {
			t.Errorf("%d: %d", i, err)
		}
	}
	twice := []api.Ghost{{Network: "irc", Name: "x", User: "first"}, {Network: "irc", Name: "x", User: "second"}}
	if l, user, err := Bind(twice, "irc", "x", "s"); user != "first" || err != api.OK || !slices.Equal(l, twice) {
		t.Error("the first one counts", user, err)
	}
	next, _, _ := Bind(twice, "irc", "x", "s")
	next[0].User = "changed"
	if twice[0].User != "first" {
		t.Error("the result shares memory with the argument")
	}
}

func TestRelay(t *testing.T) {
	l := []api.Ghost{{Network: "irc", Name: "x", User: "first"}, {Network: "irc", Name: "x", User: "second"}, ghost("irc", "y", "s")}
	full := api.Content{Text: "hi", N: 5, Target: 7, Thread: true, Via: "v", Allow: []string{"a"}, Deny: []string{"d"}, Levels: api.Levels{Ban: 1}}
	user, c, err := Relay(l, full, "irc", "x")
	if user != "first" || err != api.OK || !content.Same(c, api.Content{Text: "hi", Target: 7, Thread: true}) {
		t.Error("Relay", user, c, err)
	}
	for _, target := range []int{0, -5} {
		_, c, _ := Relay(l, api.Content{Text: "x", Target: target, Thread: true}, "irc", "y")
		if !content.Same(c, api.Content{Text: "x"}) || content.Check(api.KMessage, c) != api.OK {
			t.Error("no target", c)
		}
	}
	long := api.Content{Text: strings.Repeat("x", 401)}
	for i, c := range []struct {
		m    api.Content
		name string
		want api.Errno
	}{{long, "z", api.ErrNone}, {long, "x", api.ErrLong}, {api.Content{Text: long.Text[:400]}, "x", api.OK}} {
		user, got, err := Relay(l, c.m, "irc", c.name)
		if err != c.want || err != api.OK && (user != "" || !content.Same(got, api.Content{})) || err == api.OK && content.Check(api.KMessage, got) != api.OK {
			t.Errorf("%d: %d", i, err)
		}
	}
}
