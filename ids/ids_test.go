package ids_test

import (
	"math/rand"
	"slices"
	"strings"
	"testing"

	"fedchat/api"
	. "fedchat/ids"
)

const name32 = "abcdefghijklmnopqrstuvwxyz012345"

func TestServer(t *testing.T) {
	for _, s := range []string{"a", "z", "0", "9", "0-9.z", "a.example", "a--b..c", name32} {
		if Server(s) != api.OK {
			t.Errorf("Server(%q) is no server", s)
		}
	}
	for _, s := range []string{"", "-a", ".a", "a.", "a-", "-", ".", "A", "aB", "a_b", "a=b", "a b", "a:b", "a\x00", "ä", "@a", "{", "`", "/", "a/b", name32 + "a"} {
		if Server(s) != api.ErrName {
			t.Errorf("Server(%q) is a server", s)
		}
	}
}

func TestUserAndRoom(t *testing.T) {
	for _, s := range []string{"ann:a.example", "a=b_c.d-:x", "-:x", "=:x", "_:0", name32 + ":" + name32} {
		if User("@"+s) != api.OK || Room("!"+s) != api.OK {
			t.Errorf("%q is no identifier", s)
		}
		if User("!"+s) != api.ErrName || Room("@"+s) != api.ErrName || User(s) != api.ErrName || Room(s) != api.ErrName {
			t.Errorf("the mark before %q does not matter", s)
		}
	}
	for _, s := range []string{"", ":", ":x", "a:", "a:x:y", "a", "a b:x", "A:x", "a:X", "a:-x", "a:x.", "a::x", "a:x_y", "a\xff:x", name32 + "a:x", "a:" + name32 + "a"} {
		if User("@"+s) != api.ErrName || Room("!"+s) != api.ErrName {
			t.Errorf("%q is an identifier", s)
		}
	}
	if User("") != api.ErrName || Room("") != api.ErrName || User("a:x") != api.ErrName {
		t.Error("texts without a mark")
	}
}

func TestParts(t *testing.T) {
	for _, c := range [][3]string{{"@ann:a.example", "ann", "a.example"}, {"!r:x", "r", "x"}, {"@a=b_c.d-:x", "a=b_c.d-", "x"}, {"@:x", "", ""}, {"ann:a", "", ""}, {"#r:x", "", ""}, {"", "", ""}, {"@a:x:y", "", ""}, {"@a:X", "", ""}} {
		if LocalOf(c[0]) != c[1] || ServerOf(c[0]) != c[2] {
			t.Errorf("the parts of %q are %q and %q", c[0], LocalOf(c[0]), ServerOf(c[0]))
		}
	}
}

func TestMake(t *testing.T) {
	if id, err := Make('!', "r", "x"); id != "!r:x" || err != api.OK {
		t.Error("Make of a room", id, err)
	}
	for _, c := range []struct {
		mark          byte
		local, server string
	}{{'#', "r", "x"}, {'@', "", "x"}, {'@', "a", ""}, {'!', "a:b", "x"}, {'@', "a", "b:x"}, {0, "a", "x"}, {'@' + 128, "a", "x"}, {'@', "A", "x"}, {'!', name32 + "a", "x"}} {
		if id, err := Make(c.mark, c.local, c.server); id != "" || err != api.ErrName {
			t.Errorf("Make(%q, %q, %q) = %q, %d", c.mark, c.local, c.server, id, err)
		}
	}
}

func TestMakeInvertsParts(t *testing.T) {
	source := rand.New(rand.NewSource(1))
	text := func() string {
		alphabet := "a0.-_=:@!A"
		s := ""
		for range source.Intn(4) {
			s += string(alphabet[source.Intn(len(alphabet))])
		}
		return s
	}
	made := 0
	for range 20000 {
		mark, local, server := "@!#"[source.Intn(3)], text(), text()
		id, err := Make(mark, local, server)
		if err == api.OK {
			made++
			if LocalOf(id) != local || ServerOf(id) != server || (User(id) == api.OK) == (Room(id) == api.OK) {
				t.Fatal("parts of what Make returned", id)
			}
		}
		s := string(mark) + text() + ":" + text()
		if User(s) == api.OK || Room(s) == api.OK {
			if again, err := Make(s[0], LocalOf(s), ServerOf(s)); again != s || err != api.OK {
				t.Fatal("Make of the parts", s, again)
			}
		}
	}
	if made == 0 {
		t.Error("nothing was made")
	}
}

func TestNames(t *testing.T) {
	source := rand.New(rand.NewSource(2))
	for range 2000 {
		l := make([]string, source.Intn(7))
		for i := range l {
			l[i] = []string{"", "a", "b", "B", "\xff", "ab"}[source.Intn(6)]
		}
		names := Names(l)
		for i := 1; i < len(names); i++ {
			if names[i-1] >= names[i] {
				t.Fatal("not increasing", l, names)
			}
		}
		for _, s := range []string{"", "a", "b", "B", "\xff", "ab", "c"} {
			if slices.Contains(l, s) != slices.Contains(names, s) {
				t.Fatal("other elements", l, names)
			}
		}
		source.Shuffle(len(l), func(i, j int) { l[i], l[j] = l[j], l[i] })
		if !slices.Equal(Names(slices.Concat(l, l)), names) || !slices.Equal(Names(names), names) {
			t.Fatal("order or number matters", l)
		}
	}
	if got := strings.Join(Names([]string{"b", "a", "b"}), " "); got != "a b" {
		t.Error("Names of b, a, b:", got)
	}
	if len(Names(nil)) != 0 {
		t.Error("Names of nothing")
	}
}

func TestNamesKeepsItsArgument(t *testing.T) {
	l := []string{"b", "a", "b"}
	names := Names(l)
	names[0] = "x"
	if !slices.Equal(l, []string{"b", "a", "b"}) {
		t.Error("the argument was changed", l)
	}
}

func TestFind(t *testing.T) {
	l := []string{"b", "a", "b"}
	if Find(l, "b") != 0 || Find(l, "a") != 1 || Find(l, "c") != -1 || Find(nil, "") != -1 || Find([]string{""}, "") != 0 {
		t.Error("Find")
	}
}
