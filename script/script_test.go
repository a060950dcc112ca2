package script_test

import (
	"fmt"
	"math/rand"
	"slices"
	"strings"
	"testing"

	"fedchat/api"
	"fedchat/content"
	. "fedchat/script"
	"fedchat/sums"
	"fedchat/timeline"
	"fedchat/view"
	"fedchat/world"
)

// words are those of acts.
var words = strings.Fields("servers as view create send join invite sync deliver drop copy cut heal crash start tick flush settle evil")

func sameActs(a, b []api.Act) bool {
	return slices.EqualFunc(a, b, func(x, y api.Act) bool {
		return x.Word == y.Word && slices.Equal(x.Names, y.Names) && x.N == y.N && content.Same(x.Body, y.Body)
	})
}

func lines(l ...string) string {
	return strings.Join(l, "\n")
}

func TestParse(t *testing.T) {
	got, line, err := Parse(lines("# comment n=", "", "servers a b", "send @u:a !r:a key n=11 c=-3 to=000000000000000a text=two words  n=5 ", "#tick", "tick n=0", "view"))
	want := []api.Act{
		{Word: "servers", Names: []string{"a", "b"}}, {Word: "send", Names: []string{"@u:a", "!r:a", "key"}, N: 11, Body: api.Content{N: -3, Target: 10, Text: "two words  n=5 "}}, {Word: "tick"}, {Word: "view"},
	}
	if !sameActs(got, want) || line != 0 || err != api.OK {
		t.Error(got, line, err)
	}
	for name, c := range map[string]struct {
		s    string
		want api.Act
	}{
		"fields in another order": {"tick text=", api.Act{Word: "tick"}}, "to first": {"as a b to=0000000000000001 n=-5", api.Act{Word: "as", Names: []string{"a", "b"}, N: -5, Body: api.Content{Target: 1}}}, "names like fields": {"as n c t=o texts", api.Act{Word: "as", Names: []string{"n", "c", "t=o", "texts"}}}, "a name with a mark": {"as #x /", api.Act{Word: "as", Names: []string{"#x", "/"}}}, "other characters": {"as \t\xff text=\x00\r", api.Act{Word: "as", Names: []string{"\t\xff"}, Body: api.Content{Text: "\x00\r"}}},
	} {
		if got, line, err := Parse(c.s); !sameActs(got, []api.Act{c.want}) || line != 0 || err != api.OK {
			t.Errorf("%s: %v, %d, %d", name, got, line, err)
		}
	}
}

func TestParseErrors(t *testing.T) {
	for _, s := range []string{"fly", " tick", "tick ", "tick  n=1", "tick n=1 ", "tick n=", "tick n=01", "tick n=+1", "tick n=x", "tick n=1000000000001", "tick n=1 n=1", "tick c=1 c=2", "tick to=1", "tick to=4000000000000000", "tick to=000000000000000A", "tick to=0000000000000001 to=0000000000000001", "tick n=1 a", "tick n=1 a n=2", "Tick", "n=1", "text=x", "tick\t", "as a  b", " ", "servers\r"} {
		if got, line, err := Parse("tick\n" + s + "\nfly"); len(got) != 0 || line != 2 || err != api.ErrText {
			t.Errorf("%q: %v, %d, %d", s, got, line, err)
		}
	}
	long := strings.Repeat("#", api.MaxScript)
	if got, line, err := Parse(long); len(got) != 0 || line != 0 || err != api.OK {
		t.Error("the longest text", err)
	}
	if got, line, err := Parse(long + "\n"); len(got) != 0 || line != 0 || err != api.ErrLong {
		t.Error("a text that is too long", err)
	}
	if got, line, err := Parse(""); len(got) != 0 || line != 0 || err != api.OK {
		t.Error("no text", got, line, err)
	}
	for _, word := range strings.Fields("servers as view create send join invite sync deliver drop copy cut heal crash start tick flush settle evil") {
		if _, _, err := Parse(word); err != api.OK {
			t.Error("the word", word)
		}
	}
}

func TestLine(t *testing.T) {
	for want, a := range map[string]api.Act{
		"":     {},
		"tick": {Word: "tick"}, "as a b n=-5 c=7 to=0000000000000009 text=x  y": {Word: "as", Names: []string{"a", "b"}, N: -5, Body: api.Content{N: 7, Target: 9, Text: "x  y", Via: "v", Thread: true, Allow: []string{"a"}}},
		"x  y text=\n": {Word: "x", Names: []string{"", "y"}, Body: api.Content{Text: "\n"}},
	} {
		if got := Line(a); got != want {
			t.Errorf("%q instead of %q", got, want)
		}
	}
}

func TestParseInvertsLine(t *testing.T) {
	source := rand.New(rand.NewSource(1))
	pick := func(l ...string) string { return l[source.Intn(len(l))] }
	for range 5000 {
		a := api.Act{Word: words[source.Intn(len(words))], N: source.Intn(5) - 2, Body: api.Content{N: source.Intn(3) * (source.Intn(2*api.MaxInt) - api.MaxInt) / 2, Target: source.Intn(3) * source.Intn(1<<60), Text: pick("", "x", " n=5 ", "text=", "#", "\x00ä")}}
		for range source.Intn(4) {
			a.Names = append(a.Names, pick("@u:a", "!r:a", "/", "x=", "ä", "N=1", "ton=", "a#"))
		}
		if got, line, err := Parse(Line(a)); !sameActs(got, []api.Act{a}) || line != 0 || err != api.OK {
			t.Fatal(Line(a), got, line, err)
		}
	}
}

const example = "servers a b\nas @u:a register\nas @u:a create r n=1\njoin @w:b !r:a a\nsettle n=60\nview @w:b !r:a"

func TestExample(t *testing.T) {
	outputs, line, err := Run(example)
	if line != 0 || err != api.OK || len(outputs) != 6 || outputs[0] != "" || outputs[1] != "@u:a" || outputs[2] != "!r:a" || outputs[3] != "" || outputs[4] != "settled" || len(strings.Fields(outputs[5])) != 6 {
		t.Error(outputs, line, err)
	}
	for _, hex := range strings.Fields(outputs[5]) {
		if _, ok := sums.Unhex(hex); !ok {
			t.Error("no id", hex)
		}
	}
}

func TestRunErrors(t *testing.T) {
	for name, c := range map[string]struct {
		s       string
		outputs int
		line    int
		want    api.Errno
	}{
		"nothing":                {"# nothing", 0, 0, api.OK},
		"a wrong line":           {"servers a\n\nfly", 0, 3, api.ErrText},
		"too long":               {strings.Repeat("x", 20001), 0, 0, api.ErrLong},
		"no servers":             {"# x\ntick", 0, 1, api.ErrState},
		"servers twice":          {"servers a\ntick\nservers a", 2, 3, api.ErrState},
		"no names":               {"servers", 0, 1, api.ErrShort},
		"a wrong name":           {"servers A", 0, 1, api.ErrName},
		"a malicious stranger":   {"servers a / b", 0, 1, api.ErrNone},
		"a malicious server":     {"servers a b / b", 1, 0, api.OK},
		"two marks":              {"servers a b / b / a", 0, 1, api.ErrNone},
		"only malicious ones":    {"servers / a", 0, 1, api.ErrShort},
		"as without a word":      {"servers a\nas @u:a", 1, 2, api.ErrArg},
		"as without a server":    {"servers a\nas @u:b fly", 1, 2, api.ErrNone},
		"as with a wrong word":   {"servers a\nas @u:a fly", 1, 2, api.ErrArg},
		"as without registering": {"servers a\nas @u:a cross n=1", 1, 2, api.ErrNone},
		"view without a room":    {"servers a\nview @u:a", 1, 2, api.ErrArg},
		"view of nobody":         {"servers a\nview u !r:a", 1, 2, api.ErrNone},
		"view with a limit":      {"servers a\nview @u:a !r:a n=101", 1, 2, api.ErrRange},
		"view of no room":        {"servers a\nview @u:a !r:a", 2, 0, api.OK},
		"view while down":        {"servers a\ncrash a\nview @u:a !r:a", 2, 3, api.ErrDown},
		"an error of the world":  {"servers a\ntick n=-1\ntick", 1, 2, api.ErrRange},
	} {
		outputs, line, err := Run(c.s)
		if len(outputs) != c.outputs || line != c.line || err != c.want {
			t.Errorf("%s: %v, %d, %d", name, outputs, line, err)
		}
	}
}

func TestActsAtHomeHaveTheTimeOfTheWorld(t *testing.T) {
	s := "servers a\nas @u:a register\n" + strings.Repeat("as @u:a cross n=1\n", 10)
	if _, line, err := Run(s + "as @u:a cross n=1"); line != 13 || err != api.ErrRate {
		t.Error("the eleventh act", line, err)
	}
	if outputs, line, err := Run(s + "tick n=1000\nas @u:a cross n=1"); line != 0 || err != api.OK || len(outputs) != 14 {
		t.Error("a second later", line, err)
	}
	outputs, _, err := Run("servers a\ntick n=50\nas @u:a register\nas @u:a create r\nas @u:a send !r:a n=11 text=one two\nas @u:a search !r:a two n=5\nview @u:a !r:a n=2")
	if err != api.OK || outputs[5] != "1" || len(strings.Fields(outputs[6])) != 6 || !strings.HasSuffix(outputs[6], outputs[4]) {
		t.Error(outputs, err)
	}
}

// grid returns the world after the acts of a script, all but the first of which are those of world.Step.
func grid(t *testing.T, s string) api.Grid {
	t.Helper()
	acts, _, err := Parse(s)
	if err != api.OK {
		t.Fatal("Parse", err)
	}
	g, err := world.New(acts[0].Names, nil)
	if err != api.OK {
		t.Fatal("New", err)
	}
	for i, a := range acts[1:] {
		if g, _, err = world.Step(g, a); err != api.OK {
			t.Fatal("the act", i+2, err)
		}
	}
	return g
}

func TestClient(t *testing.T) {
	text := lines("servers a b", "create @u:a r n=1", "join @w:b !r:a a", "settle n=60")
	for i := range 40 {
		text += fmt.Sprintf("\nsend @u:a !r:a n=11 text=%d", i)
	}
	text += "\nsettle n=200\nsend @u:a !r:a @x:b n=2 c=1"
	g := grid(t, text+"\nsettle n=200")
	for _, user := range []string{"@u:a", "@w:b"} {
		s, _ := world.Server(g, user[3:])
		for _, limit := range []int{1, 3, 7, 50, 100} {
			v, err := Client(s, "!r:a", user, limit)
			if err != api.OK || !view.Whole(v) || v.Room != "!r:a" || v.Member != api.Join || !slices.Equal(view.Ids(v), timeline.After(s.Rooms[0], user, 0)) || len(v.Events) < 40 {
				t.Error("the view of", user, limit, err, len(v.Events))
			}
		}
		for limit, want := range map[int]api.Errno{0: api.ErrRange, 101: api.ErrRange} {
			if v, err := Client(s, "!r:a", user, limit); err != want || v.Room != "" {
				t.Error("a wrong limit", limit, err)
			}
		}
	}
	b, _ := world.Server(g, "b")
	v, err := Client(b, "!r:a", "@x:b", 5)
	if err != api.OK || v.Member != api.Invite || len(v.Events) != 0 || len(v.State) != 3 {
		t.Error("an invited user", v, err)
	}
	v, err = Client(b, "!q:a", "@x:b", 5)
	if err != api.OK || fmt.Sprint(v) != fmt.Sprint(api.View{Room: "!q:a"}) {
		t.Error("an unknown room", v, err)
	}
	if _, err := Client(b, "!r:a", "@u:a", 5); err != api.ErrName {
		t.Error("another server's user", err)
	}
}

func TestLongRoomsKeepGaps(t *testing.T) {
	g := grid(t, "servers a\ncreate @u:a r n=1")
	for i := range 230 {
		var err api.Errno
		if g, _, err = world.Step(g, api.Act{Word: "send", Names: []string{"@u:a", "!r:a"}, N: int(api.KMessage), Body: api.Content{Text: fmt.Sprint(i)}}); err != api.OK {
			t.Fatal(err)
		}
	}
	s, _ := world.Server(g, "a")
	v, err := Client(s, "!r:a", "@u:a", 1)
	if err != api.OK || len(v.Events) != 201 || len(v.Gaps) != 1 {
		t.Error("at most 200 pages", len(v.Events), v.Gaps, err)
	}
	if v, _ := Client(s, "!r:a", "@u:a", 100); len(v.Events) != 235 || !view.Whole(v) {
		t.Error("few pages", len(v.Events))
	}
}
