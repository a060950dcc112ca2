package archive_test

import (
	"fmt"
	"math"
	"math/rand"
	"slices"
	"strings"
	"testing"

	"fedchat/api"
	. "fedchat/archive"
	"fedchat/event"
	"fedchat/room"
	"fedchat/sample"
	"fedchat/sums"
	"fedchat/visible"
)

// maxText is how many bytes the text of a room has at most.
const maxText = 500000

func TestQuote(t *testing.T) {
	for s, want := range map[string]string{"": `""`, "a\n\xff": `"a\n\xff"`, `say "hi"\`: `"say \"hi\"\\"`, " ~\x1f\x7f\x00\r": `" ~\x1f\x7f\x00\x0d"`, "ä": `"\xc3\xa4"`} {
		if got := Quote(s); got != want {
			t.Errorf("Quote(%q) is %s", s, got)
		}
	}
}

func TestUnquote(t *testing.T) {
	if s, rest, ok := Unquote(`"b"c`); s != "b" || rest != "c" || !ok {
		t.Error("Unquote", s, rest, ok)
	}
	for _, s := range []string{``, `a`, `"`, `"a`, `"\"`, `"\`, `"\q"`, `"\x41"`, `"\x0a"`, `"\xFF"`, `"\xf"`, `"\xfg"`, `"\xg0"`, `"\x"`, "\"\n\"", "\"\xff\"", "\"\x7f\"", `\"a"`, ` "a"`, `"\x22"`, `"\x5c"`} {
		if text, rest, ok := Unquote(s); text != "" || rest != "" || ok {
			t.Errorf("Unquote(%q) is %q", s, text)
		}
	}
	source := rand.New(rand.NewSource(1))
	for range 20000 {
		b := make([]byte, source.Intn(6))
		for i := range b {
			b[i] = "\"\\nx\n0fa\x00\xff 9"[source.Intn(12)]
		}
		s, tail := string(b), []string{"", "x", `"`, `\`}[source.Intn(4)]
		q := Quote(s)
		for i := range q {
			if q[i] < 32 || q[i] > 126 {
				t.Fatal("an unreadable byte", q)
			}
		}
		if text, rest, ok := Unquote(q + tail); text != s || rest != tail || !ok {
			t.Fatalf("Unquote of %q", q+tail)
		}
		if text, rest, ok := Unquote(`"` + s); ok && Quote(text)+rest != `"`+s {
			t.Fatalf("Unquote of %q", `"`+s)
		}
	}
}

// full is an event with all fields.
func full() api.Event {
	return api.Event{Id: 5, Room: "!r:a", Sender: "@u:a", Kind: 11, State: true, Key: "a b", Time: -6, Depth: 7, Prev: []int{3, 0}, Auth: []int{-1}, Content: api.Content{Text: "hi\n", N: 8, Target: 9, Thread: true, Via: "v=", Allow: []string{"", "x,y"}, Deny: []string{"d"}, Levels: api.Levels{Users: []api.Level{{User: "@u:a", N: 100}, {}}, Kinds: []api.KindLevel{{Kind: 3, N: -5}, {}}, User: 1, Message: 2, State: 3, Invite: 4, Kick: 5, Ban: 6, Redact: 7}}, Hash: math.MaxInt, Sig: api.Sig{Server: "s", Sum: math.MinInt}}
}

const fullLine = `id=5 room="!r:a" sender="@u:a" kind=11 state key="a b" time=-6 depth=7 prev=3,0 auth=-1 text="hi\n" n=8 target=9 thread via="v=" allow="","x,y" deny="d" users="@u:a":100,"":0 kinds=3:-5,0:0 user=1 message=2 states=3 invite=4 kick=5 ban=6 redact=7 hash=9223372036854775807 server="s" sum=-9223372036854775808`

func TestEvent(t *testing.T) {
	for want, e := range map[string]api.Event{
		"":       {},
		fullLine: full(), `id=5 kind=11 prev=3,4 text="hi"`: {Id: 5, Kind: 11, Prev: []int{3, 4}, Content: api.Content{Text: "hi"}},
		"prev=0": {Prev: []int{0}, Auth: []int{}},
	} {
		if got := Event(e); got != want {
			t.Errorf("%s instead of %s", got, want)
		}
		if got, err := ReadEvent(want); err != api.OK || !event.Same(got, e) {
			t.Errorf("ReadEvent of %s: %d, %v", want, err, got)
		}
	}
}

func TestReadEventErrors(t *testing.T) {
	for _, s := range []string{" ", "id", "id=", "id=0", "id=01", "id=+1", "id=5 ", " id=5", "id=5  kind=1", "kind=1 id=5", "id=5 id=5", "id=5 id=6", "state=1", "state state", "thread=true", "State", "prev=", "prev=1,", "prev=1,,2", "prev=1 2", `room=""`, `room=a`, `room="a`, `room="\x41"`, "x=1", "=5", "id=5kind=1", `users="a"`, `users="a":`, `users=a:1`, "kinds=1", "kinds=1:2,", `allow="a",b`, "id=9223372036854775808", "id=5\n", `text="a"b`, "sum=1 hash=1", "id = 5"} {
		if e, err := ReadEvent(s); err != api.ErrText || !event.Same(e, api.Event{}) {
			t.Errorf("ReadEvent(%q): %d", s, err)
		}
	}
}

func randomEvent(source *rand.Rand) api.Event {
	e := full()
	n := func() int { return source.Intn(3) * (source.Intn(1<<62) - 1<<61) }
	text := func() string {
		return []string{"", "a b", `"`, "\n", ",", "x=1", "\xff"}[source.Intn(7)]
	}
	e.Id, e.Time, e.Hash, e.Sig.Sum, e.Content.N, e.Content.Levels.Ban, e.Depth = n(), n(), n(), n(), n(), n(), n()
	e.Room, e.Sender, e.Key, e.Content.Text, e.Content.Via, e.Sig.Server = text(), text(), text(), text(), text(), text()
	e.State, e.Content.Thread, e.Kind = source.Intn(2) == 0, source.Intn(2) == 0, api.Kind(n())
	if source.Intn(2) == 0 {
		e.Prev, e.Content.Allow, e.Content.Levels.Users = nil, []string{text()}, nil
	}
	if source.Intn(2) == 0 {
		e.Auth, e.Content.Deny, e.Content.Levels.Kinds = []int{n(), n()}, nil, []api.KindLevel{{Kind: api.Kind(n()), N: n()}}
	}
	return e
}

func TestReadEventInvertsEvent(t *testing.T) {
	source := rand.New(rand.NewSource(2))
	for range 5000 {
		e := randomEvent(source)
		s := Event(e)
		if got, err := ReadEvent(s); err != api.OK || !event.Same(got, e) || strings.Contains(s, "\n") {
			t.Fatal(s, err)
		}
		if s == "" {
			continue
		}
		b := []byte(s)
		i := source.Intn(len(b))
		b[i] = ` ="0-a,:`[source.Intn(8)]
		if source.Intn(2) == 0 {
			b = append(b[:i], b[i+1:]...)
		}
		if got, err := ReadEvent(string(b)); err == api.OK && Event(got) != string(b) {
			t.Fatalf("ReadEvent accepts %q", b)
		}
	}
}

func fullRoom() api.Room {
	return api.Room{Id: "!r:a", Events: []api.Event{{Id: 5}, {}}, Rows: []api.Row{{Pos: 0, Id: 5, Status: api.Accepted}, {Pos: -1, Id: 7, Status: 99, Gone: true}}, Waiting: []api.Event{{}, {Id: 6}}, Heads: []int{5, -6}, State: api.State{{Kind: 2, Key: "a \"b", Id: 5}, {}}, Next: -2, Receipts: []api.Receipt{{User: "@u:a", Thread: 1, Id: 2, Time: 3}, {}}, Typing: []api.Typing{{User: "@u:a", Until: 4}, {}}}
}

const fullText = `room "!r:a" next=-2
event id=5
event
row 0 5 4
row -1 7 99 gone
wait
wait id=6
heads 5,-6
entry 2 "a \"b" 5
entry 0 "" 0
receipt "@u:a" 1 2 3
receipt "" 0 0 0
typing "@u:a" 4
typing "" 0
`

func TestWriteAndRead(t *testing.T) {
	for want, r := range map[string]api.Room{fullText: fullRoom(), "room \"\"\n": {}, "room \"!r:a\"\nrow 0 5 4\n": {Id: "!r:a", Rows: []api.Row{{Id: 5, Status: api.Accepted}}}, "room \"\\n\" next=1\n": {Id: "\n", Next: 1, Heads: []int{}}} {
		if got, err := Write(r); got != want || err != api.OK {
			t.Errorf("Write: %s, %d", got, err)
		}
		if got, line, err := Read(want); line != 0 || err != api.OK || !room.Same(got, r) {
			t.Errorf("Read of %s: %d, %d", want, line, err)
		}
	}
}

func TestReadErrors(t *testing.T) {
	head := "room \"r\"\n"
	for s, want := range map[string]int{
		"": 1, "\n": 1, "room \"r\"": 1, "event\n": 1, "room r\n": 1, "room \"r\" \n": 1, "room  \"r\"\n": 1, "room \"r\" next=0\n": 1, "room \"r\" next=01\n": 1, "room \"r\" next=1 \n": 1, "room\n": 1, "Room \"r\"\n": 1,
		head + "event": 2, head + head: 2, head + "\n": 2, head + "event \n": 2, head + "event id=0\n": 2, head + "event  id=1\n": 2, head + "event id=1\nevent id=1 \n": 3, head + "fly\n": 2, head + " event\n": 2, head + "row 1 2\n": 2, head + "row 1 2 3 \n": 2, head + "row 1 2 3 Gone\n": 2, head + "row 1 2 3 gone gone\n": 2, head + "row 01 2 3\n": 2, head + "row 1  2 3\n": 2, head + "row 1 2 x\n": 2, head + "rows 1 2 3\n": 2,
		head + "heads\n": 2, head + "heads \n": 2, head + "heads 1,\n": 2, head + "heads 1\nheads 2\n": 3, head + "heads 1\nrow 1 2 3\n": 3, head + "row 1 2 3\nevent\n": 3, head + "wait\nrow 1 2 3\n": 3, head + "wait\nheads 1\nwait\n": 4, head + "entry 1 \"\" 2\nheads 1\n": 3, head + "entry 1 x 2\n": 2, head + "entry 1 \"\"2\n": 2, head + "entry 1 \"\" 2 3\n": 2, head + "receipt \"\" 1 2\n": 2, head + "receipt \"\" 1 2 3\nentry 1 \"\" 2\n": 3, head + "typing \"\" 1\nreceipt \"\" 1 2 3\n": 3, head + "typing \"\"\n": 2, head + "typing \"\" 1\ntyping \"\" 1\n\n": 4, head + "event\nevent\nx": 4,
	} {
		if r, line, err := Read(s); line != want || err != api.ErrText || !room.Same(r, api.Room{}) {
			t.Errorf("Read(%q): %d, %d", s, line, err)
		}
	}
}

func TestLongRooms(t *testing.T) {
	r := api.Room{Id: strings.Repeat("x", maxText-8)}
	s, err := Write(r)
	if len(s) != maxText || err != api.OK {
		t.Error("the longest text", len(s), err)
	}
	if got, line, err := Read(s); line != 0 || err != api.OK || !room.Same(got, r) {
		t.Error("Read of the longest text", line, err)
	}
	r.Id += "x"
	if s, err := Write(r); s != "" || err != api.ErrLong {
		t.Error("a text that is too long", len(s), err)
	}
	if got, line, err := Read(s + "x"); line != 0 || err != api.ErrLong || !room.Same(got, api.Room{}) {
		t.Error("Read of a text that is too long", line, err)
	}
}

func TestReadInvertsWrite(t *testing.T) {
	source := rand.New(rand.NewSource(3))
	for range 25 {
		r := sample.Received(sample.Random(source.Intn, 5+source.Intn(20)), source.Intn)
		r.Waiting = append(r.Waiting, randomEvent(source))
		r.Receipts = []api.Receipt{{User: "@u:a", Id: source.Intn(9)}}
		s, err := Write(r)
		if err != api.OK {
			t.Fatal("Write", err)
		}
		if got, line, err := Read(s); line != 0 || err != api.OK || !room.Same(got, r) {
			t.Fatal("Read", line, err)
		}
		for range 30 {
			b := []byte(s)
			i := source.Intn(len(b))
			b[i] = " \n\"0=,e"[source.Intn(7)]
			got, _, err := Read(string(b))
			if again, _ := Write(got); err == api.OK && again != string(b) {
				t.Fatal("another text is accepted")
			}
		}
	}
}

func TestLines(t *testing.T) {
	for s, want := range map[string][]string{"": {""}, "a": {"a"}, "\n": {"", ""}, "a\n\nb\n": {"a", "", "b", ""}, "\r\n": {"\r", ""}} {
		if got := Lines(s); !slices.Equal(got, want) {
			t.Errorf("Lines(%q): %q", s, got)
		}
	}
}

func TestDiff(t *testing.T) {
	for _, c := range []struct{ a, b, want string }{
		{"a\nb\nc", "a\nc\nd", "= 1|- b|= 1|+ d"}, {"", "", "= 1"}, {"a", "b", "- a|+ b"}, {"a\nb", "b\na", "- a|= 1|+ a"}, {"a\nb", "a\nb", "= 2"}, {"a\nb\nc", "x", "- a|- b|- c|+ x"}, {"x", "a\nx\nb", "+ a|= 1|+ b"}, {"a\nx\nb\ny", "x\ny\na\nb", "- a|= 1|- b|= 1|+ a|+ b"}, {"- a\n= 1", "= 1", "- - a|= 1"},
	} {
		if got := strings.Join(Diff(c.a, c.b), "|"); got != c.want {
			t.Errorf("Diff of %q and %q: %s", c.a, c.b, got)
		}
	}
	long := strings.Repeat("x\n", 2000)
	if d := Diff(long, "x"); len(d) != 2002 || d[0] != "- x" || d[2000] != "- " || d[2001] != "+ x" {
		t.Error("a long text", len(d))
	}
	if d := Diff("x", long); len(d) != 2002 || d[0] != "- x" || d[1] != "+ x" {
		t.Error("another long text", len(d))
	}
	short := strings.Repeat("x\n", 1999)
	if d := Diff(short, short); !slices.Equal(d, []string{"= 2000"}) {
		t.Error("the longest text that is compared", d)
	}
}

// fewest returns the least number of lines that are removed or added.
func fewest(a, b []string) int {
	if len(a) == 0 || len(b) == 0 {
		return len(a) + len(b)
	}
	if a[0] == b[0] {
		return fewest(a[1:], b[1:])
	}
	return 1 + min(fewest(a[1:], b), fewest(a, b[1:]))
}

func TestDiffAndApply(t *testing.T) {
	source := rand.New(rand.NewSource(4))
	text := func() string {
		l := []string{}
		for range 1 + source.Intn(7) {
			l = append(l, []string{"a", "b", "", "= 1"}[source.Intn(4)])
		}
		return strings.Join(l, "\n")
	}
	for range 3000 {
		a, b := text(), text()
		d := Diff(a, b)
		if got, ok := Apply(a, d); got != b || !ok {
			t.Fatalf("Apply of %q to %q: %q", d, a, got)
		}
		changes := 0
		x, y := Lines(a), Lines(b)
		for i, element := range d {
			switch element[0] {
			case '=':
				n := 0
				fmt.Sscan(element[2:], &n)
				if n < 1 || i > 0 && d[i-1][0] == '=' || !slices.Equal(x[:n], y[:n]) {
					t.Fatal("lines that are kept", a, b, d)
				}
				x, y = x[n:], y[n:]
			case '-':
				if len(y) > 0 && (x[0] == y[0] || fewest(x[1:], y)+1 != fewest(x, y)) {
					t.Fatal("a line is removed", a, b, d)
				}
				changes++
				x = x[1:]
			case '+':
				if len(x) > 0 && (x[0] == y[0] || fewest(x[1:], y)+1 == fewest(x, y)) {
					t.Fatal("a line is added", a, b, d)
				}
				changes++
				y = y[1:]
			}
		}
		if changes != fewest(Lines(a), Lines(b)) {
			t.Fatal("not the shortest script", a, b, d)
		}
		if !slices.Equal(Diff(a, a), []string{fmt.Sprint("= ", len(Lines(a)))}) {
			t.Fatal("a text with itself")
		}
	}
}

func TestApply(t *testing.T) {
	for _, c := range []struct {
		a    string
		d    []string
		want string
		ok   bool
	}{
		{"a\nb", []string{"= 2"}, "a\nb", true}, {"a\nb", []string{"= 1", "= 1"}, "a\nb", true}, {"a", []string{"+ x", "- a", "+ "}, "x\n", true}, {"", []string{"= 1"}, "", true}, {"", []string{"- ", "+ "}, "", true},
		{"a", []string{"- a"}, "", false}, {"a", nil, "", false}, {"a\nb", []string{"= 1"}, "", false}, {"a", []string{"= 2"}, "", false}, {"a", []string{"= 0", "= 1"}, "", false}, {"a", []string{"= 01"}, "", false}, {"a", []string{"= -1"}, "", false}, {"a", []string{"= 1 "}, "", false}, {"a", []string{"=1"}, "", false}, {"a", []string{"="}, "", false}, {"a", []string{""}, "", false}, {"a", []string{"* a"}, "", false}, {"a", []string{"- b", "+ b"}, "", false}, {"a", []string{"= 1", "- a"}, "", false}, {"a", []string{"= 1", "+ x\ny"}, "", false}, {"a", []string{"= 99999999999999999999"}, "", false}, {"a", []string{"= 1", "-"}, "", false}, {"a", []string{"= 1", "+x"}, "", false}, {"a", []string{"= "}, "", false},
	} {
		if got, ok := Apply(c.a, c.d); got != c.want || ok != c.ok {
			t.Errorf("Apply of %q to %q: %q, %t", c.d, c.a, got, ok)
		}
	}
}

func TestStory(t *testing.T) {
	s := sample.New("!r:a", "@ann:a", api.Public, api.Shared)
	say := func(user, text string, target int, thread bool) api.Event {
		return s.Add(user, api.KMessage, "", api.Content{Text: text, Target: target, Thread: thread}, 0)
	}
	member := func(sender, user string, n int) { s.Add(sender, api.KMember, user, api.Content{N: n}, 0) }
	member("@bob:b", "@bob:b", api.Join)
	first := say("@ann:a", "one", 0, false)
	say("@bob:b", "in", first.Id, true)
	say("@bob:b", "in, too", first.Id, true)
	for _, c := range [][2]string{{"@ann:a", "+"}, {"@bob:b", "+"}, {"@bob:b", "\n"}} {
		s.Add(c[0], api.KReact, "", api.Content{Text: c[1], Target: first.Id}, 0)
	}
	s.Add("@ann:a", api.KEdit, "", api.Content{Text: "t\"wo", Target: first.Id}, 1)
	second := say("@bob:b", "secret", 0, false)
	s.Add("@bob:b", api.KRedact, "", api.Content{Target: second.Id}, 2)
	s.Add("@ann:a", api.KName, "", api.Content{Text: "the room"}, 0)
	s.Add("@ann:a", api.KRules, "", api.Content{N: api.ByKnock}, 0)
	member("@ann:a", "@cy:c", api.Invite)
	member("@dan:d", "@dan:d", api.Knock)
	member("@ann:a", "@dan:d", api.Leave)
	member("@ann:a", "@bob:b", api.Ban)
	member("@cy:c", "@cy:c", api.Leave)
	r := sample.InOrder(s)
	want := strings.Join([]string{"@ann:a joined", "@bob:b joined", `@ann:a: "t\"wo" ["\n" 1] ["+" 2] (2 in thread)`, `@bob:b: "in"`, `@bob:b: "in, too"`, "@bob:b (redacted)", `@ann:a named the room "the room"`, "@cy:c was invited by @ann:a", "@dan:d knocks", "@dan:d was removed by @ann:a", "@bob:b was banned by @ann:a", "@cy:c left", ""}, "\n")
	if got := Story(r, "@ann:a"); got != want {
		t.Error(got)
	}
	if got := Story(r, "@eve:e"); got != "" {
		t.Error("a stranger", got)
	}
	for i := range r.Rows {
		r.Rows[i].Gone = true
	}
	if Story(r, "@ann:a") != "" || Story(api.Room{}, "@ann:a") != "" {
		t.Error("rows that are gone")
	}
}

func TestStoryHasNoSecrets(t *testing.T) {
	source := rand.New(rand.NewSource(5))
	told := 0
	for range 15 {
		s := sample.Random(source.Intn, 15)
		secrets := map[string]int{}
		for i := range 8 {
			text := fmt.Sprint("secret", i)
			f := s.Frame(sample.Users()[source.Intn(3)], api.KMessage, "", api.Content{Text: text}, 0)
			if len(f.Prev) <= api.MaxPrev {
				secrets[text] = s.Put(f).Id
			}
		}
		r := sample.Received(s, source.Intn)
		for _, user := range sample.Users() {
			story := Story(r, user)
			for text, id := range secrets {
				if strings.Contains(story, Quote(text)) {
					told++
					if visible.May(r, id, user) != api.OK {
						t.Fatal("a secret is told", text, user)
					}
				}
			}
		}
	}
	if told == 0 {
		t.Error("nothing is told")
	}
}

func TestSums(t *testing.T) {
	a, b := sums.Sum([]byte("x")), sums.Sum([]byte(""))
	mask := 1<<62 - 1
	for s, want := range map[string]int{"": 0, "event x": a, "event x\nevent x\n": (a + a) & mask, "event \nevent x": (a + b) & mask, "event x\nevent ": (a + b) & mask, " event x\nevent\neventx": 0} {
		if got := Sums(s); got != want {
			t.Errorf("Sums(%q) is %d", s, got)
		}
	}
	text, _ := Write(fullRoom())
	if Sums(text) != sums.Sum([]byte("id=5")) {
		t.Error("Sums of a room")
	}
}
