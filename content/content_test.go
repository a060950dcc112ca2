package content_test

import (
	"bytes"
	"fmt"
	"math"
	"math/rand"
	"slices"
	"strings"
	"testing"

	"fedchat/api"
	"fedchat/codec"
	. "fedchat/content"
)

// right has a right content, with all fields set that may be, for each kind.
func right(k api.Kind) api.Content {
	switch k {
	case api.KMember:
		return api.Content{Text: "why", N: api.Join, Via: "@a:b"}
	case api.KPower:
		return api.Content{Levels: api.Levels{Users: []api.Level{{User: "@a:b", N: 100}, {User: "@b:b", N: -1000}}, Kinds: []api.KindLevel{{Kind: api.KCreate, N: 1000}, {Kind: api.KRedact, N: 5}}, User: 1, Message: 2, State: 3, Invite: 4, Kick: 5, Ban: 6, Redact: 7}}
	case api.KRules:
		return api.Content{N: api.Restricted, Allow: []string{"!a:b", "!b:b"}}
	case api.KHistory:
		return api.Content{N: api.Joined}
	case api.KAccess:
		return api.Content{Allow: []string{"*", "a"}, Deny: []string{"evil.*", "a"}}
	case api.KName:
		return api.Content{Text: "name"}
	case api.KRetain:
		return api.Content{N: api.MaxTime}
	case api.KPolicy:
		return api.Content{Text: "@spam*:*", N: int(api.KMember)}
	case api.KCrypt:
		return api.Content{N: 10000}
	case api.KMessage:
		return api.Content{Text: "hi", Target: 7, Thread: true}
	case api.KReact, api.KEdit:
		return api.Content{Text: "+", Target: 1}
	case api.KRedact:
		return api.Content{Text: "why", Target: 1}
	}
	return api.Content{}
}

// names are the names of the fields.
var names = []string{"Text", "N", "Target", "Thread", "Via", "Allow", "Deny", "Levels"}

// setters set one field each, in the order of api.Content.
var setters = []func(c *api.Content){
	func(c *api.Content) { c.Text = "x" },
	func(c *api.Content) { c.N = 1 },
	func(c *api.Content) { c.Target = 1 },
	func(c *api.Content) { c.Thread = true },
	func(c *api.Content) { c.Via = "@a:b" },
	func(c *api.Content) { c.Allow = []string{"a"} },
	func(c *api.Content) { c.Deny = []string{"a"} },
	func(c *api.Content) { c.Levels.Redact = 1 },
}

func kinds() []api.Kind {
	all := []api.Kind{}
	for k := api.KCreate; k <= api.KRedact; k++ {
		all = append(all, k)
	}
	return all
}

func TestUsesAndState(t *testing.T) {
	want := map[api.Kind]string{api.KCreate: "", api.KMember: "Text N Via", api.KPower: "Levels", api.KRules: "N Allow", api.KHistory: "N", api.KAccess: "Allow Deny", api.KName: "Text", api.KRetain: "N", api.KPolicy: "Text N", api.KCrypt: "N", api.KMessage: "Text Target Thread", api.KReact: "Text Target", api.KEdit: "Text Target", api.KRedact: "Text Target"}
	for k := api.Kind(-2); k < 20; k++ {
		if got := strings.Join(Uses(k), " "); got != want[k] {
			t.Errorf("Uses(%d) is %s", k, got)
		}
		if State(k) != (k >= 1 && k <= 10) {
			t.Errorf("State(%d)", k)
		}
	}
	if len(Uses(math.MinInt)) != 0 || State(math.MaxInt) {
		t.Error("no kinds")
	}
}

func TestCheckOfUnknownKinds(t *testing.T) {
	for _, k := range []api.Kind{0, -1, 15, math.MaxInt, math.MinInt} {
		if Check(k, api.Content{}) != api.ErrArg {
			t.Error("no kind", k)
		}
	}
}

func TestUnusedFields(t *testing.T) {
	for _, k := range kinds() {
		if err := Check(k, right(k)); err != api.OK {
			t.Errorf("the right content of %d: %d", k, err)
		}
		for i, set := range setters {
			if slices.Contains(Uses(k), names[i]) {
				continue
			}
			for _, c := range []api.Content{right(k), {}, {Text: strings.Repeat("x", 500), N: 99999, Target: -1}} {
				set(&c)
				if Check(k, c) != api.ErrArg {
					t.Errorf("%s of the kind %d is set", names[i], k)
				}
			}
		}
	}
	if Check(api.KName, api.Content{Allow: []string{}, Deny: []string{}, Levels: api.Levels{Users: []api.Level{}, Kinds: []api.KindLevel{}}}) != api.OK {
		t.Error("empty lists are zero")
	}
	if Check(api.KName, api.Content{Levels: api.Levels{Kinds: []api.KindLevel{{}}}}) != api.ErrArg {
		t.Error("a list of zero elements is not zero")
	}
}

func TestZeroContent(t *testing.T) {
	want := map[api.Kind]api.Errno{api.KRedact: api.ErrRange}
	for _, k := range kinds() {
		if got := Check(k, api.Content{}); got != want[k] {
			t.Errorf("the zero content of %d: %d", k, got)
		}
	}
}

func TestCheck(t *testing.T) {
	type c = api.Content
	long := strings.Repeat("x", 401)
	many := func(n int, s string) []string {
		l := []string{}
		for i := range n {
			l = append(l, fmt.Sprintf(s, i))
		}
		return l
	}
	for i, x := range []struct {
		k    api.Kind
		c    c
		want api.Errno
	}{
		{api.KMember, c{Text: long[:400]}, api.OK}, {api.KMember, c{Text: long}, api.ErrLong}, {api.KMember, c{Text: long, N: 5}, api.ErrLong},
		{api.KMember, c{N: 4}, api.OK}, {api.KMember, c{N: 5}, api.ErrRange}, {api.KMember, c{N: -1}, api.ErrRange}, {api.KMember, c{N: 5, Via: "x"}, api.ErrRange},
		{api.KMember, c{Via: "@a:b"}, api.ErrArg}, {api.KMember, c{Via: "x"}, api.ErrArg}, {api.KMember, c{N: 3, Via: "x"}, api.ErrName}, {api.KMember, c{N: 3, Via: "!a:b"}, api.ErrName}, {api.KMember, c{Target: 1}, api.ErrArg},
		{api.KName, c{Text: long}, api.ErrLong}, {api.KName, c{Text: "\xff\x00"}, api.OK},
		{api.KMessage, c{Text: long}, api.ErrLong}, {api.KMessage, c{Target: -1}, api.ErrRange}, {api.KMessage, c{Target: math.MaxInt}, api.OK}, {api.KMessage, c{Thread: true}, api.ErrArg}, {api.KMessage, c{Thread: true, Target: 1}, api.OK}, {api.KMessage, c{Thread: true, Target: -1}, api.ErrRange},
		{api.KReact, c{Target: 1}, api.ErrShort}, {api.KReact, c{Text: "+"}, api.ErrRange}, {api.KReact, c{Text: long[:33], Target: 1}, api.ErrLong}, {api.KReact, c{Text: long[:32], Target: 1}, api.OK}, {api.KReact, c{Text: long[:33]}, api.ErrLong},
		{api.KEdit, c{Target: 1}, api.OK}, {api.KEdit, c{Text: "x"}, api.ErrRange}, {api.KEdit, c{Text: long, Target: 1}, api.ErrLong}, {api.KEdit, c{Target: -1}, api.ErrRange},
		{api.KRedact, c{Target: 1}, api.OK}, {api.KRedact, c{}, api.ErrRange}, {api.KRedact, c{Text: long, Target: 0}, api.ErrLong},
		{api.KRules, c{N: 0}, api.OK}, {api.KRules, c{N: 4}, api.ErrRange}, {api.KRules, c{N: -1}, api.ErrRange}, {api.KRules, c{N: 2, Allow: []string{"!a:b"}}, api.ErrArg}, {api.KRules, c{N: 3}, api.OK},
		{api.KRules, c{N: 3, Allow: []string{"@a:b"}}, api.ErrName}, {api.KRules, c{N: 3, Allow: []string{"!b:b", "!a:b"}}, api.ErrOrder}, {api.KRules, c{N: 3, Allow: []string{"!a:b", "!a:b"}}, api.ErrOrder}, {api.KRules, c{N: 3, Allow: []string{"!b:b", "!a:b", ""}}, api.ErrOrder}, {api.KRules, c{N: 3, Allow: []string{"!b:b", "", "!a:b"}}, api.ErrName},
		{api.KRules, c{N: 3, Allow: many(100, "!a%02d:b")}, api.OK}, {api.KRules, c{N: 3, Allow: many(101, "x%d")}, api.ErrLong}, {api.KRules, c{N: 1, Allow: many(101, "x%d")}, api.ErrArg}, {api.KRules, c{N: 9, Allow: many(101, "x%d")}, api.ErrRange},
		{api.KHistory, c{N: 3}, api.OK}, {api.KHistory, c{N: 4}, api.ErrRange}, {api.KHistory, c{N: -1}, api.ErrRange},
		{api.KAccess, c{}, api.OK}, {api.KAccess, c{Allow: many(100, "x%d")}, api.OK}, {api.KAccess, c{Allow: many(101, "x%d")}, api.ErrLong}, {api.KAccess, c{Deny: many(101, "")}, api.ErrLong}, {api.KAccess, c{Allow: []string{"a", ""}}, api.ErrShort}, {api.KAccess, c{Deny: []string{"a", "b c", ""}}, api.ErrName}, {api.KAccess, c{Allow: []string{""}, Deny: []string{" "}}, api.ErrShort}, {api.KAccess, c{Deny: []string{long[:65]}}, api.ErrLong},
		{api.KRetain, c{N: -1}, api.ErrRange}, {api.KRetain, c{N: api.MaxTime + 1}, api.ErrRange},
		{api.KCrypt, c{N: 1}, api.OK}, {api.KCrypt, c{N: -1}, api.ErrRange}, {api.KCrypt, c{N: 10001}, api.ErrRange},
		{api.KPolicy, c{N: 1}, api.OK}, {api.KPolicy, c{N: 2}, api.OK}, {api.KPolicy, c{N: 6}, api.OK}, {api.KPolicy, c{N: 3}, api.ErrRange}, {api.KPolicy, c{Text: "a"}, api.ErrRange}, {api.KPolicy, c{Text: "a b", N: 1}, api.ErrName}, {api.KPolicy, c{Text: long[:65], N: 9}, api.ErrLong}, {api.KPolicy, c{Text: long[:64], N: 1}, api.OK},
		{api.KPower, c{Levels: api.Levels{Ban: 1001}}, api.ErrRange},
	} {
		if got := Check(x.k, x.c); got != x.want {
			t.Errorf("%d: Check of the kind %d is %d, want %d", i, x.k, got, x.want)
		}
	}
}

func manyUsers(n int) []api.Level {
	l := []api.Level{}
	for i := range n {
		l = append(l, api.Level{User: fmt.Sprintf("@a%03d:b", i)})
	}
	return l
}

func TestLevels(t *testing.T) {
	type v = api.Levels
	type u = []api.Level
	type k = []api.KindLevel
	for i, x := range []struct {
		v    v
		want api.Errno
	}{
		{v{}, api.OK}, {right(api.KPower).Levels, api.OK}, {v{Users: manyUsers(100)}, api.OK}, {v{Users: manyUsers(101)}, api.ErrLong},
		{v{Users: u{{User: "a", N: 0}}}, api.ErrName}, {v{Users: u{{User: "@b:b", N: 0}, {User: "@a:b", N: 0}}}, api.ErrOrder}, {v{Users: u{{User: "@b:b", N: 0}, {User: "@b:b", N: 9999}}}, api.ErrOrder}, {v{Users: u{{User: "@b:b", N: 1001}, {User: "x", N: 0}}}, api.ErrRange}, {v{Users: u{{User: "@b:b", N: -1001}}}, api.ErrRange}, {v{Users: u{{User: "x", N: 1001}}, User: 2000}, api.ErrName},
		{v{Kinds: make(k, 101)}, api.ErrLong}, {v{Kinds: k{{Kind: 0, N: 0}}}, api.ErrArg}, {v{Kinds: k{{Kind: 15, N: 0}}}, api.ErrArg}, {v{Kinds: k{{Kind: 2, N: 0}, {Kind: 1, N: 0}}}, api.ErrOrder}, {v{Kinds: k{{Kind: 2, N: 0}, {Kind: 2, N: 0}}}, api.ErrOrder}, {v{Kinds: k{{Kind: 2, N: 1001}, {Kind: 1, N: 0}}}, api.ErrRange}, {v{Kinds: k{{Kind: 14, N: 1000}}}, api.OK},
		{v{Users: u{{User: "x", N: 0}}, Kinds: make(k, 101)}, api.ErrName},
		{v{User: 1001}, api.ErrRange}, {v{Message: 1001}, api.ErrRange}, {v{State: -1001}, api.ErrRange}, {v{Invite: 1001}, api.ErrRange}, {v{Kick: -1001}, api.ErrRange}, {v{Ban: 1001}, api.ErrRange}, {v{Redact: 1001}, api.ErrRange}, {v{Redact: -1000, User: 1000}, api.OK},
	} {
		if got := Levels(x.v); got != x.want {
			t.Errorf("%d: Levels is %d, want %d", i, got, x.want)
		}
		if got := Check(api.KPower, api.Content{Levels: x.v}); got != x.want {
			t.Errorf("%d: Check is %d, want %d", i, got, x.want)
		}
	}
}

// full has all fields set.
func full() api.Content {
	return api.Content{Text: "t", N: 2, Target: 3, Thread: true, Via: "v", Allow: []string{"a"}, Deny: []string{"d"}, Levels: right(api.KPower).Levels}
}

func TestStrip(t *testing.T) {
	f := full()
	want := map[api.Kind]api.Content{api.KCreate: f, api.KMember: {N: f.N, Via: f.Via}, api.KPower: {Levels: f.Levels}, api.KRules: {N: f.N, Allow: f.Allow}, api.KHistory: {N: f.N}, api.KAccess: {Allow: f.Allow, Deny: f.Deny}, api.KRedact: {Target: f.Target}}
	for k := api.Kind(-1); k < 17; k++ {
		left := Strip(k, full())
		if !Same(left, want[k]) {
			t.Errorf("Strip of the kind %d is %v", k, left)
		}
		if !Same(Strip(k, left), left) {
			t.Errorf("Strip of the kind %d twice", k)
		}
	}
	for _, k := range kinds() {
		if err := Check(k, Strip(k, right(k))); err != api.OK {
			t.Errorf("the stripped content of the kind %d: %d", k, err)
		}
	}
}

func TestStripReturnsNewMemory(t *testing.T) {
	c := full()
	left := Strip(api.KCreate, c)
	left.Allow[0], left.Deny[0], left.Levels.Users[0].N, left.Levels.Kinds[0].N = "x", "x", 999, 999
	if !Same(c, full()) {
		t.Error("the result shares memory with the argument")
	}
}

func TestSame(t *testing.T) {
	if !Same(full(), full()) || !Same(api.Content{Allow: []string{}}, api.Content{}) || !Same(api.Content{Levels: api.Levels{Users: []api.Level{}}}, api.Content{}) {
		t.Error("equal contents")
	}
	changes := []func(c *api.Content){
		func(c *api.Content) { c.N++ }, func(c *api.Content) { c.Target++ }, func(c *api.Content) { c.Thread = !c.Thread },
		func(c *api.Content) { c.Allow = nil }, func(c *api.Content) { c.Deny = append(c.Deny, "") }, func(c *api.Content) { c.Allow = []string{""} },
		func(c *api.Content) { c.Levels.Users[0].N++ }, func(c *api.Content) { c.Levels.Users[1].User = "" }, func(c *api.Content) { c.Levels.Kinds[1].Kind++ }, func(c *api.Content) { c.Levels.Kinds = nil },
		func(c *api.Content) { slices.Reverse(c.Levels.Users) },
		func(c *api.Content) { c.Levels.User++ }, func(c *api.Content) { c.Levels.Message++ }, func(c *api.Content) { c.Levels.State++ }, func(c *api.Content) { c.Levels.Invite++ }, func(c *api.Content) { c.Levels.Kick++ }, func(c *api.Content) { c.Levels.Ban++ }, func(c *api.Content) { c.Levels.Redact++ },
		func(c *api.Content) { c.Via = "" }, func(c *api.Content) { c.Text = "" },
	}
	for i, change := range changes {
		c := full()
		change(&c)
		if Same(c, full()) || Same(full(), c) {
			t.Errorf("the change %d makes no difference", i)
		}
		if bytes.Equal(Encode(c), Encode(full())) {
			t.Errorf("the change %d makes no difference in the bytes", i)
		}
	}
}

func TestEncode(t *testing.T) {
	if !bytes.Equal(Encode(api.Content{}), make([]byte, 16)) {
		t.Error("the zero content")
	}
	c := full()
	want := codec.PutText(nil, c.Text)
	want = codec.PutInt(want, c.N)
	want = codec.PutInt(want, c.Target)
	want = codec.PutBool(want, c.Thread)
	want = codec.PutText(want, c.Via)
	want = codec.PutTexts(want, c.Allow)
	want = codec.PutTexts(want, c.Deny)
	want = codec.PutInt(want, 2)
	want = codec.PutInt(codec.PutText(want, "@a:b"), 100)
	want = codec.PutInt(codec.PutText(want, "@b:b"), -1000)
	want = codec.PutInt(want, 2)
	want = codec.PutInt(codec.PutInt(want, int(api.KCreate)), 1000)
	want = codec.PutInt(codec.PutInt(want, int(api.KRedact)), 5)
	for n := 1; n <= 7; n++ {
		want = codec.PutInt(want, n)
	}
	if !bytes.Equal(Encode(c), want) {
		t.Error("a full content")
	}
}

func randomContent(source *rand.Rand) api.Content {
	n := func() int { return source.Intn(5) - 2 }
	texts := func() []string {
		l := []string{}
		for range source.Intn(3) {
			l = append(l, strings.Repeat("é", source.Intn(3)))
		}
		return l
	}
	c := api.Content{Text: strings.Repeat("x", source.Intn(3)), N: n(), Target: int(source.Uint64()), Thread: source.Intn(2) == 0, Via: strings.Repeat("v", source.Intn(2)), Allow: texts(), Deny: texts()}
	for range source.Intn(3) {
		c.Levels.Users = append(c.Levels.Users, api.Level{User: strings.Repeat("u", source.Intn(3)), N: n()})
	}
	for range source.Intn(3) {
		c.Levels.Kinds = append(c.Levels.Kinds, api.KindLevel{Kind: api.Kind(n()), N: n()})
	}
	c.Levels.User, c.Levels.Message, c.Levels.State, c.Levels.Invite, c.Levels.Kick, c.Levels.Ban, c.Levels.Redact = n(), n(), n(), n(), n(), n(), n()
	return c
}

func TestDecodeInvertsEncode(t *testing.T) {
	source := rand.New(rand.NewSource(1))
	for range 3000 {
		c := randomContent(source)
		b := Encode(c)
		if got, ok := Decode(b); !ok || !Same(got, c) {
			t.Fatal("Decode of Encode", c, got, ok)
		}
		if _, ok := Decode(append(slices.Clone(b), 0)); ok {
			t.Fatal("a byte too many is accepted")
		}
		if got, ok := Decode(b[:len(b)-1]); ok || !Same(got, api.Content{}) {
			t.Fatal("a byte too few is accepted")
		}
		b[source.Intn(len(b))] = byte(source.Intn(256))
		if got, ok := Decode(b); ok && !bytes.Equal(Encode(got), b) || !ok && !Same(got, api.Content{}) {
			t.Fatal("Decode of other bytes", b)
		}
	}
}

func TestDecodeOfWrongCounts(t *testing.T) {
	front := make([]byte, 7)
	for _, tail := range [][]byte{nil, {1}, {2}, {255, 255, 255, 255, 255, 255, 255, 255, 255, 1}, {254, 255, 255, 255, 255, 255, 255, 255, 255, 1}, append([]byte{0, 1}, make([]byte, 7)...), append([]byte{0, 254, 255, 255, 255, 15}, make([]byte, 50)...)} {
		if _, ok := Decode(append(slices.Clone(front), tail...)); ok {
			t.Errorf("%v is accepted", tail)
		}
	}
}

func TestSameBytesOnlyForTheSame(t *testing.T) {
	source := rand.New(rand.NewSource(2))
	seen := map[string]api.Content{}
	for range 20000 {
		c := api.Content{Text: strings.Repeat("x", source.Intn(2)), N: source.Intn(2), Via: strings.Repeat("\x00", source.Intn(3)), Allow: make([]string, source.Intn(3)), Deny: make([]string, source.Intn(3)), Levels: api.Levels{Users: make([]api.Level, source.Intn(3)), Kinds: make([]api.KindLevel, source.Intn(3))}}
		b := string(Encode(c))
		if other, ok := seen[b]; ok && !Same(other, c) {
			t.Fatal("the same bytes", c, other)
		}
		seen[b] = c
	}
}
