package event_test

import (
	"bytes"
	"math"
	"math/rand"
	"slices"
	"strings"
	"testing"

	"fedchat/api"
	"fedchat/codec"
	"fedchat/content"
	. "fedchat/event"
	"fedchat/sums"
)

// message is a valid message, not yet signed.
func message() api.Event {
	return api.Event{Room: "!r:a", Sender: "@u:a", Kind: api.KMessage, Time: 5, Depth: 3, Prev: []int{4, 9}, Auth: []int{1, 2}, Content: api.Content{Text: "hi", Target: 4}}
}

func changed(e api.Event, change func(e *api.Event)) api.Event {
	e.Prev, e.Auth = slices.Clone(e.Prev), slices.Clone(e.Auth)
	change(&e)
	return e
}

func numbers(n int) []int {
	l := make([]int, n)
	for i := range l {
		l[i] = i
	}
	return l
}

// faults are changes that make a valid message invalid, in the order of the errors.
var faults = []struct {
	name   string
	change func(e *api.Event)
	want   api.Errno
}{
	{"kind 0", func(e *api.Event) { e.Kind = 0 }, api.ErrArg},
	{"kind 15", func(e *api.Event) { e.Kind = 15 }, api.ErrArg},
	{"state", func(e *api.Event) { e.State = true }, api.ErrArg},
	{"key", func(e *api.Event) { e.Key = "k" }, api.ErrArg},
	{"key of a name", func(e *api.Event) { e.Kind, e.State, e.Key = api.KName, true, "k" }, api.ErrArg},
	{"name without state", func(e *api.Event) { e.Kind = api.KName }, api.ErrArg},
	{"room", func(e *api.Event) { e.Room = "r" }, api.ErrName},
	{"sender", func(e *api.Event) { e.Sender = "!u:a" }, api.ErrName},
	{"member", func(e *api.Event) { e.Kind, e.State, e.Key = api.KMember, true, "u" }, api.ErrName},
	{"member without key", func(e *api.Event) { e.Kind, e.State = api.KMember, true }, api.ErrName},
	{"policy without key", func(e *api.Event) { e.Kind, e.State = api.KPolicy, true }, api.ErrName},
	{"policy with a long key", func(e *api.Event) { e.Kind, e.State, e.Key = api.KPolicy, true, strings.Repeat("k", 33) }, api.ErrName},
	{"policy with a blank", func(e *api.Event) { e.Kind, e.State, e.Key = api.KPolicy, true, "a b" }, api.ErrName},
	{"policy with byte 127", func(e *api.Event) { e.Kind, e.State, e.Key = api.KPolicy, true, "\x7f" }, api.ErrName},
	{"time -1", func(e *api.Event) { e.Time = -1 }, api.ErrRange},
	{"time too great", func(e *api.Event) { e.Time = api.MaxTime + 1 }, api.ErrRange},
	{"depth 0", func(e *api.Event) { e.Depth = 0 }, api.ErrRange},
	{"depth too great", func(e *api.Event) { e.Depth = api.MaxDepth + 1 }, api.ErrRange},
	{"11 prev", func(e *api.Event) { e.Prev = numbers(11) }, api.ErrLong},
	{"9 auth", func(e *api.Event) { e.Auth = numbers(9) }, api.ErrLong},
	{"negative prev", func(e *api.Event) { e.Prev = []int{-1} }, api.ErrOrder},
	{"prev in disorder", func(e *api.Event) { e.Prev = []int{2, 1} }, api.ErrOrder},
	{"auth twice", func(e *api.Event) { e.Auth = []int{2, 2} }, api.ErrOrder},
	{"negative auth", func(e *api.Event) { e.Auth = []int{math.MinInt, 2} }, api.ErrOrder},
	{"no prev", func(e *api.Event) { e.Prev = nil }, api.ErrShort},
	{"create with prev", func(e *api.Event) { e.Kind, e.State = api.KCreate, true }, api.ErrForm},
	{"create with auth", func(e *api.Event) { e.Kind, e.State, e.Prev = api.KCreate, true, nil }, api.ErrForm},
	{"content", func(e *api.Event) { e.Content.Target = -1 }, api.ErrRange},
	{"long content", func(e *api.Event) { e.Content.Text = strings.Repeat("x", 401) }, api.ErrLong},
}

func TestCheck(t *testing.T) {
	for _, f := range faults {
		if got := Check(changed(message(), f.change)); got != f.want {
			t.Errorf("%s: %d, want %d", f.name, got, f.want)
		}
	}
	for name, change := range map[string]func(e *api.Event){
		"message": func(e *api.Event) {},
		"limits": func(e *api.Event) {
			e.Prev, e.Auth, e.Time, e.Depth = numbers(10), numbers(8), api.MaxTime, api.MaxDepth
		},
		"least":                  func(e *api.Event) { e.Time, e.Depth, e.Auth = 0, 1, nil },
		"greatest reference":     func(e *api.Event) { e.Prev = []int{0, math.MaxInt} },
		"id, hash and signature": func(e *api.Event) { e.Id, e.Hash, e.Sig = -1, -7, api.Sig{Server: "?", Sum: -1} },
		"create": func(e *api.Event) {
			e.Kind, e.State, e.Prev, e.Auth, e.Content = api.KCreate, true, nil, nil, api.Content{}
		},
		"member": func(e *api.Event) {
			e.Kind, e.State, e.Key, e.Content = api.KMember, true, "@v:b", api.Content{N: api.Join}
		},
		"policy": func(e *api.Event) {
			e.Kind, e.State, e.Key, e.Content = api.KPolicy, true, "!"+strings.Repeat("~", 31), api.Content{N: 2}
		},
		"name": func(e *api.Event) { e.Kind, e.State, e.Content = api.KName, true, api.Content{Text: "n"} },
	} {
		if got := Check(changed(message(), change)); got != api.OK {
			t.Errorf("%s: %d", name, got)
		}
	}
}

func TestTheErrorNamedFirstCounts(t *testing.T) {
	earlier := map[api.Errno][]func(e *api.Event){
		api.ErrName:  {func(e *api.Event) { e.Room = "" }},
		api.ErrRange: {func(e *api.Event) { e.Room, e.Time = "", -1 }},
		api.ErrLong:  {func(e *api.Event) { e.Time, e.Prev = -1, numbers(11) }},
		api.ErrOrder: {func(e *api.Event) { e.Prev, e.Auth = numbers(11), []int{-1} }},
		api.ErrShort: {func(e *api.Event) { e.Prev, e.Auth = nil, []int{-1} }},
	}
	want := map[api.Errno]api.Errno{api.ErrName: api.ErrArg, api.ErrRange: api.ErrName, api.ErrLong: api.ErrRange, api.ErrOrder: api.ErrLong, api.ErrShort: api.ErrOrder}
	for err, changes := range earlier {
		for _, change := range changes {
			e := changed(message(), change)
			if err == api.ErrName {
				e.Kind = 0
			}
			if got := Check(e); got != want[err] {
				t.Errorf("%d, want %d", got, want[err])
			}
		}
	}
	e := changed(message(), func(e *api.Event) { e.Prev, e.Content.Target = nil, -1 })
	if Check(e) != api.ErrShort {
		t.Error("the content comes last")
	}
}

func TestHashAndId(t *testing.T) {
	e := message()
	if Hash(e) != sums.Sum(content.Encode(e.Content)) {
		t.Error("Hash")
	}
	bare := e
	bare.Content = api.Content{}
	if IdOf(e) != sums.Sum(Encode(bare)) {
		t.Error("IdOf")
	}
	e.Id, e.Sig = 77, api.Sig{Server: "x", Sum: 5}
	if IdOf(e) != IdOf(message()) || IdOf(Strip(e)) != IdOf(e) {
		t.Error("IdOf depends on the id, the signature or the content")
	}
	e.Hash++
	if IdOf(e) == IdOf(message()) {
		t.Error("IdOf does not depend on the hash")
	}
}

func TestStripAndWhole(t *testing.T) {
	for k := api.Kind(-1); k < 17; k++ {
		e := Sign(message(), "a")
		e.Kind = k
		e.Content = api.Content{Text: "t", N: 3, Target: 5, Via: "@u:a", Allow: []string{"a"}, Levels: api.Levels{Users: []api.Level{{User: "@u:a", N: 1}}}}
		s := Strip(e)
		want := e
		want.Content = content.Strip(k, e.Content)
		if !Same(s, want) {
			t.Errorf("Strip of the kind %d", k)
		}
	}
	e := Sign(message(), "a")
	if !Whole(e) || Whole(Strip(e)) || Whole(message()) {
		t.Error("Whole")
	}
}

func TestSign(t *testing.T) {
	e := message()
	e.Id, e.Hash, e.Sig = 5, 6, api.Sig{Server: "z", Sum: 9}
	s := Sign(e, "anything at all")
	if s.Hash != Hash(e) || s.Id != IdOf(s) || s.Sig != (api.Sig{Server: "anything at all", Sum: s.Id}) {
		t.Error("Sign", s)
	}
	s.Id, s.Hash, s.Sig = e.Id, e.Hash, e.Sig
	if !Same(s, e) {
		t.Error("other fields were changed")
	}
}

// otherSum signs an event that has a hash of our choice.
func otherSum(e api.Event, hash int) api.Event {
	e.Hash = hash
	e.Id = IdOf(e)
	e.Sig = api.Sig{Server: "a", Sum: e.Id}
	return e
}

func TestVerify(t *testing.T) {
	good := Sign(message(), "a")
	if Verify(good) != api.OK || Verify(Strip(good)) != api.OK {
		t.Error("a signed event")
	}
	for _, f := range faults {
		if got := Verify(Sign(changed(message(), f.change), "a")); got != f.want {
			t.Errorf("%s: %d, want %d", f.name, got, f.want)
		}
	}
	for name, c := range map[string]struct {
		e    api.Event
		want api.Errno
	}{
		"text":             {changed(good, func(e *api.Event) { e.Content.Text = "ho" }), api.ErrForm},
		"another hash":     {otherSum(message(), 5), api.ErrForm},
		"nothing to strip": {otherSum(Strip(good), 5), api.OK},
		"id":               {changed(good, func(e *api.Event) { e.Id++ }), api.ErrSum},
		"time":             {changed(good, func(e *api.Event) { e.Time++ }), api.ErrSum},
		"negative hash":    {changed(Strip(good), func(e *api.Event) { e.Hash = -e.Hash }), api.ErrSum},
		"another server":   {Sign(message(), "b"), api.ErrSign},
		"no signature":     {changed(good, func(e *api.Event) { e.Sig = api.Sig{} }), api.ErrSign},
		"another sum":      {changed(good, func(e *api.Event) { e.Sig.Sum++ }), api.ErrSign},
		"text and id":      {changed(good, func(e *api.Event) { e.Content.Text, e.Id = "ho", 0 }), api.ErrForm},
		"id and signature": {changed(good, func(e *api.Event) { e.Id++; e.Sig.Server = "b" }), api.ErrSum},
	} {
		if got := Verify(c.e); got != c.want {
			t.Errorf("%s: %d, want %d", name, got, c.want)
		}
	}
}

func TestReceive(t *testing.T) {
	good := Sign(message(), "a")
	if e, err := Receive(good); err != api.OK || !Same(e, good) {
		t.Error("a signed event", e, err)
	}
	if e, err := Receive(Strip(good)); err != api.OK || !Same(e, Strip(good)) {
		t.Error("a stripped event", e, err)
	}
	if e, err := Receive(changed(good, func(e *api.Event) { e.Content.Text = "ho" })); err != api.OK || !Same(e, Strip(good)) {
		t.Error("a changed text", e, err)
	}
	if e, err := Receive(changed(good, func(e *api.Event) { e.Content.Text = strings.Repeat("x", 999) })); err != api.OK || !Same(e, Strip(good)) {
		t.Error("a text that is too long", e, err)
	}
	for _, bad := range []api.Event{changed(good, func(e *api.Event) { e.Time++ }), changed(good, func(e *api.Event) { e.Hash++ })} {
		if e, err := Receive(bad); err != api.ErrSum || !Same(e, api.Event{}) {
			t.Error("a wrong sum", e, err)
		}
	}
	if e, err := Receive(Sign(message(), "b")); err != api.ErrSign || !Same(e, api.Event{}) {
		t.Error("a wrong signature", e, err)
	}
	if e, err := Receive(api.Event{}); err != api.ErrArg || !Same(e, api.Event{}) {
		t.Error("the zero event", e, err)
	}
	member := api.Event{Room: "!r:a", Sender: "@u:a", Kind: api.KMember, State: true, Key: "@u:a", Depth: 2, Prev: []int{1}, Content: api.Content{Text: "why", N: api.Join}}
	signed := Sign(member, "a")
	if e, err := Receive(changed(signed, func(e *api.Event) { e.Content.Text = "no" })); err != api.OK || e.Content.Text != "" || e.Content.N != api.Join {
		t.Error("a changed reason", e, err)
	}
	if _, err := Receive(changed(signed, func(e *api.Event) { e.Content.N = api.Leave })); err != api.ErrSum {
		t.Error("a changed membership", err)
	}
}

// protected are changes of fields that a redaction leaves.
var protected = []func(e *api.Event){
	func(e *api.Event) { e.Id++ }, func(e *api.Event) { e.Room = "!s:a" }, func(e *api.Event) { e.Sender = "@v:a" }, func(e *api.Event) { e.Key = "@v:a" },
	func(e *api.Event) { e.Time++ }, func(e *api.Event) { e.Depth++ }, func(e *api.Event) { e.Prev[0]-- }, func(e *api.Event) { e.Prev = e.Prev[1:] }, func(e *api.Event) { e.Auth = nil }, func(e *api.Event) { e.Auth = []int{1, 2, 3} },
	func(e *api.Event) { e.Hash++ }, func(e *api.Event) { e.Sig.Server = "b" }, func(e *api.Event) { e.Sig.Sum-- },
	func(e *api.Event) { e.Content.N = api.Ban }, func(e *api.Event) { e.Content.Via = "@w:a" }, func(e *api.Event) { e.Kind = api.KPolicy },
}

func TestChangesAreFound(t *testing.T) {
	member := api.Event{Room: "!r:a", Sender: "@u:a", Kind: api.KMember, State: true, Key: "@u:a", Depth: 2, Prev: []int{1, 7}, Auth: []int{1, 2}, Content: api.Content{Text: "why", N: api.Join}}
	for _, e := range []api.Event{Sign(member, "a"), Strip(Sign(member, "a"))} {
		if Verify(e) != api.OK {
			t.Fatal("the event itself")
		}
		for i, change := range protected {
			if Verify(changed(e, change)) == api.OK {
				t.Errorf("the change %d is not found", i)
			}
		}
	}
}

func TestEncode(t *testing.T) {
	e := Sign(message(), "a")
	e.State, e.Key = true, "k"
	want := codec.PutInt(nil, e.Id)
	want = codec.PutText(codec.PutText(want, e.Room), e.Sender)
	want = codec.PutText(codec.PutBool(codec.PutInt(want, int(e.Kind)), true), "k")
	want = codec.PutInt(codec.PutInt(want, e.Time), e.Depth)
	want = codec.PutInts(codec.PutInts(want, e.Prev), e.Auth)
	want = codec.PutText(want, string(content.Encode(e.Content)))
	want = codec.PutInt(codec.PutText(codec.PutInt(want, e.Hash), "a"), e.Sig.Sum)
	if !bytes.Equal(Encode(e), want) {
		t.Error("Encode")
	}
}

func randomEvent(source *rand.Rand) api.Event {
	n := func() int { return source.Intn(4) - 1 }
	text := func() string { return strings.Repeat("é", source.Intn(3)) }
	list := func() []int { return make([]int, source.Intn(3)) }
	e := api.Event{Id: n(), Room: text(), Sender: text(), Kind: api.Kind(n()), State: source.Intn(2) == 0, Key: text(), Time: n(), Depth: n(), Prev: list(), Auth: list(), Hash: n(), Sig: api.Sig{Server: text(), Sum: n()}}
	e.Content = api.Content{Text: text(), N: n(), Allow: make([]string, source.Intn(2))}
	return e
}

func TestDecodeInvertsEncode(t *testing.T) {
	source := rand.New(rand.NewSource(1))
	for range 3000 {
		a, b := randomEvent(source), randomEvent(source)
		bytesA, bytesB := Encode(a), Encode(b)
		if got, ok := Decode(bytesA); !ok || !Same(got, a) {
			t.Fatal("Decode of Encode", a, got)
		}
		if bytes.Equal(bytesA, bytesB) != Same(a, b) {
			t.Fatal("equal bytes", a, b)
		}
		for _, wrong := range [][]byte{append(slices.Clone(bytesA), 0), bytesA[:len(bytesA)-1], nil} {
			if got, ok := Decode(wrong); ok || !Same(got, api.Event{}) {
				t.Fatal("wrong bytes", wrong)
			}
		}
		bytesA[source.Intn(len(bytesA))] = byte(source.Intn(256))
		if got, ok := Decode(bytesA); ok && !bytes.Equal(Encode(got), bytesA) {
			t.Fatal("other bytes of the same event")
		}
	}
}

func TestSame(t *testing.T) {
	e := Sign(message(), "a")
	if !Same(e, e) || !Same(api.Event{Prev: []int{}, Auth: []int{}}, api.Event{}) {
		t.Error("equal events")
	}
	for i, change := range append([]func(e *api.Event){func(e *api.Event) { e.State = true }, func(e *api.Event) { e.Content.Text = "" }}, protected...) {
		if Same(e, changed(e, change)) {
			t.Errorf("the change %d makes no difference", i)
		}
	}
}

func TestResultsAreNewMemory(t *testing.T) {
	e := message()
	e.Content.Allow = []string{"a"}
	old := changed(e, func(e *api.Event) { e.Content.Allow = []string{"a"} })
	received, _ := Receive(Sign(message(), "a"))
	for _, got := range []api.Event{Strip(e), Sign(e, "a"), received} {
		got.Prev[0], got.Auth[0] = 0, 0
		if len(got.Content.Allow) > 0 {
			got.Content.Allow[0] = "x"
		}
	}
	if !Same(e, old) {
		t.Error("a result shares memory with an argument")
	}
}
