package home_test

import (
	"fmt"
	"math/rand"
	"slices"
	"strings"
	"testing"

	"fedchat/api"
	"fedchat/build"
	"fedchat/clone"
	"fedchat/event"
	. "fedchat/home"
	"fedchat/members"
	"fedchat/num"
	"fedchat/receipts"
	"fedchat/replay"
	"fedchat/room"
	"fedchat/server"
	"fedchat/statemap"
	"fedchat/store"
	"fedchat/sums"
)

func same(a, b any) bool {
	return fmt.Sprint(a) == fmt.Sprint(b)
}

func act(word string, n int, body api.Content, names ...string) api.Act {
	return api.Act{Word: word, Names: names, N: n, Body: body}
}

// do performs an act that must succeed, a second after the last one.
func do(t *testing.T, s *api.Server, user, word string, n int, body api.Content, names ...string) string {
	t.Helper()
	s.Now += 1000
	next, output, err := Act(*s, user, act(word, n, body, names...))
	if err != api.OK {
		t.Fatalf("%s %v of %s: %d", word, names, user, err)
	}
	*s = next
	return output
}

// fails checks that an act has an error, and changes nothing.
func fails(t *testing.T, s api.Server, user, word string, n int, body api.Content, want api.Errno, names ...string) {
	t.Helper()
	s.Now += 1000
	next, output, err := Act(s, user, act(word, n, body, names...))
	if err != want || output != "" || !same(next, s) {
		t.Errorf("%s %v of %s: %d, want %d", word, names, user, err, want)
	}
}

// town returns a server with registered users, of whom @u:a has created the public room !r:a, and @w:a has joined it.
func town(t *testing.T) api.Server {
	t.Helper()
	s := api.Server{Name: "a"}
	for _, user := range []string{"@w:a", "@u:a", "@admin:a"} {
		do(t, &s, user, "register", 0, api.Content{})
	}
	do(t, &s, "@u:a", "create", api.Public, api.Content{}, "r")
	do(t, &s, "@w:a", "join", 0, api.Content{}, "!r:a")
	return s
}

func roomOf(t *testing.T, s api.Server, id string) api.Room {
	t.Helper()
	r, ok := server.Room(s, id)
	if !ok {
		t.Fatal("no room", id)
	}
	return r
}

func idOf(t *testing.T, hex string) int {
	t.Helper()
	id, ok := sums.Unhex(hex)
	if !ok {
		t.Fatal("no id", hex)
	}
	return id
}

func TestWords(t *testing.T) {
	want := "apply ban block claim count create cross device erase fetch forget invite join kick knock leave purge read redact register search send sign type upload"
	if got := strings.Join(Words(), " "); got != want {
		t.Error(got)
	}
	Words()[0] = "x"
	if Words()[0] != "apply" {
		t.Error("the words can be changed")
	}
}

func TestCheck(t *testing.T) {
	names := map[string]int{"create": 1, "send": 2, "join": 1, "leave": 1, "knock": 1, "invite": 2, "kick": 2, "ban": 2, "redact": 1, "read": 1, "type": 1, "device": 1, "forget": 1, "sign": 1, "upload": 1, "claim": 2, "apply": 2, "fetch": 2, "block": 2, "search": 2, "count": 1}
	for _, word := range Words() {
		for n := range 5 {
			want := api.ErrArg
			if n == names[word] || word == "send" && n == 1 {
				want = api.OK
			}
			if got := Check("@u:a", act(word, 0, api.Content{}, make([]string, n)...)); got != want {
				t.Errorf("%s with %d names: %d", word, n, got)
			}
		}
	}
	if Check("u", act("fly", 0, api.Content{})) != api.ErrArg || Check("u", act("cross", 0, api.Content{})) != api.ErrName || Check("u", api.Act{}) != api.ErrArg {
		t.Error("an unknown word, or no user")
	}
}

func TestErrorsOfAll(t *testing.T) {
	s := town(t)
	down := clone.Server(s)
	down.Down = true
	fails(t, down, "@u:a", "fly", 0, api.Content{}, api.ErrArg)
	fails(t, down, "u", "cross", 0, api.Content{}, api.ErrName)
	fails(t, down, "@u:b", "cross", 0, api.Content{}, api.ErrDown)
	fails(t, s, "@u:b", "cross", 0, api.Content{}, api.ErrArg)
	fails(t, s, "@u:b", "register", 0, api.Content{}, api.ErrArg)
	fails(t, s, "@x:a", "cross", 0, api.Content{}, api.ErrNone)
	fails(t, s, "@u:a", "register", 0, api.Content{}, api.ErrTwice)
}

func TestRegister(t *testing.T) {
	s := town(t)
	if !slices.Equal(s.Users, []string{"@admin:a", "@u:a", "@w:a"}) {
		t.Error("the users", s.Users)
	}
	if got := do(t, &s, "@b:a", "register", 0, api.Content{}); got != "@b:a" || len(s.Limits) != 2 {
		t.Error("register", got, s.Limits)
	}
	for i := range api.MaxUsers - 4 {
		s.Users = append(s.Users, fmt.Sprintf("@z%03d:a", i))
	}
	fails(t, s, "@c:a", "register", 0, api.Content{}, api.ErrFull)
}

func TestRates(t *testing.T) {
	s := api.Server{Name: "a", Now: 7000, Users: []string{"@u:a", "@w:a"}}
	for i := range 10 {
		next, _, err := Act(s, "@u:a", act("cross", 1+i, api.Content{}))
		if err != api.OK {
			t.Fatal("the act", i, err)
		}
		failed, _, err := Act(next, "@u:a", act("cross", 0, api.Content{}))
		if err != api.ErrRange && i < 9 || !same(failed, next) {
			t.Fatal("an act that fails", err)
		}
		s = next
	}
	if !same(s.Limits, []api.Limit{{User: "@u:a", Bucket: api.Bucket{Left: 0, At: 7000, Most: 10, Every: 1000}}}) {
		t.Error("the limit", s.Limits)
	}
	if next, _, err := Act(s, "@u:a", act("cross", 1, api.Content{})); err != api.ErrRate || !same(next, s) {
		t.Error("the eleventh act", err)
	}
	if _, _, err := Act(s, "@w:a", act("cross", 1, api.Content{})); err != api.OK {
		t.Error("another user", err)
	}
	s.Now += 1000
	s, _, err := Act(s, "@u:a", act("cross", 1, api.Content{}))
	if err != api.OK {
		t.Error("a second later", err)
	}
	if _, _, err := Act(s, "@u:a", act("cross", 1, api.Content{})); err != api.ErrRate {
		t.Error("one more", err)
	}
}

func TestCreate(t *testing.T) {
	s := town(t)
	r := roomOf(t, s, "!r:a")
	if len(r.Events) != 6 {
		t.Error("the room", len(r.Events))
	}
	if got := do(t, &s, "@u:a", "create", api.ByKnock, api.Content{N: api.Joined}, "q"); got != "!q:a" {
		t.Error("create", got)
	}
	want, _ := build.Room("!q:a", "@u:a", s.Now, api.ByKnock, api.Joined)
	if q := roomOf(t, s, "!q:a"); len(q.Events) != 5 || len(store.Missing(q.Events, store.Ids(want))) != 0 {
		t.Error("the events of the room")
	}
	fails(t, s, "@u:a", "create", 9, api.Content{}, api.ErrName, "Q")
	fails(t, s, "@u:a", "create", 9, api.Content{}, api.ErrRange, "q")
	fails(t, s, "@u:a", "create", 0, api.Content{N: 9}, api.ErrRange, "q")
	fails(t, s, "@u:a", "create", 0, api.Content{}, api.ErrTwice, "q")
	for i := range api.MaxRooms - 2 {
		do(t, &s, "@u:a", "create", 0, api.Content{}, fmt.Sprint("x", i))
	}
	fails(t, s, "@u:a", "create", 0, api.Content{}, api.ErrFull, "last")
}

func TestSend(t *testing.T) {
	s := town(t)
	before := roomOf(t, s, "!r:a")
	e, _ := build.Next(before.Events, "@u:a", api.KPolicy, "key", api.Content{Text: "x*", N: 2}, s.Now+1000)
	if got := do(t, &s, "@u:a", "send", int(api.KPolicy), e.Content, "!r:a", "key"); got != sums.Hex(e.Id) {
		t.Error("send", got)
	}
	first := idOf(t, do(t, &s, "@u:a", "send", int(api.KMessage), api.Content{Text: "one"}, "!r:a"))
	reaction := idOf(t, do(t, &s, "@w:a", "send", int(api.KReact), api.Content{Text: "+", Target: first}, "!r:a"))
	do(t, &s, "@u:a", "send", int(api.KEdit), api.Content{Text: "two", Target: first}, "!r:a")
	do(t, &s, "@w:a", "send", int(api.KRedact), api.Content{Target: 77}, "!r:a")
	do(t, &s, "@w:a", "send", int(api.KMessage), api.Content{Text: "in", Target: first, Thread: true}, "!r:a", "")
	for _, c := range []struct {
		user string
		k    api.Kind
		c    api.Content
		want api.Errno
	}{
		{"@w:a", api.KReact, api.Content{Text: "+", Target: first}, api.ErrTwice}, {"@w:a", api.KEdit, api.Content{Text: "x", Target: first}, api.ErrMember}, {"@w:a", api.KMessage, api.Content{Text: "x", Target: reaction}, api.ErrArg}, {"@w:a", api.KMessage, api.Content{Text: "x", Target: 5}, api.ErrNone}, {"@w:a", api.KMessage, api.Content{Text: "x", Target: -5}, api.ErrRange},
		{"@admin:a", api.KMessage, api.Content{Text: "x", Target: 5}, api.ErrMember}, {"@w:a", 99, api.Content{}, api.ErrArg}, {"@w:a", api.KPower, api.Content{Levels: api.Levels{Ban: 3}}, api.ErrLevel},
	} {
		fails(t, s, c.user, "send", int(c.k), c.c, c.want, "!r:a")
	}
	fails(t, s, "@u:a", "send", 99, api.Content{}, api.ErrNone, "!x:a")
	fails(t, s, "@u:a", "send", int(api.KMessage), api.Content{}, api.ErrArg, "!r:a", "key")
}

func TestMemberships(t *testing.T) {
	s := town(t)
	check := func(user string, m int, text string) {
		t.Helper()
		r := roomOf(t, s, "!r:a")
		id, _ := statemap.Get(r.State, api.KMember, user)
		if e, _ := store.Get(r.Events, id); e.Content.N != m || e.Content.Text != text {
			t.Errorf("%s has %d %q", user, e.Content.N, e.Content.Text)
		}
	}
	why := func(text string) api.Content { return api.Content{Text: text, N: 3, Target: 9} }
	do(t, &s, "@u:a", "kick", 0, why("a"), "!r:a", "@w:a")
	check("@w:a", api.Leave, "a")
	do(t, &s, "@u:a", "invite", 0, why("b"), "!r:a", "@w:a")
	check("@w:a", api.Invite, "b")
	do(t, &s, "@w:a", "join", 0, why("c"), "!r:a")
	check("@w:a", api.Join, "c")
	do(t, &s, "@w:a", "leave", 0, why("d"), "!r:a")
	check("@w:a", api.Leave, "d")
	do(t, &s, "@u:a", "ban", 0, why("e"), "!r:a", "@w:a")
	check("@w:a", api.Ban, "e")
	fails(t, s, "@w:a", "join", 0, api.Content{}, api.ErrBanned, "!r:a")
	fails(t, s, "@w:a", "knock", 0, api.Content{}, api.ErrBanned, "!r:a")
	fails(t, s, "@admin:a", "knock", 0, api.Content{}, api.ErrRule, "!r:a")
	fails(t, s, "@admin:a", "ban", 0, api.Content{}, api.ErrMember, "!r:a", "@u:a")
	fails(t, s, "@u:a", "invite", 0, api.Content{}, api.ErrName, "!r:a", "w")
	fails(t, s, "@u:a", "join", 0, api.Content{}, api.ErrNone, "!x:a")
	do(t, &s, "@u:a", "send", int(api.KRules), api.Content{N: api.ByKnock}, "!r:a")
	out := do(t, &s, "@admin:a", "knock", 0, why("f"), "!r:a")
	check("@admin:a", api.Knock, "f")
	if id, _ := statemap.Get(roomOf(t, s, "!r:a").State, api.KMember, "@admin:a"); sums.Hex(id) != out {
		t.Error("the output", out)
	}
}

func TestRedact(t *testing.T) {
	s := town(t)
	id := idOf(t, do(t, &s, "@w:a", "send", int(api.KMessage), api.Content{Text: "one"}, "!r:a"))
	out := do(t, &s, "@u:a", "redact", id, api.Content{Text: "why", N: 7}, "!r:a")
	e, _ := store.Get(roomOf(t, s, "!r:a").Events, idOf(t, out))
	if e.Kind != api.KRedact || e.Content.Target != id || e.Content.Text != "why" || e.Key != "" || e.Content.N != 0 {
		t.Error("the redaction", e)
	}
	fails(t, s, "@u:a", "redact", 5, api.Content{}, api.ErrNone, "!r:a")
	fails(t, s, "@u:a", "redact", id, api.Content{}, api.ErrNone, "!x:a")
	fails(t, s, "@admin:a", "redact", id, api.Content{}, api.ErrMember, "!r:a")
}

func TestReadTypeCountAndSearch(t *testing.T) {
	s := town(t)
	ids := []int{}
	for _, text := range []string{"one", "hi w", "two one"} {
		ids = append(ids, idOf(t, do(t, &s, "@u:a", "send", int(api.KMessage), api.Content{Text: text}, "!r:a")))
	}
	if got := do(t, &s, "@w:a", "count", 0, api.Content{}, "!r:a"); got != "1 3" {
		t.Error("count", got)
	}
	if got := do(t, &s, "@w:a", "read", ids[0], api.Content{}, "!r:a"); got != "2" {
		t.Error("read", got)
	}
	r := roomOf(t, s, "!r:a")
	if got, ok := receipts.Get(r.Receipts, "@w:a", 0); !ok || got != (api.Receipt{User: "@w:a", Id: ids[0], Time: s.Now}) || room.Check(r) != api.OK {
		t.Error("the receipt", got)
	}
	if got := do(t, &s, "@w:a", "count", 0, api.Content{}, "!r:a"); got != "1 2" {
		t.Error("count afterwards", got)
	}
	if got := do(t, &s, "@w:a", "search", 5, api.Content{}, "!r:a", "one"); got != "2" {
		t.Error("search", got)
	}
	if got := do(t, &s, "@w:a", "search", 1, api.Content{}, "!r:a", "one"); got != "1" || do(t, &s, "@w:a", "search", 0, api.Content{}, "!r:a", "one") != "0" {
		t.Error("search with a limit", got)
	}
	if got := do(t, &s, "@w:a", "type", 300, api.Content{}, "!r:a"); got != "" || !same(roomOf(t, s, "!r:a").Typing, []api.Typing{{User: "@w:a", Until: s.Now + 300}}) {
		t.Error("type", got)
	}
	fails(t, s, "@w:a", "read", 5, api.Content{}, api.ErrNone, "!r:a")
	fails(t, s, "@admin:a", "read", ids[0], api.Content{}, api.ErrHidden, "!r:a")
	fails(t, s, "@admin:a", "type", 0, api.Content{}, api.ErrMember, "!r:a")
	fails(t, s, "@w:a", "type", 0, api.Content{}, api.ErrRange, "!r:a")
	fails(t, s, "@w:a", "type", 30001, api.Content{}, api.ErrRange, "!r:a")
	for _, word := range []string{"read", "type", "count"} {
		fails(t, s, "@w:a", word, 5, api.Content{}, api.ErrNone, "!x:a")
	}
	fails(t, s, "@w:a", "search", 5, api.Content{}, api.ErrNone, "!x:a", "one")
}

func TestDevices(t *testing.T) {
	s := town(t)
	s.Stream = 5
	for _, step := range []struct {
		word  string
		n     int
		names []string
	}{{"device", 7, []string{"d"}}, {"device", 8, []string{"e"}}, {"cross", 9, nil}, {"sign", 0, []string{"e"}}, {"forget", 0, []string{"d"}}} {
		stream := s.Stream
		if got := do(t, &s, "@u:a", step.word, step.n, api.Content{}, step.names...); got != "" || s.Stream != stream+1 {
			t.Error(step.word, got, s.Stream)
		}
	}
	if !same(s.Keys, []api.Keys{{User: "@u:a", Master: 9, Pos: 9, Devices: []api.Device{{Id: "e", Key: 8, Signed: true}}}}) {
		t.Error("the devices", s.Keys)
	}
	do(t, &s, "@u:a", "upload", 2, api.Content{}, "e")
	if got := do(t, &s, "@w:a", "claim", 0, api.Content{}, "@u:a", "e"); got != "0" || s.OneTime[0].Left != 1 || s.Stream != 10 {
		t.Error("claim", got, s.OneTime)
	}
	if got := do(t, &s, "@w:a", "claim", 0, api.Content{}, "@u:a", "e"); got != "1" {
		t.Error("claim", got)
	}
	fails(t, s, "@w:a", "claim", 0, api.Content{}, api.ErrNone, "@u:a", "e")
	fails(t, s, "@u:a", "upload", 2, api.Content{}, api.ErrNone, "d")
	fails(t, s, "@w:a", "upload", 2, api.Content{}, api.ErrNone, "e")
	fails(t, s, "@u:a", "upload", 101, api.Content{}, api.ErrRange, "e")
	fails(t, s, "@u:a", "device", 0, api.Content{}, api.ErrRange, "x")
	fails(t, s, "@u:a", "device", 1, api.Content{}, api.ErrName, "")
	fails(t, s, "@w:a", "sign", 0, api.Content{}, api.ErrNone, "e")
	fails(t, s, "@w:a", "forget", 0, api.Content{}, api.ErrNone, "e")
	fails(t, s, "@w:a", "cross", 0, api.Content{}, api.ErrRange)
}

func TestApply(t *testing.T) {
	s := town(t)
	do(t, &s, "@u:a", "create", 0, api.Content{}, "list")
	do(t, &s, "@u:a", "send", int(api.KPolicy), api.Content{Text: "evil", N: int(api.KAccess)}, "!list:a", "one")
	do(t, &s, "@u:a", "send", int(api.KPolicy), api.Content{Text: "@x*", N: int(api.KMember)}, "!list:a", "two")
	do(t, &s, "@u:a", "invite", 0, api.Content{}, "!r:a", "@x:b")
	do(t, &s, "@u:a", "invite", 0, api.Content{}, "!r:a", "@y:evil")
	fails(t, s, "@w:a", "apply", 0, api.Content{}, api.ErrLevel, "!r:a", "!list:a")
	fails(t, s, "@u:a", "apply", 0, api.Content{}, api.ErrNone, "!r:a", "!x:a")
	fails(t, s, "@u:a", "apply", 0, api.Content{}, api.ErrNone, "!x:a", "!list:a")
	if got := do(t, &s, "@u:a", "apply", 0, api.Content{}, "!r:a", "!list:a"); got != "3" {
		t.Error("apply", got)
	}
	r := roomOf(t, s, "!r:a")
	if members.InState(r.Events, r.State, "@x:b") != api.Ban || members.InState(r.Events, r.State, "@y:evil") != api.Ban {
		t.Error("the bans")
	}
	if _, found := statemap.Get(r.State, api.KAccess, ""); !found {
		t.Error("the access list")
	}
	if got := do(t, &s, "@w:a", "apply", 0, api.Content{}, "!r:a", "!list:a"); got != "0" {
		t.Error("apply again", got)
	}
}

func TestMedia(t *testing.T) {
	s := town(t)
	do(t, &s, "@u:a", "fetch", 7, api.Content{}, "b", "cat")
	if !same(s.Media, []api.Media{{Server: "b", Name: "cat", Size: 7, At: s.Now, Is: 1}}) {
		t.Error("fetch", s.Media)
	}
	do(t, &s, "@u:a", "send", int(api.KRetain), api.Content{N: 1}, "!r:a")
	old := idOf(t, do(t, &s, "@u:a", "send", int(api.KMessage), api.Content{Text: "x"}, "!r:a"))
	fails(t, s, "@u:a", "block", 0, api.Content{}, api.ErrLevel, "b", "dog")
	fails(t, s, "@u:a", "purge", -1, api.Content{}, api.ErrLevel)
	fails(t, s, "@admin:a", "purge", -1, api.Content{}, api.ErrRange)
	fails(t, s, "@admin:a", "purge", api.MaxTime+1, api.Content{}, api.ErrRange)
	fails(t, s, "@u:a", "fetch", 0, api.Content{}, api.ErrNone, "a", "cat")
	do(t, &s, "@admin:a", "block", 0, api.Content{}, "b", "dog")
	fails(t, s, "@u:a", "fetch", 0, api.Content{}, api.ErrGone, "b", "dog")
	do(t, &s, "@admin:a", "purge", 100000, api.Content{})
	if s.Media[0].Is != 1 {
		t.Error("a young file", s.Media)
	}
	do(t, &s, "@admin:a", "purge", 3, api.Content{})
	r := roomOf(t, s, "!r:a")
	if row, _ := room.Row(r, old); s.Media[0].Is != 3 || s.Media[1].Is != 2 || !row.Gone {
		t.Error("purge", s.Media, row)
	}
}

func TestErase(t *testing.T) {
	s := town(t)
	do(t, &s, "@u:a", "create", 0, api.Content{}, "q")
	ids := []int{}
	for _, c := range [][2]string{{"@u:a", "!r:a"}, {"@w:a", "!r:a"}, {"@u:a", "!q:a"}} {
		ids = append(ids, idOf(t, do(t, &s, c[0], "send", int(api.KMessage), api.Content{Text: "x"}, c[1])))
	}
	do(t, &s, "@u:a", "erase", 0, api.Content{})
	first, _ := room.Row(roomOf(t, s, "!r:a"), ids[0])
	second, _ := room.Row(roomOf(t, s, "!r:a"), ids[1])
	third, _ := room.Row(roomOf(t, s, "!q:a"), ids[2])
	if !first.Gone || second.Gone || !third.Gone {
		t.Error("erase", first, second, third)
	}
}

func TestExamplesOfTheChapter(t *testing.T) {
	s := api.Server{Name: "a"}
	for _, a := range []api.Act{act("register", 0, api.Content{}), act("create", 0, api.Content{}, "r"), act("send", int(api.KMessage), api.Content{Text: "hi"}, "!r:a")} {
		var err api.Errno
		if s, _, err = Act(s, "@u:a", a); err != api.OK {
			t.Fatal(a.Word, err)
		}
	}
	if len(roomOf(t, s, "!r:a").Events) != 6 {
		t.Error("the room has other events")
	}
}

func randomAct(source *rand.Rand, s api.Server) api.Act {
	word := Words()[source.Intn(len(Words()))]
	if source.Intn(2) == 0 {
		word = []string{"send", "join", "invite", "kick", "redact", "create"}[source.Intn(6)]
	}
	pick := func() string {
		return []string{"!r:a", "!q:a", "@u:a", "@w:a", "@x:b", "d", "q", "r", "b", "hi"}[source.Intn(10)]
	}
	a := act(word, source.Intn(14), api.Content{N: source.Intn(4), Text: "hi"}, pick(), pick())
	if r, ok := server.Room(s, "!r:a"); ok && source.Intn(2) == 0 {
		a.N = r.Events[source.Intn(len(r.Events))].Id
		a.Names[0] = "!r:a"
	}
	if word == "send" {
		a.N, a.Body.N, a.Names = []int{7, 11, 12}[source.Intn(3)], 0, []string{"!r:a"}
		if a.N == 12 {
			a.Body.Target = 5
		}
	}
	for Check("@u:a", a) != api.OK {
		a.Names = a.Names[1:]
	}
	if strings.HasPrefix(word, "cr") && len(a.Names) > 0 {
		a.Names[0] = []string{"q", "r", "z"}[source.Intn(3)]
	}
	return a
}

func TestRights(t *testing.T) {
	source := rand.New(rand.NewSource(1))
	done, refused := map[string]int{}, 0
	for range 6 {
		s := town(t)
		for range 150 {
			s.Now += source.Intn(900)
			user := []string{"@u:a", "@w:a", "@admin:a", "@x:b", "@z:a"}[source.Intn(5)]
			a := randomAct(source, s)
			old := clone.Server(s)
			next, output, err := Act(s, user, a)
			if !same(old, s) {
				t.Fatal("the argument was changed")
			}
			if err != api.OK {
				refused++
				if !same(next, s) || output != "" {
					t.Fatal("an error changes something", a, err)
				}
				continue
			}
			done[a.Word]++
			onlyOwnEvents(t, s, next, user, a)
			s = next
		}
		if server.Check(s) != api.OK {
			t.Fatal("no server", server.Check(s))
		}
	}
	if len(done) < 15 || refused == 0 {
		t.Error("few acts succeed", done, refused)
	}
}

// onlyOwnEvents checks what an act lets into the rooms of a server.
func onlyOwnEvents(t *testing.T, before, after api.Server, user string, a api.Act) {
	t.Helper()
	changed := 0
	for _, r := range after.Rooms {
		old, _ := server.Room(before, r.Id)
		if !room.Same(old, r) {
			changed++
		}
		for _, id := range num.Minus(store.Ids(r.Events), store.Ids(old.Events)) {
			e, _ := store.Get(r.Events, id)
			if e.Sender != user || replay.Why(r.Events, id) != api.OK || event.Verify(e) != api.OK {
				t.Fatal("an event that should not be there", a, e)
			}
		}
	}
	if changed > 1 && a.Word != "purge" && a.Word != "erase" {
		t.Fatal("other rooms are changed", a)
	}
}
