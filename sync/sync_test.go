package sync_test

import (
	"fmt"
	"math"
	"math/rand"
	"slices"
	"testing"

	"fedchat/api"
	"fedchat/clone"
	"fedchat/event"
	"fedchat/filter"
	"fedchat/members"
	"fedchat/num"
	"fedchat/receipts"
	"fedchat/redact"
	"fedchat/replay"
	"fedchat/room"
	"fedchat/sample"
	"fedchat/statemap"
	"fedchat/store"
	. "fedchat/sync"
	"fedchat/timeline"
	"fedchat/typing"
	"fedchat/visible"
)

func same(a, b any) bool {
	return fmt.Sprint(a) == fmt.Sprint(b)
}

var all = api.Filter{Limit: api.MaxPage}

func texts(l []api.Event) string {
	s := []string{}
	for _, e := range l {
		s = append(s, fmt.Sprint(int(e.Kind), e.Key, e.Content.Text))
	}
	return fmt.Sprint(s)
}

// town is a room of @ann:a that @bob:b may join.
func town() *sample.Room {
	s := sample.New("!r:a", "@ann:a", api.ByInvite, api.Shared)
	s.Add("@ann:a", api.KName, "", api.Content{Text: "town"}, 0)
	s.Add("@ann:a", api.KMessage, "", api.Content{Text: "one"}, 0)
	return s
}

func member(s *sample.Room, sender string, n int) api.Event {
	return s.Add(sender, api.KMember, "@bob:a", api.Content{N: n}, 0)
}

func TestInvitationJoinAndLeave(t *testing.T) {
	s := town()
	invite := member(s, "@ann:a", api.Invite)
	part, place := Part(sample.InOrder(s), "@bob:a", api.Place{}, all)
	if part.Member != api.Invite || len(part.Timeline)+part.Unread+len(part.Receipts) != 0 || part.Anew || texts(part.State) != "[1 2@bob:a 4 7town]" {
		t.Error("an invitation", part)
	}
	if place != (api.Place{Room: "!r:a", Pos: 0, Told: api.Invite, Since: invite.Id}) {
		t.Error("the place of an invited user", place)
	}
	again, place2 := Part(sample.InOrder(s), "@bob:a", place, all)
	if !same(again, api.Part{Room: "!r:a", Member: api.Invite}) || place2 != place {
		t.Error("the invitation again", again)
	}
	join := member(s, "@bob:a", api.Join)
	r := sample.InOrder(s)
	part, place = Part(r, "@bob:a", place, all)
	if !part.Anew || len(part.Timeline) != 8 || part.Limited || part.Back != 0 || len(part.State) != 6 || part.Unread != 1 || len(part.Gone) != 0 {
		t.Error("a join", part)
	}
	if place != (api.Place{Room: "!r:a", Pos: 8, Told: api.Join, Since: join.Id}) {
		t.Error("the place of a joined user", place)
	}
	quiet, _ := Part(r, "@bob:a", place, all)
	if quiet.Anew || len(quiet.Timeline)+len(quiet.State) != 0 || quiet.Unread != 1 {
		t.Error("nothing is new", quiet)
	}
	s.Add("@ann:a", api.KMessage, "", api.Content{Text: "two"}, 0)
	kick := s.Add("@ann:a", api.KMember, "@bob:a", api.Content{N: api.Leave, Text: "out"}, 0)
	s.Add("@ann:a", api.KMessage, "", api.Content{Text: "secret"}, 0)
	part, place = Part(sample.InOrder(s), "@bob:a", place, all)
	if part.Member != api.Leave || texts(part.Timeline) != "[11two 2@bob:aout]" || texts(part.State) != "[2@bob:aout]" || part.Unread != 0 || part.Anew {
		t.Error("a kick", texts(part.Timeline), texts(part.State))
	}
	if place.Told != api.Leave || place.Pos != 11 || place.Since != kick.Id {
		t.Error("the place of a user who was removed", place)
	}
	part, _ = Part(sample.InOrder(s), "@bob:a", place, all)
	if !same(part, api.Part{Room: "!r:a", Member: api.Leave}) {
		t.Error("afterwards", part)
	}
	nobody, _ := Part(sample.InOrder(s), "@eve:a", api.Place{Told: api.Join}, all)
	if nobody.Member != api.Leave || len(nobody.State)+len(nobody.Timeline) != 0 {
		t.Error("a user who never was there", nobody)
	}
}

func TestLimitedParts(t *testing.T) {
	s := town()
	for i := range 5 {
		s.Add("@ann:a", api.KMessage, "", api.Content{Text: fmt.Sprint(i)}, 0)
	}
	r := sample.InOrder(s)
	f := api.Filter{Limit: 2, Kinds: []api.Kind{api.KMessage}}
	part, _ := Part(r, "@ann:a", api.Place{}, f)
	if texts(part.Timeline) != "[113 114]" || !part.Limited || part.Back != 9 {
		t.Error("a limited part", texts(part.Timeline), part.Back)
	}
	f.Limit = 6
	if part, _ := Part(r, "@ann:a", api.Place{}, f); part.Limited || part.Back != 0 || len(part.Timeline) != 6 {
		t.Error("a part that is not limited", part)
	}
	if part, _ := Part(r, "@ann:a", api.Place{}, api.Filter{}); len(part.Timeline) != 0 || !part.Limited || part.Back != 0 {
		t.Error("a filter without a limit", part)
	}
	lazy := api.Filter{Limit: 9, Lazy: true, Senders: []string{"@nobody:a"}}
	if part, _ := Part(r, "@ann:a", api.Place{}, lazy); texts(part.State) != "[1 4 5 7town]" {
		t.Error("a lazy state", texts(part.State))
	}
}

func TestChangesOfTheState(t *testing.T) {
	s := town()
	r := sample.InOrder(s)
	_, place := Part(r, "@ann:a", api.Place{}, all)
	message := slices.IndexFunc(r.Events, func(e api.Event) bool { return e.Kind == api.KMessage })
	s.Add("@ann:a", api.KName, "", api.Content{Text: "city"}, 0)
	s.Add("@ann:a", api.KRedact, "", api.Content{Target: r.Events[message].Id}, 0)
	part, _ := Part(sample.InOrder(s), "@ann:a", place, all)
	if texts(part.State) != "[7city]" || texts(part.Timeline) != "[7city 14]" || !slices.Equal(part.Gone, []int{r.Events[message].Id}) || part.Anew {
		t.Error("a change", texts(part.State), texts(part.Timeline), part.Gone)
	}
	anew, _ := Part(sample.InOrder(s), "@ann:a", api.Place{}, all)
	if len(anew.Gone) != 0 || anew.Timeline[5].Content.Text != "" {
		t.Error("a client that begins anew", anew.Gone, texts(anew.Timeline))
	}
	other := place
	other.Since++
	if part, _ := Part(sample.InOrder(s), "@ann:a", other, all); !part.Anew || len(part.Timeline) != 8 {
		t.Error("another membership", part)
	}
}

func TestLostKeysBeginAnew(t *testing.T) {
	s := sample.New("!r:a", "@ann:a", api.Public, api.Shared)
	join := s.Add("@bob:b", api.KMember, "@bob:b", api.Content{N: api.Join}, 1)
	name := s.Add("@bob:b", api.KName, "", api.Content{Text: "mine"}, 3, join.Id)
	r := sample.InOrder(s)
	_, place := Part(r, "@ann:a", api.Place{}, all)
	ban := event.Sign((&sample.Room{Id: "!r:a", Events: r.Events}).Frame("@ann:a", api.KMember, "@bob:b", api.Content{N: api.Ban}, 2, join.Id), "a")
	r, _, _ = room.Receive(r, ban)
	if _, found := statemap.Get(r.State, api.KName, ""); found {
		t.Fatal("the name is kept", name.Id)
	}
	part, _ := Part(r, "@ann:a", place, all)
	if !part.Anew || len(part.Timeline) != 7 || len(part.State) != 5 {
		t.Error("a key was lost", part)
	}
}

func TestReceiptsAndTyping(t *testing.T) {
	r := sample.InOrder(town())
	r.Receipts = []api.Receipt{{User: "@ann:a", Id: 1, Time: 5}}
	r.Typing = []api.Typing{{User: "@ann:a", Until: 10}, {User: "@bob:a", Until: 0}}
	part, place := Part(r, "@ann:a", api.Place{}, all)
	if !slices.Equal(part.Typing, []string{"@ann:a"}) || !slices.Equal(part.Receipts, r.Receipts) {
		t.Error("typing at the time 0", part.Typing)
	}
	s := api.Server{Name: "a", Rooms: []api.Room{r}, Now: 10}
	a, err := Answer(s, "@ann:a", api.Token{Rooms: []api.Place{place}}, all)
	if err != api.OK || len(a.Parts) != 0 {
		t.Error("nobody types any more", a, err)
	}
	s.Now = 9
	a, _ = Answer(s, "@ann:a", api.Token{Rooms: []api.Place{place}}, all)
	if len(a.Parts) != 1 || !slices.Equal(a.Parts[0].Typing, []string{"@ann:a"}) {
		t.Error("somebody types", a)
	}
	part.Receipts[0].Id = 99
	if r.Receipts[0].Id != 1 {
		t.Error("the result shares memory with the argument")
	}
}

func TestReceiptsAloneAreToldWithNewRows(t *testing.T) {
	x := town()
	r := sample.InOrder(x)
	r.Receipts = []api.Receipt{{User: "@ann:a", Id: 1, Time: 1}}
	_, place := Part(r, "@ann:a", api.Place{}, all)
	s := api.Server{Name: "a", Rooms: []api.Room{r}}
	names := api.Filter{Limit: 1, Kinds: []api.Kind{api.KCrypt}}
	if a, _ := Answer(s, "@ann:a", api.Token{Rooms: []api.Place{place}}, names); len(a.Parts) != 0 {
		t.Error("no new row", a)
	}
	place.Pos--
	if a, _ := Answer(s, "@ann:a", api.Token{Rooms: []api.Place{place}}, names); len(a.Parts) != 1 {
		t.Error("a new row", a)
	}
	s.Rooms[0].Receipts[0].Time = 0
	if a, _ := Answer(s, "@ann:a", api.Token{Rooms: []api.Place{place}}, names); len(a.Parts) != 0 {
		t.Error("a receipt without a time", a)
	}
}

func TestBegin(t *testing.T) {
	if !same(Begin(), api.Token{}) || Check(Begin()) != api.OK {
		t.Error("Begin")
	}
}

func TestCheck(t *testing.T) {
	many := []api.Place{}
	for i := range 21 {
		many = append(many, api.Place{Room: fmt.Sprintf("!r%02d:a", i)})
	}
	for i, c := range []struct {
		t    api.Token
		want api.Errno
	}{
		{api.Token{Rooms: many[:20], Devices: 7}, api.OK}, {api.Token{Rooms: many, Devices: -1}, api.ErrLong}, {api.Token{Rooms: []api.Place{many[1], many[0], {Room: "x"}}}, api.ErrName}, {api.Token{Rooms: []api.Place{many[1], many[0]}, Devices: -1}, api.ErrOrder}, {api.Token{Rooms: []api.Place{many[1], many[1]}}, api.ErrOrder},
		{api.Token{Rooms: []api.Place{{Room: "!r:a", Pos: -1}}}, api.ErrRange}, {api.Token{Rooms: []api.Place{{Room: "!r:a", Told: 5}}}, api.ErrRange}, {api.Token{Rooms: []api.Place{{Room: "!r:a", Told: -1}}}, api.ErrRange}, {api.Token{Devices: -1}, api.ErrRange}, {api.Token{Rooms: []api.Place{{Room: "!r:a", Pos: math.MaxInt, Told: 4, Since: -9}}}, api.OK},
	} {
		if got := Check(c.t); got != c.want {
			t.Errorf("%d: %d, want %d", i, got, c.want)
		}
	}
}

func TestAnswerErrors(t *testing.T) {
	s := api.Server{Name: "a", Rooms: []api.Room{sample.InOrder(town())}}
	bad := api.Token{Devices: -1}
	for name, c := range map[string]struct {
		down bool
		user string
		t    api.Token
		f    api.Filter
		want api.Errno
	}{"down": {true, "x", bad, api.Filter{}, api.ErrDown}, "no user": {false, "ann", bad, api.Filter{}, api.ErrName}, "another server": {false, "@bob:b", bad, api.Filter{}, api.ErrName}, "a token": {false, "@ann:a", bad, api.Filter{}, api.ErrRange}, "a filter": {false, "@ann:a", Begin(), api.Filter{Limit: 1, Kinds: []api.Kind{0}}, api.ErrArg}, "fine": {false, "@ann:a", Begin(), all, api.OK}} {
		s.Down = c.down
		if a, err := Answer(s, c.user, c.t, c.f); err != c.want || err != api.OK && !same(a, api.Answer{}) {
			t.Errorf("%s: %d, want %d", name, err, c.want)
		}
	}
}

func TestBack(t *testing.T) {
	r := sample.InOrder(town())
	s := api.Server{Name: "a", Rooms: []api.Room{r}}
	l, pos, more, err := Back(s, "!r:a", "@ann:a", 4, 2)
	want, wantPos, wantMore := timeline.Before(r, "@ann:a", 4, 2)
	if err != api.OK || !store.Same(l, want) || pos != wantPos || more != wantMore || len(l) != 2 {
		t.Error("Back", l, pos, more, err)
	}
	down := s
	down.Down = true
	for name, c := range map[string]struct {
		s          api.Server
		room, user string
		limit      int
		want       api.Errno
	}{"down": {down, "x", "x", 0, api.ErrDown}, "an unknown room": {s, "!x:a", "@ann:a", 0, api.ErrNone}, "a stranger": {s, "!r:a", "@eve:a", 0, api.ErrHidden}, "no limit": {s, "!r:a", "@ann:a", 0, api.ErrRange}, "a great limit": {s, "!r:a", "@ann:a", 101, api.ErrRange}, "the greatest limit": {s, "!r:a", "@ann:a", 100, api.OK}} {
		if l, pos, more, err := Back(c.s, c.room, c.user, 4, c.limit); err != c.want || err != api.OK && (len(l)+pos != 0 || more) {
			t.Errorf("%s: %d", name, err)
		}
	}
}

func TestDevices(t *testing.T) {
	r := sample.New("!r:a", "@ann:a", api.Public, api.Shared)
	for _, user := range []string{"@cy:a", "@bob:a"} {
		r.Add(user, api.KMember, user, api.Content{N: api.Join}, 0)
	}
	q := sample.New("!q:a", "@dan:a", api.Public, api.Shared)
	q.Add("@bob:a", api.KMember, "@bob:a", api.Content{N: api.Join}, 0)
	s := api.Server{Name: "a", Stream: 9, Rooms: []api.Room{sample.InOrder(q), sample.InOrder(r)}, Keys: []api.Keys{{User: "@ann:a", Pos: 3}, {User: "@bob:a", Pos: 5}, {User: "@cy:a", Pos: 8}, {User: "@dan:a", Pos: 8}, {User: "@eve:a", Pos: 8}}}
	for _, c := range []struct {
		user string
		from int
		want string
	}{{"@ann:a", 0, "[@ann:a @bob:a @cy:a]"}, {"@ann:a", 5, "[@bob:a @cy:a]"}, {"@bob:a", 6, "[@cy:a @dan:a]"}, {"@dan:a", 6, "[@dan:a]"}, {"@eve:a", 0, "[]"}, {"@ann:a", 9, "[]"}} {
		a, err := Answer(s, c.user, api.Token{Devices: c.from}, all)
		if err != api.OK || fmt.Sprint(a.Devices) != c.want || a.Next.Devices != 9 {
			t.Errorf("%s from %d: %v", c.user, c.from, a.Devices)
		}
	}
}

// shownOf are the shown events of ids.
func shownOf(r api.Room, ids []int) []api.Event {
	l := []api.Event{}
	for _, e := range store.Of(r.Events, ids) {
		l = append(l, timeline.Shown(r, e))
	}
	return l
}

func entryIds(s api.State, wanted func(e api.Entry) bool) []int {
	ids := []int{}
	for _, e := range s {
		if wanted(e) {
			ids = append(ids, e.Id)
		}
	}
	return ids
}

// partAsWritten follows the definition.
func partAsWritten(r api.Room, user string, p api.Place, f api.Filter, now int) (api.Part, api.Place) {
	m := members.InState(r.Events, r.State, user)
	id, _ := statemap.Get(r.State, api.KMember, user)
	part, next := api.Part{Room: r.Id, Member: m}, api.Place{Room: r.Id, Pos: r.Next, Told: m, Since: id}
	old := []api.Event{}
	for _, e := range r.Events {
		if row, _ := room.Row(r, e.Id); row.Pos < p.Pos {
			old = append(old, e)
		}
	}
	before := replay.Current(old)
	goesOn := m == api.Join && p.Told == api.Join && p.Since == id
	for _, e := range before {
		if _, found := statemap.Get(r.State, e.Kind, e.Key); !found {
			goesOn = false
		}
	}
	page := func(from int) {
		part.Timeline, part.Limited = filter.Cut(f, shownOf(r, timeline.After(r, user, from)))
		if part.Limited && len(part.Timeline) > 0 {
			row, _ := room.Row(r, part.Timeline[0].Id)
			part.Back = row.Pos
		}
	}
	own := func(e api.Entry) bool { return e.Kind == api.KMember && e.Key == user }
	switch {
	case m == api.Join:
		part.Anew = !goesOn
		changed := r.State
		if goesOn {
			page(p.Pos)
			changed = statemap.Diff(before, r.State)
			part.Gone = num.Minus(redact.Gone(r.Events), redact.Gone(old))
		} else {
			page(0)
		}
		part.State = filter.Lazy(f, shownOf(r, entryIds(changed, func(api.Entry) bool { return true })), part.Timeline)
		part.Receipts, part.Typing, part.Unread = r.Receipts, typing.Now(r.Typing, now), receipts.Unread(r, r.Receipts, user)
	case m == api.Invite || m == api.Knock:
		next.Pos = p.Pos
		if m != p.Told {
			part.State = shownOf(r, entryIds(r.State, func(e api.Entry) bool {
				return e.Kind == api.KCreate || e.Kind == api.KRules || e.Kind == api.KName || own(e)
			}))
		}
	case p.Told == api.Join:
		page(p.Pos)
		part.State = shownOf(r, entryIds(r.State, own))
	}
	return part, next
}

func TestFollowsTheDefinitions(t *testing.T) {
	source := rand.New(rand.NewSource(1))
	told := map[string]int{}
	for range 25 {
		x := sample.Random(source.Intn, 22)
		whole := sample.Received(x, source.Intn)
		order := whole.Rows
		s := api.Server{Name: "a", Now: 5}
		tokens := map[string]api.Token{}
		r, _ := room.New(x.Id)
		for _, row := range order {
			e, _ := store.Get(whole.Events, row.Id)
			r, _, _ = room.Receive(r, e)
			if source.Intn(3) > 0 {
				continue
			}
			r.Receipts = []api.Receipt{{User: "@bob:b", Id: row.Id, Time: source.Intn(2)}}
			r.Typing = []api.Typing{{User: "@bob:b", Until: source.Intn(9)}}
			s.Rooms = []api.Room{r}
			for _, user := range []string{"@ann:a", "@dan:a"} {
				told[checkAnswer(t, s, user, tokens, randomFilter(source))]++
			}
			for _, user := range sample.Users() {
				p := api.Place{Pos: source.Intn(20), Told: source.Intn(5)}
				p.Since, _ = statemap.Get(r.State, api.KMember, user)
				f := randomFilter(source)
				old := clone.Room(r)
				part, next := Part(r, user, p, f)
				want, wantNext := partAsWritten(r, user, p, f, 0)
				if !same(part, want) || next != wantNext {
					t.Fatal("Part", user, p, f, part, want)
				}
				for _, e := range append(part.Timeline, part.State...) {
					e.Prev = append(e.Prev[:0], 99)
				}
				if !room.Same(r, old) {
					t.Fatal("the argument was changed")
				}
			}
		}
	}
	if told["new"] == 0 || told["more"] == 0 || told["nothing"] == 0 {
		t.Error("some answers never came", told)
	}
}

func randomFilter(source *rand.Rand) api.Filter {
	f := api.Filter{Limit: 1 + source.Intn(30), Lazy: source.Intn(2) == 0}
	if source.Intn(3) == 0 {
		f.Not = []api.Kind{api.KMember}
	}
	return f
}

// checkAnswer lets a client ask again, and says what it was told.
func checkAnswer(t *testing.T, s api.Server, user string, tokens map[string]api.Token, f api.Filter) string {
	t.Helper()
	r, before := s.Rooms[0], tokens[user]
	p := api.Place{}
	if len(before.Rooms) > 0 {
		p = before.Rooms[0]
	}
	a, err := Answer(s, user, before, f)
	want, next := partAsWritten(r, user, p, f, s.Now)
	if err != api.OK {
		t.Fatal("Answer", err)
	}
	out := want.Member == p.Told && (want.Member == api.Leave || want.Member == api.Ban)
	if out != (len(a.Next.Rooms) == 0) || !out && a.Next.Rooms[0] != next {
		t.Fatal("the next place", a.Next, next)
	}
	receipt := want.Member == api.Join && r.Receipts[0].Time > 0 && p.Pos < r.Next
	parts := !out && (want.Member != p.Told || len(want.Timeline)+len(want.State)+len(want.Gone)+len(want.Typing) > 0 || receipt)
	if parts != (len(a.Parts) == 1) || parts && !same(a.Parts[0], want) {
		t.Fatal("the part", a.Parts, want, parts)
	}
	for _, part := range a.Parts {
		for _, e := range part.Timeline {
			if visible.May(r, e.Id, user) != api.OK {
				t.Fatal("a hidden event", e)
			}
		}
	}
	quiet, _ := Answer(s, user, a.Next, f)
	for _, part := range quiet.Parts {
		if len(part.Timeline)+len(part.State) > 0 {
			t.Fatal("something is new without a change", part)
		}
	}
	tokens[user] = a.Next
	switch {
	case len(a.Parts) == 0:
		return "nothing"
	case a.Parts[0].Anew:
		return "new"
	}
	return "more"
}

func TestEachRowOnce(t *testing.T) {
	source := rand.New(rand.NewSource(2))
	for range 15 {
		whole := sample.Received(sample.Random(source.Intn, 22), source.Intn)
		r, _ := room.New(whole.Id)
		p := api.Place{}
		for _, row := range whole.Rows {
			e, _ := store.Get(whole.Events, row.Id)
			r, _, _ = room.Receive(r, e)
			if source.Intn(4) > 0 {
				continue
			}
			part, next := Part(r, "@ann:a", p, all)
			if part.Member == api.Join && !part.Anew && !slices.Equal(store.Ids(part.Timeline), timeline.After(r, "@ann:a", p.Pos)) {
				t.Fatal("another timeline", part.Timeline)
			}
			p = next
		}
	}
}
