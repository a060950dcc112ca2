package room_test

import (
	"fmt"
	"math/rand"
	"slices"
	"testing"

	"fedchat/api"
	"fedchat/auth"
	"fedchat/clone"
	"fedchat/event"
	"fedchat/graph"
	"fedchat/num"
	"fedchat/replay"
	. "fedchat/room"
	"fedchat/sample"
	"fedchat/statemap"
	"fedchat/store"
)

// byDepth returns the events in an order in which none has to wait.
func byDepth(l []api.Event) []api.Event {
	return store.Of(l, graph.Order(l))
}

func receiveAll(t *testing.T, l []api.Event) api.Room {
	t.Helper()
	r, _ := New("!r:a")
	for _, e := range l {
		next, _, err := Receive(r, e)
		if err != api.OK {
			t.Fatal("Receive", e, err)
		}
		r = next
	}
	return r
}

func message(r *sample.Room, sender, text string, prev ...int) api.Event {
	return r.Add(sender, api.KMessage, "", api.Content{Text: text}, 0, prev...)
}

func TestNew(t *testing.T) {
	if r, err := New("!r:a"); err != api.OK || !Same(r, api.Room{Id: "!r:a"}) || Check(r) != api.OK {
		t.Error("New", r, err)
	}
	if r, err := New("@r:a"); err != api.ErrName || !Same(r, api.Room{}) {
		t.Error("New of no room", r, err)
	}
}

func TestJoinBeforeCreation(t *testing.T) {
	s := &sample.Room{Id: "!r:a"}
	create := s.Add("@ann:a", api.KCreate, "", api.Content{}, 0)
	join := s.Add("@ann:a", api.KMember, "@ann:a", api.Content{N: api.Join}, 0)
	r, _ := New("!r:a")
	r, status, err := Receive(r, join)
	if status != api.Waiting || err != api.OK || len(r.Events)+len(r.Rows) != 0 || len(r.Waiting) != 1 {
		t.Fatal("the join", status, err, r)
	}
	if got := Missing(r); !slices.Equal(got, []int{create.Id}) {
		t.Error("Missing", got)
	}
	if e, ok := Known(r, join.Id); !ok || !event.Same(e, join) {
		t.Error("Known", e, ok)
	}
	if _, status, err := Receive(r, join); status != api.Waiting || err != api.OK {
		t.Error("the join again", status, err)
	}
	r, status, err = Receive(r, create)
	if status != api.Accepted || err != api.OK || fmt.Sprint(r.Rows) != fmt.Sprint([]api.Row{{Pos: 0, Id: create.Id, Status: api.Accepted}, {Pos: 1, Id: join.Id, Status: api.Accepted}}) {
		t.Error("the creation", status, err, r.Rows)
	}
	if r.Next != 2 || len(r.Waiting) != 0 || !slices.Equal(r.Heads, []int{join.Id}) || len(r.State) != 2 || len(Missing(r)) != 0 || Check(r) != api.OK {
		t.Error("the room", r)
	}
}

func TestSoft(t *testing.T) {
	s := sample.New("!r:a", "@ann:a", api.Public, api.Shared)
	join := s.Add("@bob:b", api.KMember, "@bob:b", api.Content{N: api.Join}, 1)
	ban := s.Add("@ann:a", api.KMember, "@bob:b", api.Content{N: api.Ban}, 2, join.Id)
	r := receiveAll(t, byDepth(s.Events))
	early := message(s, "@bob:b", "hi", join.Id)
	r, status, err := Receive(r, early)
	if status != api.Soft || err != api.OK {
		t.Error("a message beside the ban", status, err)
	}
	if !slices.Equal(r.Heads, num.Sorted([]int{ban.Id, early.Id})) || Check(r) != api.OK {
		t.Error("a soft event is a head", r.Heads, Check(r))
	}
	late := message(s, "@bob:b", "ho", ban.Id)
	r, status, err = Receive(r, late)
	if status != api.Rejected || err != api.OK || num.Has(r.Heads, late.Id) || Check(r) != api.OK {
		t.Error("a message behind the ban", status, err)
	}
}

func TestReceiveErrors(t *testing.T) {
	s := sample.New("!r:a", "@ann:a", api.Public, api.Shared)
	r := receiveAll(t, byDepth(s.Events))
	bad := message(s, "@ann:a", "hi")
	bad.Time++
	unsigned := message(s, "@ann:a", "ho")
	unsigned.Sig = api.Sig{}
	other := sample.New("!s:a", "@ann:a", api.Public, api.Shared).Events[0]
	for name, c := range map[string]struct {
		e    api.Event
		want api.Errno
	}{"a wrong sum": {bad, api.ErrSum}, "no signature": {unsigned, api.ErrSign}, "another room": {other, api.ErrRoom}, "nothing": {api.Event{}, api.ErrArg}} {
		next, status, err := Receive(r, c.e)
		if err != c.want || status != api.Unknown || !Same(next, r) {
			t.Errorf("%s: %d, %d", name, status, err)
		}
	}
}

func TestStrippedEventsBecomeWhole(t *testing.T) {
	s := sample.New("!r:a", "@ann:a", api.Public, api.Shared)
	r := receiveAll(t, byDepth(s.Events))
	first := message(s, "@ann:a", "one")
	second := message(s, "@ann:a", "two")
	forged := second
	forged.Content.Text = "changed"
	r, status, _ := Receive(r, forged)
	if e, _ := Known(r, second.Id); status != api.Waiting || !event.Same(e, event.Strip(second)) {
		t.Error("a changed text", status, e)
	}
	r, _, _ = Receive(r, second)
	if e, _ := Known(r, second.Id); !event.Same(e, second) || len(r.Waiting) != 1 {
		t.Error("the whole event waits", e)
	}
	r, _, _ = Receive(r, event.Strip(second))
	r, status, _ = Receive(r, event.Strip(first))
	if e, _ := Known(r, first.Id); status != api.Accepted || e.Content.Text != "" || len(r.Waiting) != 0 {
		t.Error("a stripped event", status, e)
	}
	whole, status, err := Receive(r, first)
	if e, _ := Known(whole, first.Id); status != api.Accepted || err != api.OK || e.Content.Text != "one" || whole.Next != r.Next {
		t.Error("the whole event", status, err, e)
	}
	again, status, _ := Receive(whole, event.Strip(first))
	if !Same(again, whole) || status != api.Accepted {
		t.Error("the stripped event again")
	}
	if e, _ := Known(again, second.Id); e.Content.Text != "two" {
		t.Error("the second one", e)
	}
}

func TestRejectedStatusIsKept(t *testing.T) {
	s := sample.New("!r:a", "@ann:a", api.Public, api.Shared)
	r := receiveAll(t, byDepth(s.Events))
	heads := slices.Clone(r.Heads)
	e := message(s, "@eve:e", "hi")
	for range 2 {
		var status api.Status
		var err api.Errno
		r, status, err = Receive(r, e)
		if status != api.Rejected || err != api.OK || !slices.Equal(r.Heads, heads) || r.Next != 5 || Check(r) != api.OK {
			t.Error("a rejected event", status, err)
		}
	}
}

func TestSecondCreation(t *testing.T) {
	s := sample.New("!r:a", "@ann:a", api.Public, api.Shared)
	r := receiveAll(t, byDepth(s.Events))
	second := event.Sign(api.Event{Room: "!r:a", Sender: "@ann:a", Kind: api.KCreate, State: true, Depth: 1, Time: 9}, "a")
	next, status, err := Receive(r, second)
	if err != api.ErrCreate || status != api.Unknown || !Same(next, r) {
		t.Error("a second creation", status, err)
	}
	foreign := event.Sign(api.Event{Room: "!r:a", Sender: "@eve:e", Kind: api.KCreate, State: true, Depth: 1}, "e")
	next, status, err = Receive(r, foreign)
	if err != api.OK || status != api.Rejected || Check(next) != api.OK {
		t.Error("a rejected creation", status, err)
	}
	empty, _ := New("!r:a")
	empty, _, _ = Receive(empty, foreign)
	empty, status, err = Receive(empty, second)
	if err != api.OK || status != api.Accepted || Check(empty) != api.OK {
		t.Error("a creation behind a rejected one", status, err)
	}
}

func TestCycle(t *testing.T) {
	s := sample.New("!r:a", "@ann:a", api.Public, api.Shared)
	r := receiveAll(t, byDepth(s.Events))
	f := s.Frame("@ann:a", api.KName, "", api.Content{Text: "n"}, 0)
	f.Depth++
	deep := event.Sign(f, "a")
	next, status, err := Receive(r, deep)
	if err != api.ErrCycle || status != api.Unknown || !Same(next, r) {
		t.Error("a wrong depth", status, err)
	}
	// An event that waits and has a wrong depth is dropped when it is ready.
	first := message(s, "@ann:a", "one")
	g := s.Frame("@ann:a", api.KName, "", api.Content{Text: "n"}, 0)
	g.Depth += 5
	r, status, _ = Receive(r, event.Sign(g, "a"))
	if status != api.Waiting {
		t.Error("the deep event", status)
	}
	r, status, err = Receive(r, first)
	if status != api.Accepted || err != api.OK || len(r.Waiting) != 0 || len(r.Events) != 5 || Check(r) != api.OK {
		t.Error("the deep event is not dropped", status, err, r.Waiting)
	}
}

func TestManyWait(t *testing.T) {
	s := sample.New("!r:a", "@ann:a", api.Public, api.Shared)
	r := receiveAll(t, byDepth(s.Events))
	first := message(s, "@ann:a", "first")
	waiting := []api.Event{}
	frame := s.Frame("@ann:a", api.KMessage, "", api.Content{}, 0)
	for i := range 201 {
		e := frame
		e.Content.Text = fmt.Sprint(i)
		waiting = append(waiting, event.Sign(e, "a"))
	}
	for _, e := range waiting[:200] {
		var err api.Errno
		r, _, err = Receive(r, e)
		if err != api.OK {
			t.Fatal("Receive", err)
		}
	}
	next, status, err := Receive(r, waiting[200])
	if err != api.ErrFull || status != api.Unknown || !Same(next, r) || Check(r) != api.OK {
		t.Error("one too many waits", status, err)
	}
	if _, status, err := Receive(r, waiting[3]); err != api.OK || status != api.Waiting {
		t.Error("one that waits already", status, err)
	}
	r, status, err = Receive(r, first)
	if status != api.Accepted || err != api.OK || len(r.Waiting) != 0 || len(r.Events) != 205 || Check(r) != api.OK {
		t.Error("the first one", status, err, len(r.Waiting))
	}
	for i, row := range r.Rows[5:] {
		if i > 0 && row.Id <= r.Rows[4+i].Id {
			t.Fatal("events of equal depths are not added by their ids")
		}
	}
}

func TestFullRoom(t *testing.T) {
	s := sample.New("!r:a", "@ann:a", api.Public, api.Shared)
	r := receiveAll(t, byDepth(s.Events))
	frame := s.Frame("@ann:a", api.KMessage, "", api.Content{}, 0)
	all := []api.Event{}
	for i := range api.MaxEvents - 4 {
		e := frame
		e.Content.Text = fmt.Sprint(i)
		all = append(all, event.Sign(e, "a"))
	}
	for _, e := range all[1:] {
		r.Events = append(r.Events, e)
		r.Rows = append(r.Rows, api.Row{Pos: r.Next, Id: e.Id, Status: api.Accepted})
		r.Next++
	}
	slices.SortFunc(r.Events, func(a, b api.Event) int { return a.Id - b.Id })
	r.Heads = graph.Heads(r.Events, store.Ids(r.Events))
	r, status, err := Receive(r, all[0])
	if status != api.Accepted || err != api.OK || len(r.Events) != api.MaxEvents || Check(r) != api.OK {
		t.Fatal("the last place", status, err)
	}
	frame.Content.Text = "too many"
	next, status, err := Receive(r, event.Sign(frame, "a"))
	if err != api.ErrFull || status != api.Unknown || !Same(next, r) {
		t.Error("one event too many", status, err)
	}
	if _, status, err := Receive(r, all[7]); status != api.Accepted || err != api.OK {
		t.Error("an event of a full room", status, err)
	}
}

func TestOrderDoesNotMatter(t *testing.T) {
	source := rand.New(rand.NewSource(1))
	soft := 0
	for range 25 {
		l := sample.Random(source.Intn, 5+source.Intn(20)).Events
		want := receiveAll(t, byDepth(l))
		r, _ := New("!r:a")
		for _, i := range source.Perm(len(l)) {
			before := r
			e := l[i]
			if source.Intn(4) == 0 {
				r, _, _ = Receive(r, event.Strip(e))
			}
			var err api.Errno
			r, _, err = Receive(r, e)
			if err != api.OK || Check(r) != api.OK {
				t.Fatal("Receive", err, Check(r))
			}
			if len(r.Rows) < len(before.Rows) || !slices.Equal(r.Rows[:len(before.Rows)], before.Rows) {
				t.Fatal("rows were changed")
			}
			if again, _, _ := Receive(r, e); !Same(again, r) {
				t.Fatal("the same event again")
			}
		}
		if len(r.Waiting) != 0 || !store.Same(r.Events, want.Events) || !slices.Equal(r.Heads, want.Heads) || !statemap.Same(r.State, want.State) {
			t.Fatal("another room", r, want)
		}
		for _, row := range r.Rows {
			other, _ := Row(want, row.Id)
			if (row.Status == api.Rejected) != (other.Status == api.Rejected) {
				t.Fatal("another verdict", row, other)
			}
			if row.Status == api.Soft {
				soft++
			}
		}
	}
	if soft == 0 {
		t.Error("no event was soft")
	}
}

func TestStatusesFollowTheDefinition(t *testing.T) {
	source := rand.New(rand.NewSource(2))
	for range 15 {
		l := sample.Random(source.Intn, 20).Events
		r, _ := New("!r:a")
		for _, e := range byDepth(l) {
			next, status, _ := Receive(r, e)
			want := api.Accepted
			if _, s := replay.At(next.Events, e.Id); s == api.Rejected {
				want = api.Rejected
			} else if auth.Allowed(e, statemap.Events(r.Events, r.State)) != api.OK {
				want = api.Soft
			}
			if status != want || next.Rows[len(next.Rows)-1] != (api.Row{Pos: len(r.Rows), Id: e.Id, Status: want}) {
				t.Fatal("the status", e, status, want)
			}
			if !statemap.Same(next.State, replay.Current(next.Events)) || !slices.Equal(next.Heads, graph.Heads(next.Events, replay.Accepted(next.Events))) {
				t.Fatal("heads or state", e)
			}
			r = next
		}
	}
}

func TestCheck(t *testing.T) {
	s := sample.New("!r:a", "@ann:a", api.Public, api.Shared)
	s.Add("@eve:e", api.KName, "", api.Content{Text: "x"}, 0)
	good := receiveAll(t, byDepth(s.Events))
	missing := message(s, "@ann:a", "one")
	late := message(s, "@ann:a", "two")
	later := message(s, "@ann:a", "three")
	good, _, _ = Receive(good, late)
	good, _, _ = Receive(good, later)
	second := event.Sign(api.Event{Room: "!r:a", Sender: "@ann:a", Kind: api.KCreate, State: true, Depth: 1, Time: 9}, "a")
	other := sample.New("!s:a", "@ann:a", api.Public, api.Shared).Events
	many := []api.Event{}
	for i := range 201 {
		e := late
		e.Content.Text = fmt.Sprint(i)
		many, _ = store.Put(many, event.Sign(e, "a"))
	}
	if Check(good) != api.OK || len(good.Waiting) != 2 {
		t.Fatal("a right room", Check(good))
	}
	for name, c := range map[string]struct {
		change func(r *api.Room)
		want   api.Errno
	}{
		"id":                 {func(r *api.Room) { r.Id = "r" }, api.ErrName},
		"a wrong event":      {func(r *api.Room) { r.Events[1].Time++; r.Next = 9 }, api.ErrSum},
		"events in disorder": {func(r *api.Room) { slices.Reverse(r.Events) }, api.ErrOrder},
		"another id":         {func(r *api.Room) { r.Id = "!s:a" }, api.ErrRoom},
		"a gap": {func(r *api.Room) {
			r.Events = slices.DeleteFunc(r.Events, func(e api.Event) bool { return e.Depth == 2 })
		}, api.ErrGap},
		"a row too few":  {func(r *api.Room) { r.Rows = r.Rows[:4]; r.Next = 4 }, api.ErrForm},
		"a row too many": {func(r *api.Room) { r.Rows = append(r.Rows, api.Row{Pos: 5, Id: 9, Status: api.Accepted}); r.Next = 6 }, api.ErrForm},
		"a row twice":    {func(r *api.Room) { r.Rows[4] = r.Rows[3]; r.Rows[4].Pos = 4 }, api.ErrForm},
		"a position":     {func(r *api.Room) { r.Rows[2].Pos = 7 }, api.ErrForm},
		"another order":  {func(r *api.Room) { r.Rows[2].Id, r.Rows[3].Id = r.Rows[3].Id, r.Rows[2].Id }, api.ErrForm},
		"next":           {func(r *api.Room) { r.Next++ }, api.ErrForm},
		"not rejected":   {func(r *api.Room) { r.Rows[4].Status = api.Soft }, api.ErrForm},
		"rejected":       {func(r *api.Room) { r.Rows[3].Status = api.Rejected }, api.ErrForm},
		"waiting":        {func(r *api.Room) { r.Rows[3].Status = api.Waiting }, api.ErrForm},
		"soft":           {func(r *api.Room) { r.Rows[3].Status = api.Soft }, api.OK},
		"gone":           {func(r *api.Room) { r.Rows[3].Gone = true }, api.OK},
		"two creations": {func(r *api.Room) {
			r.Events, _ = store.Put(r.Events, second)
			r.Rows = append(r.Rows, api.Row{Pos: 5, Id: second.Id, Status: api.Accepted})
			r.Next++
		}, api.ErrForm},
		"waiting in disorder": {func(r *api.Room) { slices.Reverse(r.Waiting) }, api.ErrOrder},
		"a wrong one waits":   {func(r *api.Room) { r.Waiting[0].Sig.Sum++; r.Heads = nil }, api.ErrSign},
		"another room waits":  {func(r *api.Room) { r.Waiting = []api.Event{other[0]} }, api.ErrRoom},
		"an event waits":      {func(r *api.Room) { r.Waiting = []api.Event{r.Events[0]} }, api.ErrTwice},
		"a ready one waits":   {func(r *api.Room) { r.Waiting = []api.Event{missing} }, api.ErrState},
		"too many wait":       {func(r *api.Room) { r.Waiting = many }, api.ErrFull},
		"heads":               {func(r *api.Room) { r.Heads = nil }, api.ErrForm},
		"state":               {func(r *api.Room) { r.State[0].Id++ }, api.ErrForm},
		"receipts and typing": {func(r *api.Room) { r.Receipts, r.Typing = []api.Receipt{{Id: -1}}, []api.Typing{{}} }, api.OK},
	} {
		r := clone.Room(good)
		c.change(&r)
		if got := Check(r); got != c.want {
			t.Errorf("%s: %d, want %d", name, got, c.want)
		}
	}
}

func TestRowMissingAndKnown(t *testing.T) {
	r := api.Room{
		Events:  []api.Event{{Id: 1, Prev: []int{9, 2}}, {Id: 2, Auth: []int{7}}},
		Waiting: []api.Event{{Id: 2, Time: 5}, {Id: 3, Auth: []int{8, 1}, Prev: []int{3, -1}}},
		Rows:    []api.Row{{Id: 1, Pos: 4}, {Id: 1, Pos: 5}, {Id: 2, Status: api.Soft}},
	}
	if row, ok := Row(r, 1); !ok || row.Pos != 4 {
		t.Error("Row", row, ok)
	}
	if row, ok := Row(r, 3); ok || row != (api.Row{}) {
		t.Error("Row of an unknown id", row, ok)
	}
	if got := fmt.Sprint(Missing(r)); got != "[-1 7 8 9]" {
		t.Error("Missing", got)
	}
	if e, ok := Known(r, 2); !ok || e.Time != 0 {
		t.Error("Known", e, ok)
	}
	if e, ok := Known(r, 3); !ok || e.Id != 3 {
		t.Error("Known", e, ok)
	}
	if e, ok := Known(r, 4); ok || !event.Same(e, api.Event{}) {
		t.Error("Known", e, ok)
	}
}

func TestSame(t *testing.T) {
	full := func() api.Room {
		return api.Room{Id: "i", Events: []api.Event{{Id: 1}}, Rows: []api.Row{{}}, Waiting: []api.Event{{Id: 2}}, Heads: []int{1}, State: api.State{{}}, Next: 1, Receipts: []api.Receipt{{}}, Typing: []api.Typing{{}}}
	}
	if !Same(full(), full()) || !Same(api.Room{Events: []api.Event{}, Heads: []int{}, Typing: []api.Typing{}}, api.Room{}) {
		t.Error("equal rooms")
	}
	for i, change := range []func(r *api.Room){
		func(r *api.Room) { r.Id = "" }, func(r *api.Room) { r.Events[0].Time++ }, func(r *api.Room) { r.Rows[0].Gone = true }, func(r *api.Room) { r.Waiting = nil }, func(r *api.Room) { r.Heads[0]++ },
		func(r *api.Room) { r.State[0].Id++ }, func(r *api.Room) { r.Next++ }, func(r *api.Room) { r.Receipts[0].Time++ }, func(r *api.Room) { r.Typing[0].Until++ },
	} {
		r := full()
		change(&r)
		if Same(r, full()) || Same(full(), r) {
			t.Errorf("the change %d makes no difference", i)
		}
	}
}

func TestReceiptsAndTypingAreKept(t *testing.T) {
	s := sample.New("!r:a", "@ann:a", api.Public, api.Shared)
	l := byDepth(s.Events)
	r := receiveAll(t, l[:3])
	r.Receipts, r.Typing = []api.Receipt{{User: "@ann:a"}}, []api.Typing{{User: "@ann:a"}}
	r, _, _ = Receive(r, l[3])
	if len(r.Receipts) != 1 || len(r.Typing) != 1 {
		t.Error("they are lost")
	}
}

func TestReceiveKeepsItsArgument(t *testing.T) {
	source := rand.New(rand.NewSource(3))
	l := sample.Random(source.Intn, 25).Events
	r, _ := New("!r:a")
	for _, i := range source.Perm(len(l)) {
		old, e := clone.Room(r), clone.Event(l[i])
		next, _, _ := Receive(r, l[i])
		for j := range next.Events {
			next.Events[j].Auth = append(next.Events[j].Auth[:0], 1)
		}
		for j := range next.Rows {
			next.Rows[j].Gone = true
		}
		for j := range next.Waiting {
			next.Waiting[j].Prev[0] = 0
		}
		if !Same(r, old) || !event.Same(e, l[i]) {
			t.Fatal("an argument was changed")
		}
		r, _, _ = Receive(r, l[i])
	}
}
