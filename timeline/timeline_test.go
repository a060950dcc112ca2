package timeline_test

import (
	"fmt"
	"math"
	"math/rand"
	"slices"
	"testing"

	"fedchat/api"
	"fedchat/clone"
	"fedchat/event"
	"fedchat/num"
	"fedchat/redact"
	"fedchat/room"
	"fedchat/sample"
	"fedchat/store"
	. "fedchat/timeline"
	"fedchat/visible"
)

// chat returns a room with seven rows, all of them shown to @ann:a.
func chat() api.Room {
	s := sample.New("!r:a", "@ann:a", api.Public, api.Shared)
	for _, text := range []string{"one", "two", "three"} {
		s.Add("@ann:a", api.KMessage, "", api.Content{Text: text}, 0)
	}
	return sample.InOrder(s)
}

// positions returns the rows of events.
func positions(r api.Room, l []api.Event) string {
	pos := []int{}
	for _, e := range l {
		row, _ := room.Row(r, e.Id)
		pos = append(pos, row.Pos)
	}
	return fmt.Sprint(pos)
}

func TestExamples(t *testing.T) {
	r := chat()
	if got := After(r, "@ann:a", 5); !slices.Equal(got, []int{r.Rows[5].Id, r.Rows[6].Id}) || Last(r) != 7 {
		t.Error("After", got)
	}
	for _, c := range []struct {
		pos, limit int
		want       string
	}{
		{5, 2, "[3 4] 3 true"}, {2, 5, "[0 1] 0 false"}, {2, 2, "[0 1] 0 false"}, {7, 3, "[4 5 6] 4 true"}, {99, 100, "[0 1 2 3 4 5 6] 0 false"}, {0, 5, "[] 0 false"}, {-3, 5, "[] 0 false"}, {3, 0, "[] 0 true"}, {3, -1, "[] 0 true"}, {0, 0, "[] 0 false"}, {3, math.MinInt, "[] 0 true"},
	} {
		l, pos, more := Before(r, "@ann:a", c.pos, c.limit)
		if got := positions(r, l) + " " + fmt.Sprint(pos, more); got != c.want {
			t.Errorf("Before of %d with %d: %s", c.pos, c.limit, got)
		}
	}
	for _, c := range []struct {
		place, limit int
		want         string
	}{{3, 1, "[2 3 4]"}, {0, 2, "[0 1 2]"}, {6, 2, "[4 5 6]"}, {3, 0, "[3]"}, {3, -7, "[3]"}, {3, math.MaxInt, "[0 1 2 3 4 5 6]"}, {3, math.MinInt, "[3]"}} {
		l, err := Around(r, "@ann:a", r.Rows[c.place].Id, c.limit)
		if got := positions(r, l); got != c.want || err != api.OK {
			t.Errorf("Around of %d with %d: %s, %d", c.place, c.limit, got, err)
		}
	}
	if got := After(r, "@ann:a", math.MinInt); len(got) != 7 || len(After(r, "@ann:a", 7)) != 0 || len(After(r, "@eve:e", 0)) != 0 {
		t.Error("After", got)
	}
}

func TestGoneAndRedacted(t *testing.T) {
	s := sample.New("!r:a", "@ann:a", api.Public, api.Shared)
	message := s.Add("@ann:a", api.KMessage, "", api.Content{Text: "secret"}, 0)
	old := s.Add("@ann:a", api.KMessage, "", api.Content{Text: "old"}, 0)
	s.Add("@ann:a", api.KRedact, "", api.Content{Target: message.Id}, 0)
	last := s.Add("@ann:a", api.KMessage, "", api.Content{Text: "last"}, 0)
	r := sample.InOrder(s)
	r.Rows[5].Gone = true
	l, pos, more := Before(r, "@ann:a", 99, 3)
	if positions(r, l) != "[4 6 7]" || pos != 4 || !more || !event.Same(l[0], event.Strip(message)) || !event.Same(l[2], last) {
		t.Error("Before", positions(r, l), l)
	}
	if l, err := Around(r, "@ann:a", old.Id, 1); err != api.ErrGone || len(l) != 0 {
		t.Error("Around of a row that is gone", err)
	}
	if l, err := Around(r, "@ann:a", message.Id, 1); err != api.OK || positions(r, l) != "[3 4 6]" || !event.Same(l[1], event.Strip(message)) {
		t.Error("Around of a redacted message", err, positions(r, l))
	}
	if l, err := Around(r, "@eve:e", old.Id, 1); err != api.ErrHidden || len(l) != 0 {
		t.Error("Around for a stranger", err)
	}
	if l, err := Around(r, "@ann:a", 5, 1); err != api.ErrNone || len(l) != 0 {
		t.Error("Around of an unknown event", err)
	}
	if slices.Contains(After(r, "@ann:a", 0), old.Id) || !slices.Contains(After(r, "@ann:a", 0), message.Id) {
		t.Error("After")
	}
}

func TestShown(t *testing.T) {
	s := sample.New("!r:a", "@ann:a", api.Public, api.Shared)
	message := s.Add("@ann:a", api.KMessage, "", api.Content{Text: "secret"}, 0)
	other := s.Add("@ann:a", api.KMessage, "", api.Content{Text: "open"}, 0)
	s.Add("@ann:a", api.KRedact, "", api.Content{Target: message.Id}, 0)
	r := sample.InOrder(s)
	changed := other
	changed.Content.Text = "changed"
	for i, c := range []struct{ e, want api.Event }{{message, event.Strip(message)}, {other, other}, {changed, event.Strip(changed)}, {event.Strip(other), event.Strip(other)}, {api.Event{}, api.Event{}}} {
		if got := Shown(r, c.e); !event.Same(got, c.want) {
			t.Errorf("%d: %v", i, got)
		}
	}
	if got := Shown(api.Room{}, message); !event.Same(got, message) {
		t.Error("another room", got)
	}
	Shown(r, other).Prev[0] = 9
	if other.Prev[0] == 9 {
		t.Error("the result shares memory with the argument")
	}
}

func TestPagesFitTogether(t *testing.T) {
	source := rand.New(rand.NewSource(1))
	for range 20 {
		s := sample.Random(source.Intn, 20)
		r := sample.Received(s, source.Intn)
		for i := range r.Rows {
			r.Rows[i].Gone = source.Intn(8) == 0
		}
		old := clone.Room(r)
		user := sample.Users()[source.Intn(5)]
		gone, visibleRows := redact.Gone(r.Events), visible.Rows(r, user)
		shown := []int{}
		for _, row := range r.Rows {
			if slices.Contains(visibleRows, row.Id) && !row.Gone {
				shown = append(shown, row.Id)
			}
		}
		start := source.Intn(22)
		after := After(r, user, start)
		pages := []int{}
		for pos, more := start, true; more; {
			var l []api.Event
			l, pos, more = Before(r, user, pos, 1+source.Intn(4))
			pages = append(store.Ids(l), pages...)
			for _, e := range l {
				own, _ := store.Get(r.Events, e.Id)
				want := own
				if num.Has(gone, e.Id) || !event.Whole(own) {
					want = event.Strip(own)
				}
				if !event.Same(e, want) || visible.May(r, e.Id, user) != api.OK {
					t.Fatal("the form of an event", e)
				}
				e.Prev = append(e.Prev[:0], 99)
			}
		}
		if !slices.Equal(slices.Concat(pages, after), shown) {
			t.Fatal("the pages", pages, after, shown)
		}
		for i, id := range shown {
			n := source.Intn(4)
			l, err := Around(r, user, id, n)
			if err != api.OK || !slices.Equal(store.Ids(l), shown[max(0, i-n):min(len(shown), i+n+1)]) {
				t.Fatal("Around", err)
			}
		}
		if !room.Same(r, old) {
			t.Fatal("the argument was changed")
		}
	}
}
