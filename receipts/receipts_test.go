package receipts_test

import (
	"fmt"
	"math/rand"
	"slices"
	"strings"
	"testing"

	"fedchat/api"
	"fedchat/ids"
	"fedchat/num"
	. "fedchat/receipts"
	"fedchat/redact"
	"fedchat/sample"
	"fedchat/store"
	"fedchat/visible"
)

func receipt(user string, thread, id, time int) api.Receipt {
	return api.Receipt{User: user, Thread: thread, Id: id, Time: time}
}

func TestGet(t *testing.T) {
	l := []api.Receipt{receipt("b", 0, 1, 1), receipt("a", 0, 2, 2), receipt("b", 0, 3, 9), receipt("b", 5, 4, 4)}
	if r, ok := Get(l, "b", 0); !ok || r.Id != 1 {
		t.Error("the first one counts", r)
	}
	if r, ok := Get(l, "b", 5); !ok || r.Id != 4 {
		t.Error("a thread", r)
	}
	if r, ok := Get(l, "a", 5); ok || r != (api.Receipt{}) {
		t.Error("an unknown one", r)
	}
}

func TestPutReplacesByNewerOnes(t *testing.T) {
	old := []api.Receipt{receipt("a", 0, 7, 7)}
	for i, c := range []struct {
		r        api.Receipt
		replaced bool
	}{{receipt("a", 0, 9, 5), false}, {receipt("a", 0, 9, 7), true}, {receipt("a", 0, 7, 7), false}, {receipt("a", 0, 6, 7), false}, {receipt("a", 0, 1, 8), true}} {
		want := old[0]
		if c.replaced {
			want = c.r
		}
		if got := Put(old, c.r); len(got) != 1 || got[0] != want {
			t.Errorf("%d: %v", i, got)
		}
	}
	twice := []api.Receipt{receipt("a", 0, 1, 1), receipt("a", 0, 2, 9)}
	if got := Put(twice, receipt("a", 0, 3, 3)); got[0].Id != 3 || got[1].Id != 2 {
		t.Error("the first one is replaced", got)
	}
	if twice[0].Id != 1 {
		t.Error("the argument was changed")
	}
}

func TestPutInserts(t *testing.T) {
	l := []api.Receipt{receipt("b", 2, 0, 0), receipt("b", 5, 0, 0), receipt("d", 1, 0, 0)}
	for _, c := range []struct {
		user          string
		thread, place int
	}{{"a", 9, 0}, {"b", 0, 0}, {"b", 3, 1}, {"b", 9, 2}, {"c", 0, 2}, {"d", 0, 2}, {"d", 2, 3}, {"e", 0, 3}} {
		r := receipt(c.user, c.thread, 1, 1)
		if got := Put(l, r); len(got) != 4 || got[c.place] != r {
			t.Errorf("%s %d: %v", c.user, c.thread, got)
		}
	}
	disorder := []api.Receipt{receipt("z", 0, 0, 0), receipt("a", 0, 0, 0)}
	if got := Put(disorder, receipt("b", 0, 1, 1)); got[0].User != "b" {
		t.Error("a list in disorder", got)
	}
	if got := Put(nil, receipt("b", 0, 1, 1)); len(got) != 1 {
		t.Error("an empty list", got)
	}
}

func randomReceipts(source *rand.Rand) []api.Receipt {
	l := []api.Receipt{}
	for range source.Intn(6) {
		l = append(l, receipt([]string{"a", "b"}[source.Intn(2)], source.Intn(2), source.Intn(3), source.Intn(3)))
	}
	return l
}

func TestMerge(t *testing.T) {
	source := rand.New(rand.NewSource(1))
	for range 3000 {
		a, b, c := randomReceipts(source), randomReceipts(source), randomReceipts(source)
		got := Merge(a, b)
		for i := 1; i < len(got); i++ {
			if x, y := got[i-1], got[i]; x.User > y.User || x.User == y.User && x.Thread >= y.Thread {
				t.Fatal("not in order", got)
			}
		}
		for _, x := range slices.Concat(a, b) {
			r, ok := Get(got, x.User, x.Thread)
			if !ok || x.Time > r.Time || x.Time == r.Time && x.Id > r.Id || !slices.Contains(slices.Concat(a, b), r) {
				t.Fatal("not the newest", a, b, got)
			}
		}
		one := []api.Receipt{}
		for _, x := range slices.Concat(a, b) {
			one = Put(one, x)
		}
		if !slices.Equal(one, got) || !slices.Equal(Merge(b, a), got) || !slices.Equal(Merge(Merge(a, b), c), Merge(a, Merge(b, c))) {
			t.Fatal("the order matters", a, b, c)
		}
	}
	if len(Merge(nil, nil)) != 0 {
		t.Error("nothing")
	}
}

// chat has three messages of @ann:a.
func chat() (api.Room, []int) {
	s := sample.New("!r:a", "@ann:a", api.Public, api.Shared)
	s.Add("@bob:b", api.KMember, "@bob:b", api.Content{N: api.Join}, 0)
	messages := []int{}
	for _, text := range []string{"one", "two", "hi bob"} {
		messages = append(messages, s.Add("@ann:a", api.KMessage, "", api.Content{Text: text}, 0).Id)
	}
	return sample.InOrder(s), messages
}

func TestUnreadOfTheExample(t *testing.T) {
	r, m := chat()
	read := func(id int) []api.Receipt { return []api.Receipt{receipt("@bob:b", 0, id, 0)} }
	for i, c := range []struct {
		l    []api.Receipt
		user string
		want string
	}{
		{nil, "@bob:b", "3 1"}, {read(m[0]), "@bob:b", "2 1"}, {read(m[1]), "@bob:b", "1 1"}, {read(m[2]), "@bob:b", "0 0"}, {read(77), "@bob:b", "3 1"}, {read(r.Rows[0].Id), "@bob:b", "3 1"},
		{nil, "@ann:a", "0 0"}, {nil, "@eve:e", "0 0"}, {nil, "bob", "0 0"}, {[]api.Receipt{receipt("@bob:b", 5, m[2], 0)}, "@bob:b", "3 1"}, {[]api.Receipt{receipt("@cy:c", 0, m[2], 0)}, "@bob:b", "3 1"},
	} {
		if got := fmt.Sprint(Unread(r, c.l, c.user), Mentions(r, c.l, c.user)); got != c.want {
			t.Errorf("%d: %s, want %s", i, got, c.want)
		}
	}
	r.Rows[len(r.Rows)-2].Gone = true
	if got := fmt.Sprint(Unread(r, nil, "@bob:b"), Mentions(r, nil, "@bob:b")); got != "2 1" {
		t.Error("a row that is gone", got)
	}
	if Unread(api.Room{}, nil, "@bob:b") != 0 || Unread(api.Room{Rows: []api.Row{{Id: 1, Status: api.Accepted}}}, read(1), "@bob:b") != 0 {
		t.Error("other rooms")
	}
}

func TestRedactedAndOtherKindsDoNotCount(t *testing.T) {
	s := sample.New("!r:a", "@ann:a", api.Public, api.World)
	message := s.Add("@ann:a", api.KMessage, "", api.Content{Text: "b"}, 0)
	s.Add("@ann:a", api.KReact, "", api.Content{Text: "b", Target: message.Id}, 0)
	s.Add("@ann:a", api.KEdit, "", api.Content{Text: "b", Target: message.Id}, 0)
	s.Add("@ann:a", api.KName, "", api.Content{Text: "b"}, 0)
	if r := sample.InOrder(s); Unread(r, nil, "@b:x") != 1 || Mentions(r, nil, "@b:x") != 1 {
		t.Error("other kinds", Unread(r, nil, "@b:x"))
	}
	s.Add("@ann:a", api.KRedact, "", api.Content{Target: message.Id, Text: "b"}, 0)
	if r := sample.InOrder(s); Unread(r, nil, "@b:x") != 0 || Mentions(r, nil, "@b:x") != 0 {
		t.Error("a redacted message", Unread(r, nil, "@b:x"))
	}
}

func TestCountsFollowTheDefinition(t *testing.T) {
	source := rand.New(rand.NewSource(2))
	total := 0
	for range 20 {
		s := sample.Random(source.Intn, 25)
		r := sample.Received(s, source.Intn)
		for i := range r.Rows {
			r.Rows[i].Gone = source.Intn(8) == 0
		}
		user := sample.Users()[source.Intn(3)]
		last := -1
		counts := []int{}
		rows, gone := visible.Rows(r, user), redact.Gone(r.Events)
		for place := -1; place < len(r.Rows); place++ {
			l := []api.Receipt{}
			if place >= 0 {
				l = append(l, receipt(user, 0, r.Rows[place].Id, 0))
			}
			want, mentions := 0, 0
			for i, row := range r.Rows {
				e, _ := store.Get(r.Events, row.Id)
				if i > place && slices.Contains(rows, row.Id) && !row.Gone && !num.Has(gone, row.Id) && e.Kind == api.KMessage && e.Sender != user {
					want++
					if strings.Contains(e.Content.Text, ids.LocalOf(user)) {
						mentions++
					}
				}
			}
			got := Unread(r, l, user)
			if got != want || Mentions(r, l, user) != mentions || mentions > want {
				t.Fatal("Unread or Mentions", user, place, got, want)
			}
			if last >= 0 && got > last {
				t.Fatal("Unread grows")
			}
			last = got
			counts = append(counts, got)
		}
		total += counts[0]
		if last != 0 {
			t.Fatal("something is unread behind the last row")
		}
	}
	if total == 0 {
		t.Error("nothing was unread")
	}
}
