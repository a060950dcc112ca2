package search_test

import (
	"fmt"
	"math"
	"math/rand"
	"slices"
	"strings"
	"testing"

	"fedchat/api"
	"fedchat/ids"
	"fedchat/num"
	"fedchat/redact"
	"fedchat/relate"
	"fedchat/room"
	"fedchat/sample"
	. "fedchat/search"
	"fedchat/store"
	"fedchat/timeline"
	"fedchat/visible"
)

func TestWordsAndScore(t *testing.T) {
	for s, want := range map[string]string{"Hi, hi Bob-2!": "[2 bob hi]", "": "[]", " ,;": "[]", "a": "[a]", "azAZ09": "[azaz09]", "b a b": "[a b]", "äbcö": "[bc]", "x\xffy\x80z": "[x y z]", "\xe2a": "[a]", "x_y@z": "[x y z]", "\u212a": "[]", "a\u0130b": "[a b]", "Ａ": "[]"} {
		if got := fmt.Sprint(Words(s)); got != want {
			t.Errorf("Words(%q) is %s", s, got)
		}
	}
	for _, c := range []struct {
		s, query string
		want     int
	}{{"Hi, hi Bob-2!", "bob ann", 1}, {"a b c", "c B a c", 3}, {"a", "", 0}, {"", "a", 0}, {"ab", "a b", 0}} {
		if got := Score(c.s, c.query); got != c.want {
			t.Errorf("Score(%q, %q) is %d", c.s, c.query, got)
		}
	}
}

func TestWordsOfTwoTexts(t *testing.T) {
	source := rand.New(rand.NewSource(1))
	text := func() string {
		s := ""
		for range source.Intn(8) {
			s += []string{"a", "B", " ", "1", ".", "\xff", "é"}[source.Intn(7)]
		}
		return s
	}
	for range 3000 {
		a, b := text(), text()
		both := ids.Names(slices.Concat(Words(a), Words(b)))
		if !slices.Equal(Words(a+" "+b), both) || !slices.Equal(Words(strings.ToUpper(b)+" "+a), both) {
			t.Fatalf("%q and %q", a, b)
		}
		slow := []string{}
		for _, w := range strings.FieldsFunc(strings.ToLower(strings.ReplaceAll(a, "\xff", " ")), func(c rune) bool { return !(c >= 'a' && c <= 'z' || c >= '0' && c <= '9') }) {
			slow = append(slow, w)
		}
		if !slices.Equal(Words(a), ids.Names(slow)) {
			t.Fatalf("the words of %q", a)
		}
	}
}

func TestIndex(t *testing.T) {
	message := func(text string) api.Event {
		return api.Event{Kind: api.KMessage, Content: api.Content{Text: text}}
	}
	if got := fmt.Sprint(Index([]api.Event{message("a b"), message("b"), message("B b"), {Kind: api.KEdit, Content: api.Content{Text: "c"}}})); got != "[{a 1} {b 3}]" {
		t.Error(got)
	}
	if len(Index(nil)) != 0 {
		t.Error("nothing")
	}
}

func TestFind(t *testing.T) {
	s := sample.New("!r:a", "@ann:a", api.Public, api.Shared)
	first := s.Add("@ann:a", api.KMessage, "", api.Content{Text: "one two"}, 0)
	second := s.Add("@ann:a", api.KMessage, "", api.Content{Text: "Two three"}, 0)
	s.Add("@ann:a", api.KName, "", api.Content{Text: "two"}, 0)
	r := sample.InOrder(s)
	for _, c := range []struct {
		user, query string
		limit       int
		want        []int
	}{
		{"@ann:a", "two", 9, []int{second.Id, first.Id}}, {"@ann:a", "TWO one", 9, []int{first.Id}}, {"@ann:a", "two", 1, []int{second.Id}}, {"@ann:a", "two", 0, nil}, {"@ann:a", "two", math.MinInt, nil}, {"@ann:a", "", 9, nil}, {"@ann:a", "...", 9, nil}, {"@ann:a", "tw", 9, nil}, {"@eve:e", "two", 9, nil},
	} {
		if got := Find(r, c.user, c.query, c.limit); !slices.Equal(got, c.want) {
			t.Errorf("Find of %q with %d: %v", c.query, c.limit, got)
		}
	}
	edit := s.Add("@ann:a", api.KEdit, "", api.Content{Text: "four", Target: first.Id}, 1)
	r = sample.InOrder(s)
	if len(Find(r, "@ann:a", "one", 9)) != 0 || !slices.Equal(Find(r, "@ann:a", "four", 9), []int{first.Id}) {
		t.Error("an edited message")
	}
	s.Add("@ann:a", api.KRedact, "", api.Content{Target: edit.Id}, 2)
	r = sample.InOrder(s)
	if !slices.Equal(Find(r, "@ann:a", "one", 9), []int{first.Id}) || len(Find(r, "@ann:a", "four", 9)) != 0 {
		t.Error("a redacted edit")
	}
	s.Add("@ann:a", api.KRedact, "", api.Content{Target: first.Id}, 2)
	r = sample.InOrder(s)
	if len(Find(r, "@ann:a", "one", 9)) != 0 {
		t.Error("a redacted message")
	}
	for i, row := range r.Rows {
		r.Rows[i].Gone = row.Id == second.Id
	}
	if len(Find(r, "@ann:a", "two", 9)) != 0 || len(Find(api.Room{}, "@ann:a", "two", 9)) != 0 {
		t.Error("a row that is gone")
	}
}

func TestFollowsTheDefinition(t *testing.T) {
	source := rand.New(rand.NewSource(2))
	total := 0
	for range 15 {
		r := sample.Received(sample.Random(source.Intn, 28), source.Intn)
		for i := range r.Rows {
			r.Rows[i].Gone = source.Intn(9) == 0
		}
		gone := redact.Gone(r.Events)
		for _, user := range sample.Users()[:3] {
			list := []api.Event{}
			for _, id := range timeline.After(r, user, 0) {
				if e, _ := store.Get(r.Events, id); !num.Has(gone, id) {
					list = append(list, timeline.Shown(r, e))
				}
			}
			for _, query := range []string{"hi", "two words", "bob HI", "+", "zzz"} {
				want := []int{}
				for _, e := range list {
					text, err := relate.Show(list, e.Id)
					if w := Words(query); err == api.OK && len(w) > 0 && Score(text, query) == len(w) {
						want = append([]int{e.Id}, want...)
					}
				}
				got := Find(r, user, query, 100)
				if !slices.Equal(got, want) {
					t.Fatal("Find", user, query, got, want)
				}
				n := source.Intn(4)
				if part := Find(r, user, query, n); !slices.Equal(part, want[:min(n, len(want))]) {
					t.Fatal("a smaller limit", part)
				}
				if more := Find(r, user, query+" words", 100); len(Words(query)) > 0 && len(num.Minus(more, got)) > 0 {
					t.Fatal("a query with more words", more)
				}
				for _, id := range got {
					if row, _ := room.Row(r, id); visible.May(r, id, user) != api.OK || row.Gone || num.Has(gone, id) {
						t.Fatal("a hidden message", id)
					}
				}
				total += len(got)
			}
		}
	}
	if total == 0 {
		t.Error("nothing was found")
	}
}
