package view_test

import (
	"fmt"
	"math"
	"math/rand"
	"slices"
	"testing"

	"fedchat/api"
	"fedchat/clone"
	"fedchat/event"
	"fedchat/room"
	"fedchat/sample"
	"fedchat/store"
	"fedchat/sync"
	"fedchat/timeline"
	. "fedchat/view"
)

func events(ids ...int) []api.Event {
	l := []api.Event{}
	for _, id := range ids {
		l = append(l, api.Event{Id: id, Kind: api.KMessage, Content: api.Content{Text: fmt.Sprint(id)}, Prev: []int{id}})
	}
	return l
}

func state(k api.Kind, key string, id int) api.Event {
	return api.Event{Id: id, Kind: k, State: true, Key: key, Content: api.Content{Text: "text"}}
}

func text(v api.View) string {
	return fmt.Sprint(Ids(v), v.Gaps)
}

func same(a, b any) bool {
	return fmt.Sprint(a) == fmt.Sprint(b)
}

func TestExample(t *testing.T) {
	v := Apply(api.View{}, api.Part{Room: "!r:a", Member: api.Join, Timeline: events(1, 2)})
	v = Apply(v, api.Part{Room: "!r:a", Member: api.Join, Timeline: events(8, 9), Limited: true, Back: 7})
	if text(v) != "[1 2 8 9] [{2 7}]" || Whole(v) || v.Member != api.Join {
		t.Error("a limited part", text(v))
	}
	v, err := Fill(v, 0, events(5, 6, 7), 4, true)
	if text(v) != "[1 2 5 6 7 8 9] [{2 4}]" || err != api.OK {
		t.Error("a page", text(v), err)
	}
	v, err = Fill(v, 0, events(2, 3, 4), 1, true)
	if text(v) != "[1 2 3 4 5 6 7 8 9] []" || err != api.OK || !Whole(v) {
		t.Error("the last page", text(v), err)
	}
	v = Apply(v, api.Part{Room: "!r:a", Gone: []int{5}})
	if v.Events[4].Content.Text != "" || v.Events[3].Content.Text != "4" || v.Member != 0 {
		t.Error("a redaction", v.Events[4])
	}
}

func TestCheck(t *testing.T) {
	for name, c := range map[string]struct {
		v    api.View
		want api.Errno
	}{
		"nothing":           {api.View{}, api.OK},
		"right":             {api.View{Events: events(5, 1, 7), Gaps: []api.Gap{{Before: 0, Back: -9}, {Before: 2, Back: 5}}, State: []api.Event{state(1, "", 1), state(2, "a", 1), state(2, "b", 1)}}, api.OK},
		"twice":             {api.View{Events: events(5, 1, 5), Gaps: []api.Gap{{Before: 9}}}, api.ErrTwice},
		"before":            {api.View{Events: events(5), Gaps: []api.Gap{{Before: 1}}}, api.ErrRange},
		"negative":          {api.View{Events: events(5), Gaps: []api.Gap{{Before: -1}}}, api.ErrRange},
		"range first":       {api.View{Events: events(5, 6), Gaps: []api.Gap{{Before: 1}, {Before: 0}, {Before: 2}}}, api.ErrRange},
		"gaps in disorder":  {api.View{Events: events(5, 6), Gaps: []api.Gap{{Before: 1}, {Before: 0}}}, api.ErrOrder},
		"a gap twice":       {api.View{Events: events(5, 6), Gaps: []api.Gap{{Before: 1}, {Before: 1}}}, api.ErrOrder},
		"kinds in disorder": {api.View{State: []api.Event{state(2, "a", 1), state(1, "b", 1)}}, api.ErrOrder},
		"keys in disorder":  {api.View{State: []api.Event{state(2, "b", 1), state(2, "a", 1)}}, api.ErrOrder},
		"a key twice":       {api.View{State: []api.Event{state(2, "b", 1), state(2, "b", 2)}}, api.ErrOrder},
	} {
		if got := Check(c.v); got != c.want {
			t.Errorf("%s: %d, want %d", name, got, c.want)
		}
	}
}

func TestApplyTimelines(t *testing.T) {
	base := func() api.View {
		return api.View{Room: "!r:a", Events: events(1, 2, 3), Gaps: []api.Gap{{Before: 1, Back: 5}}, State: []api.Event{state(2, "a", 1)}}
	}
	for name, c := range map[string]struct {
		p    api.Part
		want string
	}{
		"new":                   {api.Part{Timeline: events(7, 3, 7, 8)}, "[1 2 3 7 8] [{1 5}]"},
		"limited":               {api.Part{Timeline: events(7, 8), Limited: true, Back: 6}, "[1 2 3 7 8] [{1 5} {3 6}]"},
		"limited, but known":    {api.Part{Timeline: events(3, 7), Limited: true, Back: 6}, "[1 2 3 7] [{1 5}]"},
		"limited and all known": {api.Part{Timeline: events(3), Limited: true, Back: 6}, "[1 2 3] [{1 5}]"},
		"limited and empty":     {api.Part{Limited: true, Back: 6}, "[1 2 3] [{1 5}]"},
		"anew":                  {api.Part{Anew: true, Timeline: events(2, 9)}, "[2 9] []"},
		"anew and limited":      {api.Part{Anew: true, Timeline: events(2, 9), Limited: true, Back: 4}, "[2 9] [{0 4}]"},
	} {
		c.p.Room = "!r:a"
		if got := Apply(base(), c.p); text(got) != c.want || c.p.Anew != (len(got.State) == 0) {
			t.Errorf("%s: %s", name, text(got))
		}
	}
	other := Apply(base(), api.Part{Room: "!s:a", Anew: true, Timeline: events(7), Member: 3})
	if !same(other, base()) {
		t.Error("a part of another room", other)
	}
	if v := Apply(api.View{Events: events(4)}, api.Part{Room: "!s:a", Member: 2}); v.Room != "!s:a" || v.Member != 2 || len(v.Events) != 1 {
		t.Error("a view without a room", v)
	}
}

func TestApplyStates(t *testing.T) {
	v := api.View{Room: "r", State: []api.Event{state(2, "b", 1), state(4, "", 2)}, Events: events(2, 50)}
	v = Apply(v, api.Part{Room: "r", State: []api.Event{state(4, "", 9), state(2, "c", 3), state(1, "", 4), state(9, "z", 5), state(2, "c", 6)}, Gone: []int{9, 50}})
	got := []string{}
	for _, e := range v.State {
		got = append(got, fmt.Sprint(int(e.Kind), e.Key, e.Id, len(e.Content.Text)))
	}
	if s := fmt.Sprint(got); s != "[14 4 2b1 4 2c6 4 49 0 9z5 4]" || v.Events[1].Content.Text != "" || v.Events[0].Content.Text != "2" || Check(v) != api.OK {
		t.Error(s, v.Events)
	}
	odd := Apply(api.View{State: []api.Event{state(4, "", 1), state(2, "b", 2)}}, api.Part{State: []api.Event{state(3, "", 3), state(2, "b", 4)}})
	if odd.State[0].Id != 3 || odd.State[2].Id != 4 {
		t.Error("a state in disorder", odd.State)
	}
}

func TestFill(t *testing.T) {
	base := func() api.View {
		return api.View{Events: events(1, 2, 8, 9), Gaps: []api.Gap{{Before: 2, Back: 7}, {Before: 3, Back: 8}}}
	}
	for name, c := range map[string]struct {
		i, back int
		l       []api.Event
		more    bool
		want    string
	}{
		"more":             {0, 4, events(6, 7), true, "[1 2 6 7 8 9] [{2 4} {5 8}]"},
		"no more":          {0, 4, events(6, 7), false, "[1 2 6 7 8 9] [{5 8}]"},
		"known":            {0, 4, events(5, 2, 6, 6), true, "[1 2 6 8 9] [{4 8}]"},
		"the last known":   {0, 4, events(5, 8), true, "[1 2 8 9] [{3 8}]"},
		"the later gap":    {1, 4, events(5, 6), true, "[1 2 8 5 6 9] [{2 7} {3 4}]"},
		"the later filled": {1, 4, events(5, 6), false, "[1 2 8 5 6 9] [{2 7}]"},
		"nothing":          {0, 3, nil, true, "[1 2 8 9] [{2 3} {3 8}]"},
		"nothing left":     {0, 3, nil, false, "[1 2 8 9] [{3 8}]"},
	} {
		got, err := Fill(base(), c.i, c.l, c.back, c.more)
		if text(got) != c.want || err != api.OK || Check(got) != api.OK {
			t.Errorf("%s: %s, %d", name, text(got), err)
		}
	}
	for _, i := range []int{-1, 2, math.MaxInt, math.MinInt} {
		if got, err := Fill(base(), i, events(5), 1, true); err != api.ErrRange || !same(got, api.View{}) {
			t.Error("no gap", i, err)
		}
	}
	wrong := api.View{Events: events(1), Gaps: []api.Gap{{Before: 99}, {Before: -5}}}
	for i := range 2 {
		if got, err := Fill(wrong, i, events(7), 0, true); err != api.OK || len(got.Events) != 2 {
			t.Error("a view that is not right", got, err)
		}
	}
}

func TestRedactedAndWhole(t *testing.T) {
	v := api.View{Room: "r", Events: events(1, 2), State: []api.Event{state(7, "", 2), state(8, "", 3)}}
	got := Redacted(v, 2)
	want := clone.View(v)
	want.Events[1], want.State[0] = event.Strip(v.Events[1]), event.Strip(v.State[0])
	if !same(got, want) || v.Events[1].Content.Text != "2" {
		t.Error("Redacted", got)
	}
	if !same(Redacted(v, 99), v) || !Whole(v) || Whole(api.View{Gaps: []api.Gap{{}}}) || !slices.Equal(Ids(v), []int{1, 2}) || len(Ids(api.View{})) != 0 {
		t.Error("Whole or Ids")
	}
}

func randomPart(source *rand.Rand) api.Part {
	p := api.Part{Room: []string{"r", "r", "s"}[source.Intn(3)], Member: source.Intn(5), Limited: source.Intn(2) == 0, Back: source.Intn(9), Anew: source.Intn(6) == 0}
	for range source.Intn(4) {
		p.Timeline = append(p.Timeline, events(source.Intn(25))...)
		p.State = append(p.State, state(api.Kind(source.Intn(3)), []string{"", "a"}[source.Intn(2)], source.Intn(25)))
		p.Gone = append(p.Gone, source.Intn(25))
	}
	return p
}

func TestNothingIsLost(t *testing.T) {
	source := rand.New(rand.NewSource(1))
	for range 300 {
		v := api.View{}
		for range 15 {
			old := clone.View(v)
			p := randomPart(source)
			next := Apply(v, p)
			if Check(next) != api.OK {
				t.Fatal("no right view", next)
			}
			if again := Apply(next, p); !same(again, next) && !p.Anew {
				t.Fatal("the same part twice", p, next, again)
			}
			kept := slices.DeleteFunc(Ids(next), func(id int) bool { return !slices.Contains(Ids(v), id) })
			if !p.Anew && !slices.Equal(kept, Ids(v)) {
				t.Fatal("something is lost", v, next)
			}
			if len(next.Gaps) > 0 {
				i := source.Intn(len(next.Gaps))
				filled, err := Fill(next, i, randomPart(source).Timeline, source.Intn(9), source.Intn(2) == 0)
				kept := slices.DeleteFunc(Ids(filled), func(id int) bool { return !slices.Contains(Ids(next), id) })
				if err != api.OK || Check(filled) != api.OK || !slices.Equal(kept, Ids(next)) {
					t.Fatal("Fill", next, filled)
				}
				next = filled
			}
			for i := range next.Events {
				next.Events[i].Prev = []int{next.Events[i].Id}
			}
			if !same(old, v) {
				t.Fatal("the argument was changed")
			}
			v = next
		}
	}
}

// TestConvergence lets a client follow a room by syncs with few events, and fill its gaps.
func TestConvergence(t *testing.T) {
	source := rand.New(rand.NewSource(2))
	gaps := 0
	for range 25 {
		whole := sample.Received(sample.Random(source.Intn, 30), source.Intn)
		r, _ := room.New(whole.Id)
		v, p := api.View{}, api.Place{}
		for _, row := range whole.Rows {
			e, _ := store.Get(whole.Events, row.Id)
			r, _, _ = room.Receive(r, e)
			if source.Intn(5) > 0 {
				continue
			}
			part, next := sync.Part(r, "@ann:a", p, api.Filter{Limit: 1 + source.Intn(4)})
			v, p = Apply(v, part), next
		}
		part, _ := sync.Part(r, "@ann:a", p, api.Filter{Limit: 2})
		if part.Member != api.Join {
			continue
		}
		v = Apply(v, part)
		for !Whole(v) {
			gaps++
			i := source.Intn(len(v.Gaps))
			l, pos, more := timeline.Before(r, "@ann:a", v.Gaps[i].Back, 1+source.Intn(5))
			v, _ = Fill(v, i, l, pos, more)
		}
		if want := timeline.After(r, "@ann:a", 0); !slices.Equal(Ids(v), want) {
			t.Fatal("the view is not the timeline", Ids(v), want)
		}
	}
	if gaps == 0 {
		t.Error("there were no gaps")
	}
}
