package gaps_test

import (
	"fmt"
	"math/rand"
	"slices"
	"testing"

	"fedchat/api"
	"fedchat/clone"
	"fedchat/event"
	. "fedchat/gaps"
	"fedchat/graph"
	"fedchat/num"
	"fedchat/outgoing"
	"fedchat/room"
	"fedchat/sample"
	"fedchat/statemap"
	"fedchat/store"
)

// example has the events of the chapter's examples.
func example() api.Room {
	return api.Room{Events: []api.Event{{Id: 1}, {Id: 2, Prev: []int{1}, Auth: []int{1}}, {Id: 3, Prev: []int{2}, Auth: []int{1}}, {Id: 4, Prev: []int{3}, Auth: []int{1, 2}}}}
}

func TestExamples(t *testing.T) {
	r := example()
	for _, c := range []struct {
		ids, have []int
		limit     int
		want      string
	}{
		{[]int{4}, nil, 10, "[4 1 2 3]"}, {[]int{4}, []int{2}, 10, "[4 3]"}, {[]int{4}, nil, 2, "[4 1]"}, {[]int{9}, nil, 10, "[]"},
		{[]int{4, 3, 4}, nil, 10, "[3 4 1 2]"}, {[]int{4}, []int{9}, 10, "[4 1 2 3]"}, {[]int{4}, []int{4}, 10, "[]"}, {nil, nil, 10, "[]"}, {[]int{4}, nil, 0, "[]"}, {[]int{4}, nil, -5, "[]"}, {[]int{2, 4}, []int{3}, 10, "[4]"},
	} {
		if got := fmt.Sprint(store.Ids(Answer(r, "a", c.ids, c.have, c.limit))); got != c.want {
			t.Errorf("Answer for %v, %v, %d: %s", c.ids, c.have, c.limit, got)
		}
	}
}

func TestCyclesAndRepeatedEvents(t *testing.T) {
	r := api.Room{Events: []api.Event{{Id: 1, Prev: []int{2}}, {Id: 2, Auth: []int{1, 5}}, {Id: 1, Prev: []int{3}}, {Id: 3}}}
	if got := fmt.Sprint(store.Ids(Answer(r, "a", []int{1}, nil, 100))); got != "[1 2]" {
		t.Error(got)
	}
}

func TestLimits(t *testing.T) {
	s := sample.New("!r:a", "@ann:a", api.Public, api.Shared)
	last := 0
	for i := range 110 {
		last = s.Add("@ann:a", api.KMessage, "", api.Content{Text: fmt.Sprint(i)}, 0).Id
	}
	r := sample.InOrder(s)
	if len(r.Events) != 114 || len(Answer(r, "a", []int{last}, nil, 1000)) != api.MaxPage || len(Answer(r, "a", []int{last}, nil, 57)) != 57 {
		t.Error("the limit of an answer")
	}
	missing := api.Room{}
	for i := range 120 {
		missing.Waiting = append(missing.Waiting, api.Event{Id: 1000 + i, Prev: []int{500 - i}})
	}
	if got := Ask(missing); len(got) != api.MaxPage || got[0] != 381 || got[99] != 480 {
		t.Error("the limit of a request", got)
	}
	if len(Ask(r)) != 0 || len(Ask(api.Room{})) != 0 {
		t.Error("nothing is missing")
	}
}

// behindAsWritten returns what lies behind some ids.
func behindAsWritten(l []api.Event, ids []int) []int {
	known := num.Minus(ids, store.Missing(l, ids))
	for {
		next := num.Union(known, store.Refs(store.Of(l, known)))
		next = num.Minus(next, store.Missing(l, next))
		if len(next) == len(known) {
			return known
		}
		known = next
	}
}

func answerAsWritten(r api.Room, server string, ids, have []int, limit int) []api.Event {
	l := r.Events
	behind := behindAsWritten(l, have)
	level := num.Minus(num.Minus(ids, store.Missing(l, ids)), behind)
	all := []int{}
	for len(level) > 0 {
		all = append(all, level...)
		refs := store.Refs(store.Of(l, level))
		level = num.Minus(num.Minus(num.Minus(refs, store.Missing(l, refs)), behind), all)
	}
	answer := []api.Event{}
	for _, id := range all[:min(len(all), max(0, min(limit, api.MaxPage)))] {
		e, _ := store.Get(l, id)
		answer = append(answer, outgoing.Event(r, e, server))
	}
	return answer
}

func TestFollowsTheDefinition(t *testing.T) {
	source := rand.New(rand.NewSource(1))
	for range 20 {
		s := sample.Random(source.Intn, 25)
		r := sample.Received(s, source.Intn)
		pick := func() []int {
			ids := []int{5}
			for range source.Intn(4) {
				ids = append(ids, r.Events[source.Intn(len(r.Events))].Id)
			}
			return ids
		}
		ids, have, limit, server := pick(), pick(), source.Intn(25), []string{"a", "b", "evil"}[source.Intn(3)]
		got := Answer(r, server, ids, have, limit)
		if want := answerAsWritten(r, server, ids, have, limit); !store.Same(got, want) {
			t.Fatal("Answer", ids, have, limit, store.Ids(got), store.Ids(want))
		}
		if len(got) > limit || len(num.Sorted(store.Ids(got))) != len(got) {
			t.Fatal("too many, or an id twice")
		}
	}
}

func TestFillAndAsk(t *testing.T) {
	source := rand.New(rand.NewSource(2))
	for range 20 {
		s := sample.Random(source.Intn, 20)
		r := sample.Received(s, source.Intn)
		empty, _ := room.New(r.Id)
		answer := Answer(r, "b", store.Ids(r.Events), nil, api.MaxPage)
		part := answer[:source.Intn(len(answer))]
		half, n := Fill(empty, part)
		if n != len(half.Events) || room.Check(half) != api.OK || !slices.Equal(Ask(half), room.Missing(half)) {
			t.Fatal("Fill of a part", n)
		}
		full, more := Fill(half, answer)
		if n+more != len(r.Events) || !slices.Equal(store.Ids(full.Events), store.Ids(r.Events)) || len(full.Waiting)+len(Ask(full)) != 0 || !statemap.Same(full.State, r.State) {
			t.Fatal("Fill", n, more, len(full.Events))
		}
		if again, n := Fill(full, answer); n != 0 || !room.Same(again, full) {
			t.Fatal("Fill again")
		}
	}
}

func TestFillPassesOverWrongEvents(t *testing.T) {
	s := sample.New("!r:a", "@ann:a", api.Public, api.Shared)
	l := store.Of(s.Events, graph.Order(s.Events))
	wrong := event.Strip(l[1])
	wrong.Time++
	empty, _ := room.New("!r:a")
	r, n := Fill(empty, []api.Event{l[0], wrong, {}, l[1]})
	if n != 2 || len(r.Events) != 2 {
		t.Error("Fill", n)
	}
	same, n := Fill(r, nil)
	if n != 0 || !room.Same(same, r) {
		t.Error("Fill of nothing", n)
	}
	old := clone.Room(r)
	same.Events[0].Time, same.Rows[0].Pos = 99, 99
	if !room.Same(old, r) {
		t.Error("the result shares memory with the argument")
	}
}
