package store_test

import (
	"fmt"
	"math/rand"
	"slices"
	"testing"

	"fedchat/api"
	"fedchat/event"
	. "fedchat/store"
)

// signed is a message with a text, rightly signed.
func signed(room, text string) api.Event {
	return event.Sign(api.Event{Room: room, Sender: "@u:a", Kind: api.KMessage, Depth: 2, Prev: []int{1}, Auth: []int{1}, Content: api.Content{Text: text}}, "a")
}

func set(n int) []api.Event {
	l := []api.Event{}
	for i := range n {
		l = append(l, signed("!r:a", fmt.Sprint(i)))
	}
	slices.SortFunc(l, func(a, b api.Event) int { return a.Id - b.Id })
	return l
}

func withIds(ids ...int) []api.Event {
	l := []api.Event{}
	for i, id := range ids {
		l = append(l, api.Event{Id: id, Room: "!r:a", Time: i, Prev: []int{id - 1}})
	}
	return l
}

func TestCheck(t *testing.T) {
	good := set(3)
	bad := slices.Clone(good)
	bad[1].Time++
	other := append(slices.Clone(good), signed("!s:a", "x"))
	for name, c := range map[string]struct {
		l    []api.Event
		want api.Errno
	}{
		"nothing":           {nil, api.OK},
		"a set":             {good, api.OK},
		"too many":          {make([]api.Event, api.MaxEvents+1), api.ErrLong},
		"a wrong sum":       {bad, api.ErrSum},
		"the first error":   {[]api.Event{good[0], {}, bad[1]}, api.ErrArg},
		"another room":      {other, api.ErrRoom},
		"a wrong sum first": {append(slices.Clone(other), bad[1]), api.ErrSum},
		"another order":     {[]api.Event{good[1], good[0]}, api.ErrOrder},
		"twice":             {[]api.Event{good[0], good[0]}, api.ErrOrder},
		"room before order": {[]api.Event{good[1], good[0], signed("!s:a", "x")}, api.ErrRoom},
		"stripped":          {[]api.Event{event.Strip(good[0]), good[1]}, api.OK},
	} {
		if got := Check(c.l); got != c.want {
			t.Errorf("%s: %d, want %d", name, got, c.want)
		}
	}
	if Check(set(api.MaxEvents)) != api.OK {
		t.Error("the greatest set")
	}
}

func TestPutInserts(t *testing.T) {
	for _, c := range []struct {
		before []int
		id     int
		want   string
	}{{nil, 3, "[3]"}, {[]int{2, 5}, 3, "[2 3 5]"}, {[]int{2, 5}, 1, "[1 2 5]"}, {[]int{2, 5}, 9, "[2 5 9]"}, {[]int{7, 2, 9, 1}, 8, "[7 2 8 9 1]"}, {[]int{2, 2}, -4, "[-4 2 2]"}} {
		got, err := Put(withIds(c.before...), api.Event{Id: c.id, Room: "!r:a"})
		if fmt.Sprint(Ids(got)) != c.want || err != api.OK {
			t.Errorf("Put of %d into %v: %v", c.id, c.before, Ids(got))
		}
	}
}

func TestPutReplaces(t *testing.T) {
	whole := signed("!r:a", "x")
	stripped := event.Strip(whole)
	later := whole
	later.Time = 99
	for i, c := range []struct {
		old, e, want api.Event
	}{{stripped, whole, whole}, {whole, stripped, whole}, {whole, later, whole}, {stripped, stripped, stripped}, {stripped, later, later}, {whole, whole, whole}} {
		got, err := Put([]api.Event{c.old, c.old}, c.e)
		if err != api.OK || !Same(got, []api.Event{c.want, c.old}) {
			t.Errorf("%d: Put does not leave the right event", i)
		}
	}
}

func TestPutErrors(t *testing.T) {
	full := set(api.MaxEvents)
	if l, err := Put(full, signed("!r:a", "new")); err != api.ErrFull || len(l) != 0 {
		t.Error("a full set", err)
	}
	if l, err := Put(full, event.Strip(full[7])); err != api.OK || !Same(l, full) {
		t.Error("an event of a full set", err)
	}
	if l, err := Put(full, signed("!s:a", "new")); err != api.ErrRoom || len(l) != 0 {
		t.Error("another room", err)
	}
	mixed := []api.Event{signed("!r:a", "x"), signed("!s:a", "x")}
	if _, err := Put(mixed, signed("!r:a", "x")); err != api.ErrRoom {
		t.Error("an event of another room in the list", err)
	}
	if l, err := Put(set(api.MaxEvents-1), signed("!r:a", "new")); err != api.OK || len(l) != api.MaxEvents {
		t.Error("the last place", err)
	}
}

func TestGetOfAndCreate(t *testing.T) {
	l := withIds(5, 2, 5)
	if e, ok := Get(l, 5); !ok || e.Time != 0 {
		t.Error("Get", e, ok)
	}
	if e, ok := Get(l, 3); ok || !event.Same(e, api.Event{}) {
		t.Error("Get of an unknown id")
	}
	if got := fmt.Sprint(Ids(Of(l, []int{5, 4, 2, 5}))); got != "[5 2 5]" {
		t.Error("Of", got)
	}
	if found := Of(l, []int{2, 5}); found[0].Time != 1 || found[1].Time != 0 {
		t.Error("Of returns other events", found)
	}
	if len(Of(l, nil)) != 0 || len(Of(nil, []int{1})) != 0 {
		t.Error("Of nothing")
	}
	if e, ok := Create(l); ok || !event.Same(e, api.Event{}) {
		t.Error("Create without one")
	}
	l[1].Kind, l[2].Kind = api.KCreate, api.KCreate
	if e, ok := Create(l); !ok || e.Id != 2 {
		t.Error("Create", e, ok)
	}
}

func TestIdsMissingAndRefs(t *testing.T) {
	l := withIds(5, 2, 5)
	l[0].Auth = []int{9, -3}
	if got := fmt.Sprint(Ids(l), Missing(l, []int{5, 4, 4, 1}), Refs(l)); got != "[5 2 5] [1 4] [-3 1 4 9]" {
		t.Error(got)
	}
	if len(Ids(nil))+len(Missing(l, nil))+len(Refs(nil)) != 0 {
		t.Error("nothing")
	}
}

func TestSame(t *testing.T) {
	a, b := set(3), set(3)
	if !Same(a, b) || !Same(nil, []api.Event{}) || Same(a, a[:2]) || Same(a, []api.Event{a[1], a[0], a[2]}) {
		t.Error("Same")
	}
	b[2].Auth = nil
	if Same(a, b) {
		t.Error("one field differs")
	}
}

func TestPutOrderDoesNotMatter(t *testing.T) {
	source := rand.New(rand.NewSource(1))
	want := set(20)
	for range 50 {
		l := []api.Event{}
		for _, i := range source.Perm(len(want)) {
			for range 1 + source.Intn(2) {
				e := want[i]
				if source.Intn(3) == 0 {
					l, _ = Put(l, event.Strip(e))
				}
				l, _ = Put(l, e)
			}
		}
		if !Same(l, want) {
			t.Fatal("another set", Ids(l))
		}
		if Check(l) != api.OK {
			t.Fatal("no set")
		}
	}
}

func TestResultsAreNewMemory(t *testing.T) {
	l := set(3)
	e := signed("!r:a", "new")
	e.Prev = []int{1}
	put, _ := Put(l, e)
	again, _ := Put(l, l[0])
	got, _ := Get(l, l[0].Id)
	for _, events := range [][]api.Event{put, again, {got}, Of(l, Ids(l))} {
		for _, x := range events {
			x.Prev[0], x.Auth[0] = 99, 99
		}
	}
	if !Same(l, set(3)) || e.Prev[0] != 1 {
		t.Error("a result shares memory with an argument")
	}
}
