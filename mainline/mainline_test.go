package mainline_test

import (
	"math/rand"
	"slices"
	"testing"

	"fedchat/api"
	. "fedchat/mainline"
	"fedchat/num"
)

func power(id int, auth ...int) api.Event {
	return api.Event{Id: id, Kind: api.KPower, Auth: auth}
}

func message(id, time int, auth ...int) api.Event {
	return api.Event{Id: id, Kind: api.KMessage, Time: time, Auth: auth}
}

func example() []api.Event {
	return []api.Event{power(10), power(20, 10), power(30, 10, 20), message(40, 5, 20), message(50, 1, 30), message(60, 0)}
}

func same(t *testing.T, name string, got []int, want ...int) {
	t.Helper()
	if !slices.Equal(got, want) {
		t.Errorf("%s is %v, want %v", name, got, want)
	}
}

func TestExamples(t *testing.T) {
	l := example()
	same(t, "Of 30", Of(l, 30), 30, 10)
	same(t, "Of 20", Of(l, 20), 20, 10)
	same(t, "Of 99", Of(l, 99))
	same(t, "Of a message", Of(l, 40), 40, 20, 10)
	main := []int{30, 10}
	for id, want := range map[int]int{40: 1, 60: 2, 30: 0, 10: 1, 20: 1, 50: 0, 99: 2} {
		if got := Closest(l, main, id); got != want {
			t.Errorf("Closest of %d is %d", id, got)
		}
	}
	same(t, "Order", Order(l, main, []int{40, 50, 60}), 60, 40, 50)
	same(t, "Order of repeated and unknown ids", Order(l, main, []int{50, 99, 60, 50, 40}), 60, 40, 50)
	same(t, "Order of nothing", Order(l, main, nil))
}

func TestFirstKnownPowerCounts(t *testing.T) {
	l := []api.Event{message(1, 0, 99, 2, 4, 3), message(2, 0, 3), power(3), power(4, 4), message(4, 0)}
	same(t, "Of 1", Of(l, 1), 1, 4)
	if got := Closest(l, []int{3, 4, 3}, 2); got != 0 {
		t.Error("the least index", got)
	}
	if got := Closest(l, nil, 1); got != 0 {
		t.Error("an empty mainline", got)
	}
}

func TestCycles(t *testing.T) {
	l := []api.Event{power(1, 2), power(2, 3), power(3, 1), power(4, 4), power(5, 1)}
	same(t, "Of 1", Of(l, 1), 1, 2, 3)
	same(t, "Of 4", Of(l, 4), 4)
	same(t, "Of 5", Of(l, 5), 5, 1, 2, 3)
	if got := Closest(l, []int{7, 8}, 5); got != 2 {
		t.Error("a cycle beside the mainline", got)
	}
}

func TestTimesAndIds(t *testing.T) {
	l := []api.Event{message(5, 2), message(4, 2), message(3, 9), message(9, -1), power(1), message(2, -5, 1)}
	same(t, "Order", Order(l, []int{1}, []int{2, 3, 4, 5, 9}), 9, 4, 5, 3, 2)
}

// wayAsWritten follows the definition.
func wayAsWritten(l []api.Event, id int) []int {
	find := func(id int) int {
		return slices.IndexFunc(l, func(e api.Event) bool { return e.Id == id })
	}
	if find(id) < 0 {
		return nil
	}
	list := []int{id}
	for {
		next := slices.IndexFunc(l[find(list[len(list)-1])].Auth, func(id int) bool { return find(id) >= 0 && l[find(id)].Kind == api.KPower })
		if next < 0 || slices.Contains(list, l[find(list[len(list)-1])].Auth[next]) {
			return list
		}
		list = append(list, l[find(list[len(list)-1])].Auth[next])
	}
}

func TestFollowsTheDefinitions(t *testing.T) {
	source := rand.New(rand.NewSource(1))
	for range 5000 {
		l := []api.Event{}
		for range source.Intn(8) {
			e := message(source.Intn(7), source.Intn(2))
			if source.Intn(2) == 0 {
				e.Kind = api.KPower
			}
			for range source.Intn(3) {
				e.Auth = append(e.Auth, source.Intn(8))
			}
			l = append(l, e)
		}
		start := source.Intn(8)
		main := Of(l, start)
		if !slices.Equal(main, wayAsWritten(l, start)) {
			t.Fatal("Of", l, start, main)
		}
		for i, id := range main {
			if Closest(l, main, id) != i {
				t.Fatal("Closest of the mainline", l, main)
			}
		}
		if source.Intn(2) == 0 {
			main = source.Perm(5)
		}
		closest := map[int]int{}
		for id := range 9 {
			closest[id] = len(main)
			for _, step := range wayAsWritten(l, id) {
				if i := slices.Index(main, step); i >= 0 {
					closest[id] = i
					break
				}
			}
			if got := Closest(l, main, id); got != closest[id] {
				t.Fatal("Closest", l, main, id, got)
			}
		}
		ids := source.Perm(9)
		order := Order(l, main, ids)
		time := func(id int) int {
			return l[slices.IndexFunc(l, func(e api.Event) bool { return e.Id == id })].Time
		}
		for i := 1; i < len(order); i++ {
			a, b := order[i-1], order[i]
			if closest[a] < closest[b] || closest[a] == closest[b] && (time(a) > time(b) || time(a) == time(b) && a >= b) {
				t.Fatal("Order", l, main, order)
			}
		}
		if !slices.Equal(order, Order(l, main, num.Sorted(ids))) {
			t.Fatal("the order of the ids matters")
		}
		for id := range 9 {
			if slices.Contains(order, id) != slices.ContainsFunc(l, func(e api.Event) bool { return e.Id == id }) {
				t.Fatal("Order has other ids", l, order)
			}
		}
	}
}
