package retain_test

import (
	"fmt"
	"math/rand"
	"slices"
	"testing"

	"fedchat/api"
	"fedchat/clone"
	"fedchat/num"
	. "fedchat/retain"
	"fedchat/room"
	"fedchat/sample"
	"fedchat/store"
)

// chat returns a room in which @bob:b has sent one event of each kind of messages, and other events; its ids are those of the messages.
func chat(age int) (*sample.Room, []int) {
	s := sample.New("!r:a", "@ann:a", api.Public, api.Shared)
	if age >= 0 {
		s.Add("@ann:a", api.KRetain, "", api.Content{N: age}, 0)
	}
	s.Add("@bob:b", api.KMember, "@bob:b", api.Content{N: api.Join}, 300)
	ids := []int{}
	send := func(k api.Kind, c api.Content, time int) {
		ids = append(ids, s.Add("@bob:b", k, "", c, time).Id)
	}
	send(api.KMessage, api.Content{Text: "one"}, 399)
	send(api.KReact, api.Content{Text: "+", Target: ids[0]}, 400)
	send(api.KEdit, api.Content{Text: "two", Target: ids[0]}, 401)
	s.Add("@bob:b", api.KRedact, "", api.Content{Target: ids[0]}, 1)
	s.Add("@bob:b", api.KName, "", api.Content{Text: "n"}, 1)
	ids = append(ids, s.Add("@ann:a", api.KMessage, "", api.Content{Text: "three"}, 402).Id)
	return s, ids
}

func gone(r api.Room) []int {
	ids := []int{}
	for _, row := range r.Rows {
		if row.Gone {
			ids = append(ids, row.Id)
		}
	}
	return num.Sorted(ids)
}

func TestAge(t *testing.T) {
	for age, want := range map[int]int{-1: 0, 0: 0, 100: 100} {
		s, _ := chat(age)
		if got := Age(s.Events); got != want {
			t.Errorf("Age is %d, want %d", got, want)
		}
		if Age(s.Events[1:]) != 0 {
			t.Error("Age of no right set")
		}
	}
	s, _ := chat(100)
	s.Add("@eve:e", api.KRetain, "", api.Content{N: 5}, 0)
	if Age(s.Events) != 100 {
		t.Error("a rejected retention counts")
	}
	s.Add("@ann:a", api.KRetain, "", api.Content{N: 7}, 0)
	if Age(s.Events) != 7 || Age(nil) != 0 {
		t.Error("the last retention does not count")
	}
}

func TestExpired(t *testing.T) {
	s, ids := chat(100)
	r := sample.InOrder(s)
	for now, count := range map[int]int{-1: 0, 499: 0, 500: 1, 501: 2, 502: 3, 503: 4, api.MaxInt: 4} {
		want := num.Sorted(ids[:count])
		if got := Expired(r, now); !slices.Equal(got, want) {
			t.Errorf("Expired at %d: %v", now, got)
		}
		next := Expire(r, now)
		if !slices.Equal(gone(next), want) || room.Check(next) != api.OK {
			t.Errorf("Expire at %d: %v", now, gone(next))
		}
		for i := range next.Rows {
			next.Rows[i].Gone = false
		}
		if !room.Same(next, r) {
			t.Error("Expire changes something else")
		}
	}
	for _, age := range []int{-1, 0} {
		s, _ := chat(age)
		if r := sample.InOrder(s); len(Expired(r, api.MaxInt)) != 0 || !room.Same(Expire(r, api.MaxInt), r) {
			t.Error("something expires without a retention time", age)
		}
	}
	r.Events = r.Events[1:]
	if len(Expired(r, 1000)) != 0 {
		t.Error("something expires in a room without a right set")
	}
}

func TestErase(t *testing.T) {
	s, ids := chat(-1)
	r := sample.InOrder(s)
	next := Erase(r, "@bob:b")
	if !slices.Equal(gone(next), num.Sorted(ids[:3])) || room.Check(next) != api.OK {
		t.Error("Erase", gone(next))
	}
	if got := gone(Erase(r, "@ann:a")); !slices.Equal(got, ids[3:]) {
		t.Error("Erase of the creator", got)
	}
	if !room.Same(Erase(r, "@eve:e"), r) || !room.Same(Erase(api.Room{}, ""), api.Room{}) {
		t.Error("Erase of a stranger")
	}
	odd := api.Room{Events: []api.Event{{Id: 1, Sender: "u"}, {Id: 1, Sender: "u", Kind: api.KMessage}, {Id: 2, Sender: "u", Kind: api.KEdit}, {Id: 2}}, Rows: []api.Row{{Id: 1}, {Id: 2}, {Id: 3, Gone: true}, {Id: 2}}}
	if got := fmt.Sprint(Erase(odd, "u").Rows); got != "[{0 1 0 false} {0 2 0 true} {0 3 0 true} {0 2 0 true}]" {
		t.Error("the first event with an id counts", got)
	}
}

func TestLeft(t *testing.T) {
	r := api.Room{Rows: []api.Row{{Id: 5}, {Id: 3, Gone: true}, {Id: 5}, {Id: 1}}}
	if got := Left(r); !slices.Equal(got, []int{5, 5, 1}) || len(Left(api.Room{})) != 0 {
		t.Error(got)
	}
}

func TestConsequences(t *testing.T) {
	source := rand.New(rand.NewSource(1))
	count := 0
	for range 25 {
		s := sample.Random(source.Intn, 25)
		s.Add("@ann:a", api.KRetain, "", api.Content{N: 1 + source.Intn(10)}, 0)
		r := sample.Received(s, source.Intn)
		early, late := source.Intn(25), source.Intn(25)
		if early > late {
			early, late = late, early
		}
		user := sample.Users()[source.Intn(5)]
		first, second := Expired(r, early), Expired(r, late)
		count += len(first)
		if len(num.Minus(first, second)) > 0 {
			t.Fatal("what has expired comes back")
		}
		expired, erased := Expire(r, late), Erase(r, user)
		if !room.Same(Expire(expired, late), expired) || !room.Same(Erase(erased, user), erased) || !room.Same(Erase(expired, user), Expire(erased, late)) || !room.Same(Expire(Expire(r, early), late), expired) {
			t.Fatal("twice, or in another order")
		}
		both := Erase(expired, user)
		for _, id := range num.Minus(Left(r), Left(both)) {
			if e, _ := store.Get(r.Events, id); e.Kind != api.KMessage && e.Kind != api.KReact && e.Kind != api.KEdit {
				t.Fatal("another event is gone", e)
			}
		}
		if room.Check(both) != api.OK {
			t.Fatal("no room")
		}
	}
	if count == 0 {
		t.Error("nothing expired")
	}
}

func TestResultsAreNewMemory(t *testing.T) {
	s, _ := chat(100)
	r := sample.InOrder(s)
	old := clone.Room(r)
	for _, next := range []api.Room{Expire(r, 0), Expire(r, 1000), Erase(r, "@bob:b"), Erase(r, "")} {
		next.Rows[0].Pos, next.Heads[0], next.State[0].Id = 99, 99, 99
		next.Events[1].Content.Text = "x"
	}
	if !room.Same(r, old) {
		t.Error("a result shares memory with an argument")
	}
}
