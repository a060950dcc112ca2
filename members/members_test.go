package members_test

import (
	"fmt"
	"math"
	"math/rand"
	"slices"
	"testing"

	"fedchat/api"
	. "fedchat/members"
)

func member(user string, n int) api.Event {
	return api.Event{Kind: api.KMember, Key: user, Content: api.Content{N: n}}
}

func TestExamples(t *testing.T) {
	l := []api.Event{member("@b:y", api.Join), member("@a:x", api.Ban), member("@a:x", api.Join)}
	if got := fmt.Sprint(Of(l, "@a:x"), Of(l, "@b:y"), Of(l, "@c:z")); got != "4 3 0" {
		t.Error("Of", got)
	}
	if got := fmt.Sprint(With(l, api.Join), With(l, api.Ban), With(l, api.Leave), Servers(l)); got != "[@b:y] [@a:x] [] [y]" {
		t.Error("With and Servers", got)
	}
}

func TestOfAnyEvents(t *testing.T) {
	other := member("@a:x", api.Join)
	other.Kind = api.KName
	l := []api.Event{other, member("", 7), member("@a:x", -5), member("no user", api.Join), member("!r:z", api.Join), member("@q:z", api.Join), member("@p:z", api.Join)}
	if Of(l, "") != 7 || Of(l, "@a:x") != -5 || Of(nil, "@a:x") != api.Leave {
		t.Error("Of")
	}
	if got := fmt.Sprint(With(l, api.Join), With(l, 7), With(l, -5), With(l, api.Leave), Servers(l)); got != "[!r:z @p:z @q:z no user] [] [@a:x] [] [z]" {
		t.Error(got)
	}
	if len(With(nil, api.Leave))+len(Servers(nil)) != 0 {
		t.Error("nothing")
	}
}

func TestWithHasEveryUserOnce(t *testing.T) {
	source := rand.New(rand.NewSource(1))
	for range 2000 {
		l := []api.Event{}
		for range source.Intn(8) {
			l = append(l, member([]string{"@a:x", "@b:y", "@c:x"}[source.Intn(3)], source.Intn(5)))
		}
		servers := []string{}
		for m := api.Leave; m <= api.Ban; m++ {
			with := With(l, m)
			for _, user := range []string{"@a:x", "@b:y", "@c:x"} {
				has := slices.ContainsFunc(l, func(e api.Event) bool { return e.Key == user })
				if slices.Contains(with, user) != (has && Of(l, user) == m) {
					t.Fatal(l, m, with)
				}
				if has && m == api.Join && Of(l, user) == m && !slices.Contains(servers, user[3:]) {
					servers = append(servers, user[3:])
				}
			}
			if !slices.IsSorted(with) || len(slices.Compact(with)) != len(with) {
				t.Fatal("not increasing", with)
			}
		}
		slices.Sort(servers)
		if !slices.Equal(Servers(l), servers) {
			t.Fatal("Servers", l, Servers(l))
		}
	}
}

func TestMove(t *testing.T) {
	own := map[int][]int{api.Join: {api.Leave, api.Invite, api.Knock, api.Join}, api.Leave: {api.Invite, api.Knock, api.Join}, api.Knock: {api.Leave, api.Knock}}
	other := map[int][]int{api.Leave: {api.Invite, api.Knock, api.Join, api.Ban}, api.Invite: {api.Leave, api.Knock, api.Invite}, api.Ban: {api.Leave, api.Invite, api.Knock, api.Join, api.Ban}}
	for _, from := range []int{math.MinInt, -1, 0, 1, 2, 3, 4, 5, math.MaxInt} {
		for _, to := range []int{math.MinInt, -1, 0, 1, 2, 3, 4, 5, math.MaxInt} {
			if Move(from, to, true) != slices.Contains(own[to], from) || Move(from, to, false) != slices.Contains(other[to], from) {
				t.Errorf("Move from %d to %d", from, to)
			}
		}
	}
}

func TestBansAndJoins(t *testing.T) {
	for to := api.Leave; to <= api.Ban; to++ {
		if Move(api.Ban, to, true) || Move(api.Ban, to, false) && to != api.Leave && to != api.Ban {
			t.Error("a ban ends by", to)
		}
		if Move(to, api.Join, false) {
			t.Error("joined by another user")
		}
	}
}

func TestInState(t *testing.T) {
	l := []api.Event{member("@a:x", api.Join), member("@a:x", api.Ban), member("@a:x", api.Knock), member("@b:x", api.Invite)}
	for i, id := range []int{5, 3, 5, 4} {
		l[i].Id = id
	}
	state := func(ids ...int) api.State {
		s := api.State{}
		for _, id := range ids {
			s = append(s, api.Entry{Id: id})
		}
		return s
	}
	for _, c := range []struct {
		s    api.State
		user string
		want int
	}{{state(5, 3), "@a:x", api.Join}, {state(3, 5), "@a:x", api.Ban}, {state(9, 5), "@a:x", api.Join}, {state(4, 4), "@a:x", api.Leave}, {state(3, 4), "@b:x", api.Invite}, {nil, "@a:x", api.Leave}} {
		if got := InState(l, c.s, c.user); got != c.want {
			t.Errorf("%v of %s: %d", c.s, c.user, got)
		}
	}
}
