package rules_test

import (
	"math"
	"slices"
	"testing"

	"fedchat/api"
	. "fedchat/rules"
)

func TestOf(t *testing.T) {
	first := api.Event{Kind: api.KRules, Content: api.Content{N: 7, Allow: []string{"!b:b", "!a:a"}}}
	l := []api.Event{{Kind: api.KName, Content: api.Content{N: 2}}, first, {Kind: api.KRules, Content: api.Content{N: 1}}}
	rule, rooms := Of(l)
	if rule != 7 || !slices.Equal(rooms, []string{"!b:b", "!a:a"}) {
		t.Error("Of", rule, rooms)
	}
	rooms[0] = "x"
	if l[1].Content.Allow[0] != "!b:b" {
		t.Error("the result shares memory with the argument")
	}
	if rule, rooms := Of(l[:1]); rule != api.ByInvite || len(rooms) != 0 {
		t.Error("Of without a rule", rule, rooms)
	}
}

var any = []int{math.MinInt, -1, 0, 1, 2, 3, 4, 5, math.MaxInt}

func TestJoin(t *testing.T) {
	for _, rule := range any {
		for _, now := range any {
			want := api.ErrRule
			known := rule >= api.ByInvite && rule <= api.Restricted
			if now == api.Join || rule == api.Public || known && now == api.Invite {
				want = api.OK
			}
			if got := Join(rule, now); got != want {
				t.Errorf("Join(%d, %d) is %d", rule, now, got)
			}
		}
	}
	if Join(api.Restricted, api.Invite) != api.OK || Join(api.Restricted, api.Leave) != api.ErrRule || Join(api.ByKnock, api.Knock) != api.ErrRule {
		t.Error("the examples")
	}
}

func TestKnock(t *testing.T) {
	for _, rule := range any {
		for _, now := range any {
			want := api.ErrRule
			if rule == api.ByKnock && (now == api.Leave || now == api.Knock) {
				want = api.OK
			}
			if got := Knock(rule, now); got != want {
				t.Errorf("Knock(%d, %d) is %d", rule, now, got)
			}
		}
	}
}

func TestWhoMayJoinByInvite(t *testing.T) {
	for _, now := range any {
		for rule := api.ByInvite; rule <= api.Restricted; rule++ {
			if Join(api.ByInvite, now) == api.OK && Join(rule, now) != api.OK {
				t.Errorf("%d may join by invitation, but not under %d", now, rule)
			}
			if now != api.Join && now != api.Invite && (Join(rule, now) == api.OK) != (rule == api.Public) {
				t.Errorf("%d joins under %d", now, rule)
			}
		}
	}
}

func TestVia(t *testing.T) {
	create := api.Event{Kind: api.KCreate, Sender: "@a:a"}
	join := func(user string) api.Event {
		return api.Event{Kind: api.KMember, Key: user, Content: api.Content{N: api.Join}}
	}
	power := func(own, invite int) api.Event {
		return api.Event{Kind: api.KPower, Content: api.Content{Levels: api.Levels{Users: []api.Level{{User: "@b:b", N: own}}, Invite: invite}}}
	}
	for i, c := range []struct {
		l    []api.Event
		user string
		want api.Errno
	}{
		{[]api.Event{create, join("@a:a")}, "@a:a", api.OK},
		{[]api.Event{create, join("@b:b")}, "@b:b", api.OK},
		{[]api.Event{create}, "@a:a", api.ErrRule},
		{[]api.Event{power(5, 5), join("@b:b")}, "@b:b", api.OK},
		{[]api.Event{power(4, 5), join("@b:b")}, "@b:b", api.ErrRule},
		{[]api.Event{power(5, 5)}, "@b:b", api.ErrRule},
		{[]api.Event{power(5, 5), {Kind: api.KMember, Key: "@b:b", Content: api.Content{N: api.Invite}}, join("@b:b")}, "@b:b", api.ErrRule},
		{[]api.Event{power(9, 1), join("@c:c")}, "@c:c", api.ErrRule},
		{nil, "", api.ErrRule},
	} {
		if got := Via(c.l, c.user); got != c.want {
			t.Errorf("%d: Via is %d", i, got)
		}
	}
}
