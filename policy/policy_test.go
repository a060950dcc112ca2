package policy_test

import (
	"fmt"
	"math/rand"
	"slices"
	"testing"

	"fedchat/api"
	"fedchat/glob"
	"fedchat/ids"
	. "fedchat/policy"
)

func event(key, pattern string, about api.Kind) api.Event {
	return api.Event{Kind: api.KPolicy, Key: key, Content: api.Content{Text: pattern, N: int(about)}}
}

func policy(about api.Kind, pattern, reason string) api.Policy {
	return api.Policy{About: about, Pattern: pattern, Reason: reason}
}

func TestExamples(t *testing.T) {
	l := []api.Policy{policy(api.KMember, "@spam*:*", ""), policy(api.KAccess, "evil.*", "")}
	if got := fmt.Sprint(Users(l, []string{"@spammer:a", "@ann:evil.x", "@ann:a"}), Deny(l)); got != "[@ann:evil.x @spammer:a] [evil.*]" {
		t.Error(got)
	}
	if got := Rules([]api.Event{event("b", "x*", api.KAccess), event("a", "", api.KAccess)}); !slices.Equal(got, []api.Policy{policy(api.KAccess, "x*", "b")}) {
		t.Error("Rules", got)
	}
}

func TestRules(t *testing.T) {
	name := event("a", "n", 1)
	name.Kind = api.KName
	l := []api.Event{event("b", "2", 6), name, event("a", "3", 99), event("b", "1", 2), event("", "4", 1), event("c", "", 1)}
	if got := fmt.Sprint(Rules(l)); got != "[{1 4 } {99 3 a} {6 2 b} {2 1 b}]" {
		t.Error(got)
	}
	if len(Rules(nil)) != 0 {
		t.Error("nothing")
	}
}

func TestMatch(t *testing.T) {
	l := []api.Policy{policy(2, "a b", "wrong"), policy(2, "a*", "first"), policy(2, "*", "second"), policy(6, "*", "server")}
	for i, c := range []struct {
		k     api.Kind
		name  string
		want  string
		found bool
	}{{2, "ab", "first", true}, {2, "a b", "first", true}, {2, "b", "second", true}, {6, "", "server", true}, {1, "a", "", false}} {
		p, found := Match(l, c.k, c.name)
		if p.Reason != c.want || found != c.found || !found && p != (api.Policy{}) {
			t.Errorf("%d: %v", i, p)
		}
	}
}

func TestUsers(t *testing.T) {
	l := []api.Policy{policy(api.KMember, "odd", ""), policy(api.KMember, "@b*:s", ""), policy(api.KAccess, "t", ""), policy(api.KAccess, "*x", ""), policy(api.KCreate, "*", "")}
	if got := fmt.Sprint(Users(l, []string{"odd", "@c:t", "@bob:s", "t", "@bob:s", "@c:s", "", "!r:ax", "x"})); got != "[!r:ax @bob:s @c:t odd]" {
		t.Error(got)
	}
	if got := Users([]api.Policy{policy(api.KAccess, "*", "")}, []string{"no user", ""}); len(got) != 0 {
		t.Error("names without a server", got)
	}
}

func TestMergeAndDeny(t *testing.T) {
	a := []api.Policy{policy(6, "x", "1"), policy(6, "x", "1"), policy(6, "a", "1")}
	b := []api.Policy{policy(6, "x", "2"), policy(6, "a", "1"), policy(2, "x", "1")}
	if got := fmt.Sprint(Merge(a, b)); got != "[{6 x 1} {6 a 1} {6 x 2} {2 x 1}]" {
		t.Error("Merge", got)
	}
	if got := fmt.Sprint(Deny(slices.Concat(a, b)), Deny(nil), Merge(nil, nil)); got != "[a x] [] []" {
		t.Error("Deny", got)
	}
}

func TestConsequences(t *testing.T) {
	source := rand.New(rand.NewSource(1))
	users := []string{"@a:s", "@b:s", "@a:t", "@ab:x.t"}
	list := func() []api.Policy {
		l := []api.Policy{}
		for range source.Intn(4) {
			l = append(l, policy([]api.Kind{api.KMember, api.KAccess, api.KCreate}[source.Intn(3)], []string{"@a*", "?", "*t", "@b:s", "", "s"}[source.Intn(6)], []string{"", "r"}[source.Intn(2)]))
		}
		return l
	}
	for range 3000 {
		a, b := list(), list()
		old := slices.Clone(a)
		both := Users(Merge(a, b), users)
		want := ids.Names(slices.Concat(Users(a, users), Users(b, users)))
		if !slices.Equal(both, want) {
			t.Fatal("Users of Merge", a, b, both, want)
		}
		own := Merge(a, a)
		if !slices.Equal(own, Merge(a, nil)) || len(Merge(own, nil)) != len(own) {
			t.Fatal("Merge with itself", a)
		}
		for _, p := range a {
			if !slices.Contains(own, p) {
				t.Fatal("a policy is lost", a)
			}
		}
		for _, user := range users {
			if glob.Any(Deny(a), ids.ServerOf(user)) && !slices.Contains(Users(a, users), user) {
				t.Fatal("a denied server's user", a, user)
			}
		}
		if !slices.Equal(old, a) {
			t.Fatal("the argument was changed")
		}
	}
}
