package access_test

import (
	"math/rand"
	"slices"
	"testing"

	. "fedchat/access"
	"fedchat/api"
	"fedchat/content"
)

func list(allow, deny []string) api.Content {
	return api.Content{Allow: allow, Deny: deny}
}

func TestAllowed(t *testing.T) {
	for i, c := range []struct {
		allow, deny []string
		server      string
		want        bool
	}{
		{[]string{"*"}, []string{"evil.*"}, "a", true}, {[]string{"*"}, []string{"evil.*"}, "evil.x", false}, {nil, nil, "a", false}, {nil, []string{"b"}, "a", false},
		{[]string{"b", "a"}, nil, "a", true}, {[]string{"a"}, []string{"a"}, "a", false}, {[]string{"a"}, []string{"x", "?"}, "a", false},
		{[]string{"", "a b"}, nil, "a b", false}, {[]string{"*"}, []string{"", "a b"}, "a b", true}, {[]string{"*"}, nil, "", true}, {[]string{"A"}, nil, "a", false},
	} {
		if got := Allowed(list(c.allow, c.deny), c.server); got != c.want {
			t.Errorf("%d: Allowed is %t", i, got)
		}
	}
}

func TestOfAndMay(t *testing.T) {
	if c, ok := Of(nil); ok || !content.Same(c, api.Content{}) {
		t.Error("Of nothing")
	}
	if May(nil, "a") != api.OK || May([]api.Event{{Kind: api.KName}}, "") != api.OK {
		t.Error("May without a list")
	}
	l := []api.Event{{Kind: api.KRules, Content: list([]string{"x"}, nil)}, {Kind: api.KAccess, Content: list([]string{"a"}, []string{"d"})}, {Kind: api.KAccess, Content: list([]string{"*"}, nil)}}
	c, ok := Of(l)
	if !ok || !content.Same(c, l[1].Content) {
		t.Error("Of", c, ok)
	}
	c.Allow[0], c.Deny[0] = "z", "z"
	if l[1].Content.Allow[0] != "a" || l[1].Content.Deny[0] != "d" {
		t.Error("the result shares memory with the argument")
	}
	if May(l, "a") != api.OK || May(l, "b") != api.ErrAccess {
		t.Error("May")
	}
	if May([]api.Event{{Kind: api.KAccess}}, "a") != api.ErrAccess {
		t.Error("an empty list allows nothing")
	}
}

func TestKeeps(t *testing.T) {
	all, some := list([]string{"*"}, nil), list([]string{"a*"}, nil)
	if !Keeps(all, some, "a.b") || Keeps(all, some, "b") || Keeps(some, all, "b") || !Keeps(some, api.Content{}, "b") || !Keeps(all, all, "") {
		t.Error("Keeps")
	}
}

func TestAdditionalPatterns(t *testing.T) {
	source := rand.New(rand.NewSource(1))
	patterns := func() []string {
		l := make([]string, source.Intn(3))
		for i := range l {
			l[i] = []string{"a", "b", "*", "?", "a*", "", "b?"}[source.Intn(7)]
		}
		return l
	}
	for range 5000 {
		allow, deny, more := patterns(), patterns(), patterns()
		for _, server := range []string{"a", "b", "ab", "ba"} {
			before := Allowed(list(allow, deny), server)
			if Allowed(list(allow, slices.Concat(deny, more)), server) && !before {
				t.Fatal("more in Deny allows more")
			}
			if !Allowed(list(slices.Concat(more, allow), deny), server) && before {
				t.Fatal("more in Allow allows less")
			}
		}
	}
}
