package glob_test

import (
	"math/rand"
	"strings"
	"testing"

	"fedchat/api"
	. "fedchat/glob"
)

func TestCheck(t *testing.T) {
	for _, c := range []struct {
		p    string
		want api.Errno
	}{{"", api.ErrShort}, {"a", api.OK}, {"*", api.OK}, {"!", api.OK}, {"~", api.OK}, {"a b", api.ErrName}, {" ", api.ErrName}, {"\x7f", api.ErrName}, {"ä", api.ErrName}, {"a\x00", api.ErrName}, {strings.Repeat("a", 64), api.OK}, {strings.Repeat("a", 65), api.ErrLong}, {strings.Repeat(" ", 65), api.ErrLong}, {strings.Repeat("*", 64), api.OK}} {
		if got := Check(c.p); got != c.want {
			t.Errorf("Check(%q) = %d, want %d", c.p, got, c.want)
		}
	}
}

func TestMatch(t *testing.T) {
	for _, c := range []struct {
		p, s string
		want bool
	}{
		{"*.example.org", "chat.example.org", true}, {"*.example.org", "example.org", false}, {"*.example.org", ".example.org", true},
		{"a?c", "ac", false}, {"a*c", "ac", true}, {"a?c", "abc", true}, {"a?c", "a\xffc", true},
		{"*", "", true}, {"", "", false}, {"?", "", false}, {"**", "", true}, {"*?", "", false}, {"*?", "x", true},
		{"a", "A", false}, {"a", "a", true}, {"a", "aa", false}, {"*a*", "bab", true}, {"*a*", "bbb", false},
		{"a*a", "a", false}, {"a*a", "aa", true}, {"*ab*ab*", "ab", false}, {"*ab*ab*", "abab", true}, {"*aab", "aaab", true},
		{"a b", "a b", false}, {"*", "a b\n", true}, {"a*b*c", "axxbyyc", true}, {"a*b*c", "axxbyy", false}, {"??*", "a", false},
		{strings.Repeat("a", 65), strings.Repeat("a", 65), false}, {"*\x7f", "\x7f", false},
	} {
		if got := Match(c.p, c.s); got != c.want {
			t.Errorf("Match(%q, %q) = %t", c.p, c.s, got)
		}
	}
}

// divides is the definition: the bytes of the pattern stand for pieces of the text, in order.
func divides(p, s string) bool {
	if p == "" {
		return s == ""
	}
	if p[0] == '*' {
		for i := 0; i <= len(s); i++ {
			if divides(p[1:], s[i:]) {
				return true
			}
		}
		return false
	}
	return s != "" && (p[0] == '?' || p[0] == s[0]) && divides(p[1:], s[1:])
}

func randomText(source *rand.Rand, alphabet string, most int) string {
	s := ""
	for range source.Intn(most + 1) {
		s += string(alphabet[source.Intn(len(alphabet))])
	}
	return s
}

func TestMatchFollowsTheDefinition(t *testing.T) {
	source := rand.New(rand.NewSource(1))
	for range 50000 {
		p, s := randomText(source, "ab*?", 7), randomText(source, "ab", 8)
		if got, want := Match(p, s), p != "" && divides(p, s); got != want {
			t.Fatalf("Match(%q, %q) = %t", p, s, got)
		}
	}
}

func TestMatchOfLongTexts(t *testing.T) {
	s := strings.Repeat("a", 200000)
	if !Match(strings.Repeat("a*", 32), s) || Match(strings.Repeat("*a", 31)+"*b", s) {
		t.Error("long texts")
	}
}

func TestConcatenation(t *testing.T) {
	source := rand.New(rand.NewSource(2))
	for range 5000 {
		p, q, s := randomText(source, "ab*?", 4), randomText(source, "ab*?", 4), randomText(source, "ab", 6)
		if p == "" || q == "" {
			continue
		}
		cut := false
		for i := 0; i <= len(s); i++ {
			cut = cut || Match(p, s[:i]) && Match(q, s[i:])
		}
		if Match(p+q, s) != cut {
			t.Fatalf("%q and %q with %q", p, q, s)
		}
	}
}

func TestAnyAndFirst(t *testing.T) {
	for _, c := range []struct {
		l    []string
		s    string
		want int
	}{{[]string{"b*", "*c"}, "abc", 1}, {[]string{"b*", "*d"}, "abc", -1}, {nil, "", -1}, {[]string{"", "a b", "*"}, "a b", 2}, {[]string{"a", "a"}, "a", 0}} {
		if got := First(c.l, c.s); got != c.want || Any(c.l, c.s) != (c.want >= 0) {
			t.Errorf("First(%q, %q) = %d", c.l, c.s, got)
		}
	}
}

func TestPlainAndLeast(t *testing.T) {
	for _, c := range []struct {
		p     string
		plain bool
		least int
	}{{"", true, 0}, {"a*?", false, 2}, {"a?", false, 2}, {"ab c", true, 4}, {"***", false, 0}, {"ä", true, 2}, {strings.Repeat("x*", 50), false, 50}} {
		if Plain(c.p) != c.plain || Least(c.p) != c.least {
			t.Errorf("Plain or Least of %q: %t, %d", c.p, Plain(c.p), Least(c.p))
		}
	}
}

func TestPlainPatternsAndShortestTexts(t *testing.T) {
	source := rand.New(rand.NewSource(3))
	for range 5000 {
		p, s := randomText(source, "ab*?", 6), randomText(source, "ab*?", 6)
		if p == "" {
			continue
		}
		if Plain(p) && Match(p, s) != (p == s) {
			t.Fatalf("the plain pattern %q with %q", p, s)
		}
		if Match(p, s) && len(s) < Least(p) {
			t.Fatalf("%q matches %q, which is too short", p, s)
		}
		if shortest := strings.ReplaceAll(p, "*", ""); !Match(p, shortest) || len(shortest) != Least(p) {
			t.Fatalf("the shortest text of %q", p)
		}
	}
}
