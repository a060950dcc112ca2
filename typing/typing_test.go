package typing_test

import (
	"fmt"
	"math"
	"math/rand"
	"slices"
	"testing"

	"fedchat/api"
	. "fedchat/typing"
)

func record(user string, until int) api.Typing {
	return api.Typing{User: user, Until: until}
}

func TestCheck(t *testing.T) {
	for i, c := range []struct {
		l    []api.Typing
		want api.Errno
	}{
		{nil, api.OK}, {[]api.Typing{record("@a:x", 1), record("@b:x", api.MaxTime+30000)}, api.OK}, {[]api.Typing{record("a", 0)}, api.ErrName}, {[]api.Typing{record("@a:x", 0)}, api.ErrRange}, {[]api.Typing{record("@a:x", -1)}, api.ErrRange}, {[]api.Typing{record("@a:x", api.MaxTime+30001)}, api.ErrRange},
		{[]api.Typing{record("@b:x", 1), record("@a:x", 1)}, api.ErrOrder}, {[]api.Typing{record("@b:x", 1), record("@b:x", 1)}, api.ErrOrder}, {[]api.Typing{record("@b:x", 1), record("@a:x", 0)}, api.ErrRange}, {[]api.Typing{record("@b:x", 1), record("@a:x", 1), record("", 1)}, api.ErrOrder}, {[]api.Typing{record("@b:x", 0), record("", 1)}, api.ErrRange},
	} {
		if got := Check(c.l); got != c.want {
			t.Errorf("%d: %d, want %d", i, got, c.want)
		}
	}
}

func TestStart(t *testing.T) {
	l, err := Start(nil, "@a:x", 100, 50)
	if err != api.OK || fmt.Sprint(l) != "[{@a:x 150}]" {
		t.Error("Start", l, err)
	}
	l, _ = Start(l, "@a:x", 120, 10)
	if fmt.Sprint(l) != "[{@a:x 130}]" {
		t.Error("a second one", l)
	}
	for _, c := range []struct {
		user      string
		now, span int
		want      api.Errno
	}{{"a", -1, 0, api.ErrName}, {"", 1, 1, api.ErrName}, {"@a:x", -1, 1, api.ErrRange}, {"@a:x", api.MaxTime + 1, 1, api.ErrRange}, {"@a:x", 0, 0, api.ErrRange}, {"@a:x", 0, 30001, api.ErrRange}, {"@a:x", math.MaxInt, math.MaxInt, api.ErrRange}, {"@a:x", 0, 1, api.OK}, {"@a:x", api.MaxTime, 30000, api.OK}} {
		got, err := Start(l, c.user, c.now, c.span)
		if err != c.want || err != api.OK && len(got) != 0 || err == api.OK && Check(got) != api.OK {
			t.Errorf("%v: %v, %d", c, got, err)
		}
	}
}

func TestStartInOtherLists(t *testing.T) {
	for _, c := range []struct {
		l    []api.Typing
		user string
		want string
	}{
		{[]api.Typing{record("@b:x", 1), record("@d:x", 2)}, "@c:x", "[{@b:x 1} {@c:x 5} {@d:x 2}]"}, {[]api.Typing{record("@b:x", 1)}, "@c:x", "[{@b:x 1} {@c:x 5}]"}, {[]api.Typing{record("@b:x", 1)}, "@a:x", "[{@a:x 5} {@b:x 1}]"},
		{[]api.Typing{record("@d:x", 1), record("@b:x", 1), record("@b:x", 2)}, "@b:x", "[{@d:x 1} {@b:x 5} {@b:x 2}]"}, {[]api.Typing{record("", -7), record("@d:x", 1), record("@a:x", 1)}, "@b:x", "[{ -7} {@b:x 5} {@d:x 1} {@a:x 1}]"},
	} {
		old := slices.Clone(c.l)
		got, err := Start(c.l, c.user, 2, 3)
		if fmt.Sprint(got) != c.want || err != api.OK || !slices.Equal(old, c.l) {
			t.Errorf("%v: %v", c.l, got)
		}
	}
}

func TestStopCleanAndNow(t *testing.T) {
	l := []api.Typing{record("@b:x", 150), record("@a:x", 150), record("@b:x", 100), record("@c:x", -5), record("@a:x", 151)}
	for name, c := range map[string]struct{ got, want any }{
		"Stop": {Stop(l, "@b:x"), "[{@a:x 150} {@c:x -5} {@a:x 151}]"}, "Stop of nobody": {Stop(l, "x"), fmt.Sprint(l)}, "Clean": {Clean(l, 100), "[{@b:x 150} {@a:x 150} {@a:x 151}]"}, "Clean of all": {Clean(l, 151), "[]"}, "Clean of none": {Clean(l, math.MinInt), fmt.Sprint(l)},
		"Now at 149": {Now(l, 149), "[@a:x @b:x]"}, "Now at 150": {Now(l, 150), "[@a:x]"}, "Now at -6": {Now(l, -6), "[@a:x @b:x @c:x]"}, "Now at the end": {Now(l, math.MaxInt), "[]"}, "nothing": {Stop(nil, ""), "[]"},
	} {
		if got := fmt.Sprint(c.got); got != c.want {
			t.Errorf("%s: %s", name, got)
		}
	}
	for _, next := range [][]api.Typing{Stop(l, ""), Clean(l, -9)} {
		next[0].Until = 7
		if l[0].Until != 150 {
			t.Error("a result shares memory with the argument")
		}
	}
}

func TestConsequences(t *testing.T) {
	source := rand.New(rand.NewSource(1))
	users := []string{"@a:x", "@b:x", "@c:x"}
	l := []api.Typing{}
	for range 3000 {
		user, now, span := users[source.Intn(3)], source.Intn(50), 1+source.Intn(20)
		next := l
		switch source.Intn(3) {
		case 0:
			next, _ = Start(l, user, now, span)
		case 1:
			next = Stop(l, user)
		case 2:
			cleaned := Clean(l, now)
			for later := now; later < 80; later++ {
				if !slices.Equal(Now(cleaned, later), Now(l, later)) {
					t.Fatal("Clean changes who types later")
				}
			}
			l = cleaned
			continue
		}
		if Check(next) != api.OK {
			t.Fatal("no right list", next)
		}
		stopped := len(next) == 0 || !slices.ContainsFunc(next, func(x api.Typing) bool { return x.User == user })
		for at := 0; at < 80; at++ {
			for _, u := range users {
				want := slices.Contains(Now(l, at), u)
				if u == user {
					want = !stopped && at < now+span
				}
				if slices.Contains(Now(next, at), u) != want {
					t.Fatal("who types", l, next, u, at)
				}
			}
		}
		l = next
	}
}
