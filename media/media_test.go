package media_test

import (
	"fmt"
	"math"
	"math/rand"
	"slices"
	"strings"
	"testing"

	"fedchat/api"
	. "fedchat/media"
)

func file(server, name string, size, at, is int) api.Media {
	return api.Media{Server: server, Name: name, Size: size, At: at, Is: is}
}

func TestExamples(t *testing.T) {
	l, err := Fetch(nil, "a", "b", "cat", 7, 100)
	if err != api.OK || !slices.Equal(l, []api.Media{file("b", "cat", 7, 100, 1)}) || Total(l) != 7 {
		t.Error("Fetch", l, err)
	}
	if got := Expire(l, "a", 150, 50); !slices.Equal(got, l) {
		t.Error("not yet expired", got)
	}
	l = Expire(l, "a", 151, 50)
	if !slices.Equal(l, []api.Media{file("b", "cat", 7, 100, 3)}) || Total(l) != 0 {
		t.Error("expired", l)
	}
	l, err = Fetch(l, "a", "b", "cat", 8, 200)
	if err != api.OK || !slices.Equal(l, []api.Media{file("b", "cat", 8, 200, 1)}) {
		t.Error("fetched again", l, err)
	}
	l = Quarantine(l, "b", "x")
	if _, err := Fetch(l, "a", "b", "x", 1, 1); err != api.ErrGone {
		t.Error("a quarantined file", err)
	}
	if _, err := Fetch(l, "a", "a", "x", 1, 1); err != api.ErrNone {
		t.Error("an own file", err)
	}
}

func TestCheck(t *testing.T) {
	for i, c := range []struct {
		l    []api.Media
		want api.Errno
	}{
		{nil, api.OK}, {[]api.Media{file("a", "z", 0, 0, 0), file("b", "\x00", api.MaxInt, api.MaxTime, 3), file("b", "a", 0, 0, 2)}, api.OK},
		{[]api.Media{file("A", "z", -1, 0, 0)}, api.ErrName}, {[]api.Media{file("a", "", 0, 0, 0)}, api.ErrName}, {[]api.Media{file("a", strings.Repeat("x", 33), 0, 0, 0)}, api.ErrName},
		{[]api.Media{file("a", "z", -1, 0, 0)}, api.ErrRange}, {[]api.Media{file("a", "z", api.MaxInt+1, 0, 0)}, api.ErrRange}, {[]api.Media{file("a", "z", 0, -1, 0)}, api.ErrRange}, {[]api.Media{file("a", "z", 0, api.MaxTime+1, 0)}, api.ErrRange}, {[]api.Media{file("a", "z", 0, 0, 4)}, api.ErrRange}, {[]api.Media{file("a", "z", 0, 0, -1)}, api.ErrRange},
		{[]api.Media{file("b", "a", 0, 0, 0), file("a", "z", 0, 0, 0)}, api.ErrOrder}, {[]api.Media{file("b", "b", 0, 0, 0), file("b", "a", 0, 0, 0)}, api.ErrOrder}, {[]api.Media{file("b", "b", 0, 0, 0), file("b", "b", 0, 0, 0), file("", "", 0, 0, 0)}, api.ErrOrder}, {[]api.Media{file("b", "b", 0, 0, 9), file("", "", 0, 0, 0)}, api.ErrRange},
	} {
		if got := Check(c.l); got != c.want {
			t.Errorf("%d: %d, want %d", i, got, c.want)
		}
	}
}

func town() []api.Media {
	return []api.Media{file("a", "own", 5, 10, 1), file("b", "gone", 6, 20, 2), file("b", "here", 7, 30, 1), file("b", "known", 8, 40, 0), file("b", "old", 9, 50, 3)}
}

// bad is a list that Check does not accept.
func bad() []api.Media {
	return []api.Media{file("b", "x", 5, 10, 1), file("a", "x", 5, 10, 1)}
}

func TestAddAndGet(t *testing.T) {
	l, err := Add(town(), file("b", "h", 1, 2, 3))
	if err != api.OK || len(l) != 6 || l[2] != file("b", "h", 1, 2, 3) || Check(l) != api.OK {
		t.Error("Add", l, err)
	}
	for i, c := range []struct {
		l    []api.Media
		m    api.Media
		want api.Errno
	}{{bad(), file("", "", -1, 0, 0), api.ErrOrder}, {town(), file("", "x", -1, 0, 0), api.ErrName}, {town(), file("b", "here", 0, 0, 9), api.ErrRange}, {town(), file("b", "here", 0, 0, 0), api.ErrTwice}} {
		if l, err := Add(c.l, c.m); err != c.want || len(l) != 0 {
			t.Errorf("%d: %d", i, err)
		}
	}
	twice := []api.Media{file("z", "x", 1, 0, 0), file("b", "x", 2, 0, 0), file("b", "x", 3, 0, 0)}
	if m, ok := Get(twice, "b", "x"); !ok || m.Size != 2 {
		t.Error("Get", m)
	}
	if m, ok := Get(twice, "b", "y"); ok || m != (api.Media{}) {
		t.Error("Get of an unknown file", m)
	}
}

func TestFetch(t *testing.T) {
	for i, c := range []struct {
		l            []api.Media
		server, name string
		size, now    int
		want         string
		err          api.Errno
	}{
		{bad(), "", "", -1, 0, "", api.ErrOrder}, {town(), "", "x", -1, 0, "", api.ErrName}, {town(), "b", strings.Repeat("x", 33), -1, 0, "", api.ErrName}, {town(), "b", "gone", -1, 0, "", api.ErrRange}, {town(), "b", "gone", api.MaxInt + 1, 0, "", api.ErrRange}, {town(), "b", "gone", 0, -1, "", api.ErrRange}, {town(), "a", "x", 0, api.MaxTime + 1, "", api.ErrRange}, {town(), "a", "x", 0, 0, "", api.ErrNone}, {town(), "b", "gone", 0, 0, "", api.ErrGone},
		{town(), "a", "own", 99, 60, "{a own 5 60 1}", api.OK}, {town(), "b", "here", 99, 60, "{b here 7 60 1}", api.OK}, {town(), "b", "known", 99, 60, "{b known 99 60 1}", api.OK}, {town(), "b", "old", 99, 0, "{b old 99 0 1}", api.OK}, {town(), "c", "new", 99, 60, "{c new 99 60 1}", api.OK},
	} {
		l, err := Fetch(c.l, "a", c.server, c.name, c.size, c.now)
		if err != c.err || err != api.OK && len(l) != 0 {
			t.Errorf("%d: %d, want %d", i, err, c.err)
		}
		if m, _ := Get(l, c.server, c.name); err == api.OK && (fmt.Sprint(m) != c.want || Check(l) != api.OK) {
			t.Errorf("%d: %v", i, m)
		}
	}
}

func TestQuarantine(t *testing.T) {
	for name, want := range map[string]string{"here": "{b here 7 30 2}", "gone": "{b gone 6 20 2}", "new": "{b new 0 0 2}"} {
		l := Quarantine(town(), "b", name)
		if m, _ := Get(l, "b", name); fmt.Sprint(m) != want || Check(l) != api.OK {
			t.Errorf("%s: %v", name, m)
		}
	}
	if !slices.Equal(Quarantine(bad(), "b", "x"), bad()) || !slices.Equal(Quarantine(town(), "B", "here"), town()) || !slices.Equal(Quarantine(town(), "b", ""), town()) {
		t.Error("invalid arguments")
	}
}

func TestExpireAndTotal(t *testing.T) {
	all := func(l []api.Media) string {
		is := []int{}
		for _, m := range l {
			is = append(is, m.Is)
		}
		return fmt.Sprint(is)
	}
	for i, c := range []struct {
		own      string
		now, age int
		want     string
	}{
		{"a", 31, 0, "[1 2 3 0 3]"}, {"a", 30, 0, "[1 2 1 0 3]"}, {"a", 31, -5, "[1 2 3 0 3]"}, {"b", 99, 0, "[3 2 1 0 3]"}, {"", 99, 50, "[3 2 3 0 3]"}, {"", 60, 49, "[3 2 1 0 3]"}, {"", math.MaxInt, math.MaxInt, "[1 2 1 0 3]"}, {"", math.MaxInt, math.MaxInt - 11, "[3 2 1 0 3]"}, {"", math.MinInt, math.MinInt, "[1 2 1 0 3]"},
	} {
		if got := Expire(town(), c.own, c.now, c.age); all(got) != c.want || Check(got) != api.OK {
			t.Errorf("%d: %s", i, all(got))
		}
	}
	if !slices.Equal(Expire(bad(), "", 99, 0), bad()) || Total(bad()) != 0 || Total(town()) != 12 || Total(nil) != 0 {
		t.Error("invalid lists, or Total")
	}
}

func TestConsequences(t *testing.T) {
	source := rand.New(rand.NewSource(1))
	servers, names := []string{"a", "b", "c"}, []string{"x", "y"}
	l := []api.Media{}
	locked := map[string]bool{}
	for range 4000 {
		server, name, now := servers[source.Intn(3)], names[source.Intn(2)], source.Intn(100)
		old := slices.Clone(l)
		next, err := l, api.OK
		switch source.Intn(40) {
		case 0:
			next = Quarantine(l, server, name)
			locked[server+name] = true
		case 1, 2, 3, 4:
			next = Expire(l, "a", now, source.Intn(20))
		case 5:
			next, err = Add(l, file(server, name, 1, 1, 1))
		default:
			next, err = Fetch(l, "a", server, name, source.Intn(9), now)
			m, found := Get(next, server, name)
			if (err == api.ErrGone) != locked[server+name] || err == api.OK && (!found || m.Is != 1 || m.At != now) {
				t.Fatal("Fetch", err, m)
			}
		}
		if !slices.Equal(old, l) {
			t.Fatal("the argument was changed")
		}
		if err != api.OK {
			continue
		}
		if Check(next) != api.OK {
			t.Fatal("no list", next)
		}
		for _, m := range next {
			if locked[m.Server+m.Name] != (m.Is == 2) || m.Server == "a" && m.Is == 3 {
				t.Fatal("the state of", m)
			}
		}
		l = slices.Clone(next)
		for i := range next {
			next[i].Size = -1
		}
		if source.Intn(300) == 0 {
			l, locked = nil, map[string]bool{}
		}
	}
}
