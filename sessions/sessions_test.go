package sessions_test

import (
	"fmt"
	"math"
	"math/rand"
	"slices"
	"strings"
	"testing"

	"fedchat/api"
	. "fedchat/sessions"
)

func same(a, b any) bool {
	return fmt.Sprint(a) == fmt.Sprint(b)
}

// keys has two devices of @a:x and one of @b:y.
func keys() []api.Keys {
	return []api.Keys{{User: "@a:x", Devices: []api.Device{{Id: "D"}, {Id: "C"}, {Id: "D"}}}, {User: "@b:y", Devices: []api.Device{{Id: "E"}}}, {User: "@a:x", Devices: []api.Device{{Id: "hidden"}}}, {User: "@c:z"}}
}

func TestExample(t *testing.T) {
	s, err := New(5, "!r:a")
	if err != api.OK {
		t.Fatal("New", err)
	}
	s, first, _ := Use(s, 2)
	s, err = Give(s, "@a:x", "D")
	s, second, _ := Use(s, 2)
	if first != 0 || second != 1 || err != api.OK || Reads(s, "@a:x", "D", 0) || !Reads(s, "@a:x", "D", 1) || Reads(s, "@a:x", "D", 2) || Reads(s, "@a:x", "C", 1) || Reads(s, "@b:y", "D", 1) {
		t.Error("who reads what", s)
	}
	if x, err := Give(s, "@a:x", "D"); err != api.ErrTwice || !same(x, api.Session{}) {
		t.Error("a second share", err)
	}
	if x, n, err := Use(s, 2); err != api.ErrState || n != 0 || !same(x, api.Session{}) {
		t.Error("a session that is used up", err)
	}
	own := []api.Keys{{User: "@a:x", Devices: []api.Device{{Id: "D"}}}, {User: "@b:y", Devices: []api.Device{{Id: "E"}}}}
	if got := fmt.Sprint(Wants(s, []string{"@b:y", "@a:x"}, own)); got != "[{@b:y E 2}]" || Stale(s, []string{"@b:y", "@a:x"}, own) {
		t.Error("Wants", got)
	}
	if !Stale(s, []string{"@b:y"}, own) || !Stale(s, []string{"@a:x"}, nil) || Stale(s, []string{"@a:x"}, own) {
		t.Error("Stale")
	}
}

func TestErrors(t *testing.T) {
	for i, c := range []struct {
		id   int
		room string
		want api.Errno
	}{{0, "x", api.ErrRange}, {-1, "!r:a", api.ErrRange}, {api.MaxInt + 1, "!r:a", api.ErrRange}, {1, "@r:a", api.ErrName}, {api.MaxInt, "!r:a", api.OK}} {
		if s, err := New(c.id, c.room); err != c.want || err != api.OK && !same(s, api.Session{}) {
			t.Errorf("New %d: %d", i, err)
		}
	}
	full := api.Session{Shares: make([]api.Share, 2000)}
	full.Shares[7] = api.Share{User: "@a:x", Device: "D"}
	for i, c := range []struct {
		s            api.Session
		user, device string
		want         api.Errno
	}{{full, "a", "D", api.ErrName}, {full, "@a:x", "", api.ErrName}, {full, "@a:x", strings.Repeat("x", 33), api.ErrName}, {full, "@a:x", "D", api.ErrTwice}, {full, "@a:x", "E", api.ErrFull}, {api.Session{Shares: full.Shares[:1999]}, "@a:x", strings.Repeat("x", 32), api.OK}} {
		if s, err := Give(c.s, c.user, c.device); err != c.want || err != api.OK && !same(s, api.Session{}) {
			t.Errorf("Give %d: %d", i, err)
		}
	}
	for i, c := range []struct {
		next, most int
		want       api.Errno
	}{{0, 0, api.ErrRange}, {0, 10001, api.ErrRange}, {-1, 5, api.ErrRange}, {math.MinInt, 5, api.ErrRange}, {5, 5, api.ErrState}, {6, 5, api.ErrState}, {4, 5, api.OK}, {9999, 10000, api.OK}, {math.MaxInt, 10000, api.ErrState}, {-1, 0, api.ErrRange}} {
		s, n, err := Use(api.Session{Id: 3, Next: c.next}, c.most)
		if err != c.want || err != api.OK && (n != 0 || !same(s, api.Session{})) || err == api.OK && (n != c.next || s.Next != c.next+1 || s.Id != 3) {
			t.Errorf("Use %d: %d", i, err)
		}
	}
}

func TestGiveInserts(t *testing.T) {
	s := api.Session{Id: 1, Room: "!r:a", Next: 4}
	for _, h := range [][2]string{{"@b:y", "D"}, {"@a:x", "E"}, {"@b:y", "C"}, {"@c:z", "A"}, {"@a:x", "F"}} {
		var err api.Errno
		if s, err = Give(s, h[0], h[1]); err != api.OK {
			t.Fatal("Give", err)
		}
	}
	if got := fmt.Sprint(s); got != "{1 !r:a 4 [{@a:x E 4} {@a:x F 4} {@b:y C 4} {@b:y D 4} {@c:z A 4}]}" {
		t.Error(got)
	}
	disorder := api.Session{Shares: []api.Share{{User: "z"}, {User: "a"}}}
	if got, _ := Give(disorder, "@b:y", "D"); got.Shares[0].User != "@b:y" {
		t.Error("shares in disorder", got)
	}
}

func TestReads(t *testing.T) {
	s := api.Session{Next: 5, Shares: []api.Share{{User: "u", Device: "d", Index: 2}, {User: "u", Device: "d", Index: 0}, {User: "v", Device: "", Index: -7}}}
	for index := -2; index < 8; index++ {
		if Reads(s, "u", "d", index) != (index >= 2 && index < 5) || Reads(s, "v", "", index) != (index >= 0 && index < 5) || Reads(s, "w", "d", index) {
			t.Error("Reads of", index)
		}
	}
}

func TestWantsAndRenew(t *testing.T) {
	s := api.Session{Id: 1, Room: "any", Next: 3, Shares: []api.Share{{User: "@a:x", Device: "C", Index: 1}}}
	members := []string{"@c:z", "@b:y", "@a:x", "@d:d", "@a:x"}
	if got := fmt.Sprint(Wants(s, members, keys())); got != "[{@a:x D 3} {@b:y E 3}]" {
		t.Error("Wants", got)
	}
	fresh, shares := Renew(s, members, keys(), -9)
	if got := fmt.Sprint(fresh); got != "{-9 any 0 [{@a:x C 0} {@a:x D 0} {@b:y E 0}]}" || !slices.Equal(shares, fresh.Shares) {
		t.Error("Renew", got)
	}
	shares[0].Index = 9
	if fresh.Shares[0].Index == 9 {
		t.Error("both results share memory")
	}
	empty, none := Renew(s, nil, nil, 2)
	if len(empty.Shares)+len(none) != 0 || len(Wants(s, nil, keys())) != 0 || Stale(api.Session{}, nil, nil) || !Stale(s, nil, nil) {
		t.Error("nobody")
	}
}

func TestWhoReadsWhat(t *testing.T) {
	source := rand.New(rand.NewSource(1))
	for range 200 {
		s, _ := New(1, "!r:a")
		given := map[string]int{}
		sent := 0
		for range 40 {
			old := slices.Clone(s.Shares)
			user, device := []string{"@a:x", "@b:y"}[source.Intn(2)], []string{"C", "D"}[source.Intn(2)]
			next := s
			if source.Intn(3) == 0 {
				var err api.Errno
				next, err = Give(s, user, device)
				if _, known := given[user+device]; known != (err == api.ErrTwice) {
					t.Fatal("Give", err)
				}
				if err != api.OK {
					continue
				}
				given[user+device] = sent
			} else {
				next, _, _ = Use(s, 10000)
				sent++
			}
			if len(next.Shares) > 0 {
				kept := next.Shares[0]
				next.Shares[0].Index = 99
				if !slices.Equal(old, s.Shares) {
					t.Fatal("the argument was changed")
				}
				next.Shares[0] = kept
			}
			s = next
			for index := range sent + 1 {
				from, known := given[user+device]
				if Reads(s, user, device, index) != (known && index >= from && index < sent) {
					t.Fatal("Reads", s, user, device, index)
				}
			}
		}
	}
}

func TestMembers(t *testing.T) {
	source := rand.New(rand.NewSource(2))
	for range 1000 {
		members := []string{}
		for _, m := range []string{"@a:x", "@b:y", "@c:z", "@d:d"} {
			if source.Intn(2) == 0 {
				members = append(members, m)
			}
		}
		s, _ := Renew(api.Session{Room: "!r:a"}, members, keys(), 1)
		if Stale(s, members, keys()) || len(Wants(s, members, keys())) != 0 {
			t.Fatal("a renewed session is stale")
		}
		s, _, _ = Use(s, 5)
		for _, k := range keys()[:2] {
			for _, d := range k.Devices {
				if Reads(s, k.User, d.Id, 0) != slices.Contains(members, k.User) {
					t.Fatal("who reads a renewed session", members, k.User)
				}
			}
		}
		if len(members) > 0 {
			gone := members[source.Intn(len(members))]
			left := slices.DeleteFunc(slices.Clone(members), func(m string) bool { return m == gone })
			had := slices.ContainsFunc(s.Shares, func(x api.Share) bool { return x.User == gone })
			if Stale(s, left, keys()) != had {
				t.Fatal("a member leaves", members, gone)
			}
		}
	}
}
