package net_test

import (
	"fmt"
	"math"
	"math/rand"
	"slices"
	"testing"

	"fedchat/api"
	"fedchat/clone"
	. "fedchat/net"
)

func packet(from, to string, n int) api.Packet {
	return api.Packet{From: from, To: to, Kind: api.PTxn, N: n, Ids: []int{n}, Events: []api.Event{{Id: n, Prev: []int{n}}}, Auth: []api.Event{{Id: n}}}
}

func network(count int, cut ...[2]string) api.Network {
	n := api.Network{Cut: cut}
	for i := range count {
		n.Packets = append(n.Packets, packet("a", "b", i))
	}
	return n
}

func numbers(n api.Network) []int {
	l := []int{}
	for _, p := range n.Packets {
		l = append(l, p.N)
	}
	return l
}

// same compares networks, in which nil and empty lists are equal.
func same(a, b api.Network) bool {
	return fmt.Sprint(a) == fmt.Sprint(b)
}

func TestSend(t *testing.T) {
	n, err := Send(api.Network{}, packet("a", "b", 1))
	if err != api.OK {
		t.Fatal(err)
	}
	n, err = Send(n, packet("b", "a", 2))
	if err != api.OK || !slices.Equal(numbers(n), []int{1, 2}) || fmt.Sprint(n.Packets[1]) != fmt.Sprint(packet("b", "a", 2)) {
		t.Error("Send", n, err)
	}
	for _, c := range []struct {
		n        api.Network
		from, to string
		want     api.Errno
	}{
		{network(3, [2]string{"a", "b"}), "a", "b", api.ErrDown}, {network(3, [2]string{"a", "b"}), "b", "a", api.ErrDown}, {network(3, [2]string{"b", "a"}), "a", "b", api.ErrDown}, {network(3, [2]string{"a", "b"}), "a", "c", api.OK},
		{network(1000), "a", "b", api.ErrFull}, {network(1001), "a", "b", api.ErrFull}, {network(999), "a", "b", api.OK}, {network(1000, [2]string{"a", "b"}), "a", "b", api.ErrDown}, {api.Network{}, "", "", api.OK},
	} {
		got, err := Send(c.n, packet(c.from, c.to, 7))
		if err != c.want || err != api.OK && !same(got, api.Network{}) || err == api.OK && len(got.Packets) != len(c.n.Packets)+1 {
			t.Errorf("Send from %s to %s with %d packets: %d", c.from, c.to, len(c.n.Packets), err)
		}
	}
}

func TestCut(t *testing.T) {
	for _, c := range []struct {
		before [][2]string
		a, b   string
		is     bool
		want   string
	}{
		{nil, "b", "a", true, "[[a b]]"},
		{[][2]string{{"a", "c"}, {"b", "c"}}, "b", "a", true, "[[a b] [a c] [b c]]"},
		{[][2]string{{"a", "b"}, {"b", "c"}}, "c", "a", true, "[[a b] [a c] [b c]]"},
		{[][2]string{{"a", "b"}, {"b", "a"}, {"c", "d"}, {"a", "b"}}, "a", "b", false, "[[c d]]"},
		{[][2]string{{"a", "b"}, {"b", "a"}, {"c", "d"}, {"a", "b"}}, "b", "a", true, "[[a b] [c d]]"},
		{[][2]string{{"z", "y"}, {"a", "c"}, {"a", "c"}}, "d", "b", true, "[[b d] [z y] [a c] [a c]]"},
		{[][2]string{{"a", "b"}}, "z", "z", true, "[[a b] [z z]]"},
		{[][2]string{{"a", "b"}}, "a", "c", false, "[[a b]]"},
		{nil, "a", "b", false, "[]"},
	} {
		if got := Cut(network(2, c.before...), c.a, c.b, c.is); fmt.Sprint(got.Cut) != c.want || len(got.Packets) != 2 {
			t.Errorf("Cut of %v: %v", c, got.Cut)
		}
	}
}

func TestLinks(t *testing.T) {
	source := rand.New(rand.NewSource(1))
	names := []string{"a", "b", "c", ""}
	n := api.Network{}
	for range 2000 {
		a, b, is := names[source.Intn(4)], names[source.Intn(4)], source.Intn(2) == 0
		next := Cut(n, a, b, is)
		for _, x := range names {
			for _, y := range names {
				want := Open(n, x, y)
				if x == a && y == b || x == b && y == a {
					want = !is
				}
				if Open(next, x, y) != want {
					t.Fatal("the link", x, y, n.Cut, a, b, is)
				}
			}
		}
		if !slices.IsSortedFunc(next.Cut, func(a, b [2]string) int { return slices.Compare(a[:], b[:]) }) {
			t.Fatal("not in order", next.Cut)
		}
		n = next
	}
}

func TestNextDropAndCopy(t *testing.T) {
	n := network(5, [2]string{"a", "b"})
	for _, i := range []int{0, 1, 4, 5, 12, -1, -5, -6, math.MaxInt, math.MinInt} {
		place := ((i % 5) + 5) % 5
		left := slices.Delete(numbers(n), place, place+1)
		next, p, ok := Next(n, i)
		if !ok || p.N != place || !slices.Equal(numbers(next), left) || !slices.Equal(next.Cut, n.Cut) {
			t.Errorf("Next of %d: %d", i, p.N)
		}
		if got := Drop(n, i); !slices.Equal(numbers(got), left) || !slices.Equal(got.Cut, n.Cut) {
			t.Errorf("Drop of %d: %v", i, numbers(got))
		}
		if got := Copy(n, i); !slices.Equal(numbers(got), append(numbers(n), place)) || !slices.Equal(got.Cut, n.Cut) {
			t.Errorf("Copy of %d: %v", i, numbers(got))
		}
	}
	empty := network(0, [2]string{"a", "b"})
	if next, p, ok := Next(empty, 3); ok || !same(next, api.Network{}) || p.N != 0 || p.To != "" {
		t.Error("Next of no packets")
	}
	if !same(Drop(empty, 0), empty) || !same(Copy(empty, 0), empty) {
		t.Error("Drop or Copy of no packets")
	}
	for _, count := range []int{1000, 1001} {
		if full := network(count); len(Copy(full, 0).Packets) != count {
			t.Error("Copy of a full network")
		}
	}
	if len(Copy(network(999), 0).Packets) != 1000 {
		t.Error("the last place")
	}
}

func TestSendAndNext(t *testing.T) {
	n := network(3, [2]string{"c", "d"})
	sent, _ := Send(n, packet("b", "a", 9))
	back, p, ok := Next(sent, -1)
	if !ok || !same(back, n) || fmt.Sprint(p) != fmt.Sprint(packet("b", "a", 9)) {
		t.Error("the packet that was sent", p)
	}
}

func TestResultsAreNewMemory(t *testing.T) {
	n := network(3, [2]string{"c", "d"})
	old := clone.Network(n)
	p := packet("a", "b", 7)
	sent, _ := Send(n, p)
	next, got, _ := Next(n, 0)
	got.Events[0].Prev[0] = 99
	copied := Copy(n, 0)
	copied.Packets[3].Events[0].Prev[0] = 98
	if copied.Packets[0].Events[0].Prev[0] == 98 {
		t.Error("the copy of a packet shares memory with it")
	}
	for _, x := range []api.Network{sent, next, Drop(n, 1), copied, Cut(n, "x", "y", true)} {
		for i := range x.Packets {
			x.Packets[i].Ids[0], x.Packets[i].Events[0].Prev[0], x.Packets[i].Auth[0].Id = 99, 99, 99
		}
		x.Cut[0][0] = "z"
	}
	if !same(n, old) || fmt.Sprint(p) != fmt.Sprint(packet("a", "b", 7)) {
		t.Error("a result shares memory with an argument")
	}
}
