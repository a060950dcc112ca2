package sums_test

import (
	"hash/fnv"
	"math"
	"math/big"
	"math/rand"
	"strings"
	"testing"

	. "fedchat/sums"
)

const most = 1<<62 - 1

func TestStartAndSum(t *testing.T) {
	if Start() != 860922984064492325 || Sum(nil) != Start() || Sum([]byte("a")) != 3414815163700866188 {
		t.Error("Start or Sum", Start(), Sum(nil), Sum([]byte("a")))
	}
	if Hex(Start()) != "0bf29ce484222325" || Hex(Sum([]byte("a"))) != "2f63dc4c8601ec8c" {
		t.Error("the texts of the examples")
	}
}

func TestSumIsFNV(t *testing.T) {
	source := rand.New(rand.NewSource(1))
	for range 1000 {
		b := make([]byte, source.Intn(50))
		source.Read(b)
		h := fnv.New64a()
		h.Write(b)
		if got := Sum(b); got != int(h.Sum64()&most) {
			t.Fatalf("Sum(%x) = %x", b, got)
		}
	}
}

// foldSlowly is the definition with numbers of any size.
func foldSlowly(h int, b []byte) int {
	modulus := new(big.Int).Lsh(big.NewInt(1), 62)
	sum := new(big.Int).Mod(big.NewInt(int64(h)), modulus)
	for _, c := range b {
		low := new(big.Int).And(sum, big.NewInt(255))
		sum.Sub(sum, low)
		sum.Add(sum, big.NewInt(low.Int64()^int64(c)))
		sum.Mul(sum, big.NewInt(1099511628211))
		sum.Mod(sum, modulus)
	}
	return int(sum.Int64())
}

func TestFold(t *testing.T) {
	for _, h := range []int{0, 1, -1, most, most + 1, math.MinInt, math.MaxInt, -most} {
		for _, b := range []string{"", "a", "\x00", "\xff\xff", "some longer text"} {
			if got, want := Fold(h, []byte(b)), foldSlowly(h, []byte(b)); got != want {
				t.Errorf("Fold(%d, %q) = %d, want %d", h, b, got, want)
			}
		}
	}
	if Fold(-1, nil) != most {
		t.Error("Fold of no bytes")
	}
}

func TestFoldOfTwoParts(t *testing.T) {
	source := rand.New(rand.NewSource(2))
	for range 500 {
		a, b := make([]byte, source.Intn(9)), make([]byte, source.Intn(9))
		source.Read(a)
		source.Read(b)
		h := int(source.Uint64())
		if Fold(Fold(h, a), b) != Fold(h, append(append([]byte{}, a...), b...)) {
			t.Fatal("two parts", h, a, b)
		}
	}
}

func TestDifferentSumsStayDifferent(t *testing.T) {
	seen := map[int]bool{}
	for c := range 256 {
		seen[Fold(most-5, []byte{byte(c)})] = true
	}
	if len(seen) != 256 {
		t.Error("one byte each", len(seen))
	}
	source := rand.New(rand.NewSource(3))
	for range 500 {
		x := source.Intn(most)
		y := x ^ 1<<uint(source.Intn(62))
		if Fold(x, []byte("ab")) == Fold(y, []byte("ab")) {
			t.Fatal("equal sums of", x, y)
		}
	}
}

func TestHex(t *testing.T) {
	for n, want := range map[int]string{0: "0000000000000000", -1: "3fffffffffffffff", 258: "0000000000000102", most: "3fffffffffffffff", most + 1: "0000000000000000", math.MinInt: "0000000000000000", 0xabcdef: "0000000000abcdef"} {
		if got := Hex(n); got != want {
			t.Errorf("Hex(%d) = %s", n, got)
		}
	}
}

func TestUnhexInvertsHex(t *testing.T) {
	source := rand.New(rand.NewSource(4))
	for range 2000 {
		n := source.Intn(most) >> uint(source.Intn(62))
		if got, ok := Unhex(Hex(n)); got != n || !ok {
			t.Fatal("Unhex of Hex", n, got)
		}
	}
	if n, ok := Unhex(Hex(most)); n != most || !ok {
		t.Error("the greatest sum")
	}
}

func TestUnhexAcceptsNothingElse(t *testing.T) {
	for _, s := range []string{"", "0", "4000000000000000", "ffffffffffffffff", "8000000000000000", "00000000000000000", "000000000000000", "000000000000000A", "000000000000000g", "000000000000000`", "000000000000000:", "000000000000000/", "-000000000000001", "+000000000000001", " 000000000000000", "000000000000000\x00", "\xff00000000000000", strings.Repeat("0", 15) + "\xe9"} {
		if n, ok := Unhex(s); n != 0 || ok {
			t.Errorf("Unhex(%q) = %d, %t", s, n, ok)
		}
	}
	good := Hex(0x123456789abcdef)
	for i := range good {
		for c := range 256 {
			s := good[:i] + string([]byte{byte(c)}) + good[i+1:]
			digit := c >= '0' && c <= '9' || c >= 'a' && c <= 'f'
			small := i > 0 || c >= '0' && c <= '3'
			if n, ok := Unhex(s); ok != (digit && small) || ok && Hex(n) != s {
				t.Fatalf("Unhex(%q) = %d, %t", s, n, ok)
			}
		}
	}
}
