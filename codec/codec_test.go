package codec_test

import (
	"bytes"
	"encoding/hex"
	"math"
	"math/rand"
	"slices"
	"testing"

	. "fedchat/codec"
)

func bytesOf(t *testing.T, s string) []byte {
	b, err := hex.DecodeString(s)
	if err != nil {
		t.Fatal(err)
	}
	return b
}

func TestEncodingsOfInts(t *testing.T) {
	for n, want := range map[int]string{0: "00", -1: "01", 1: "02", 63: "7e", 64: "8001", -64: "7f", -65: "8101", math.MinInt: "ffffffffffffffffff01", math.MaxInt: "feffffffffffffffff01", 8191: "fe7f", 8192: "808001"} {
		if got := hex.EncodeToString(PutInt(nil, n)); got != want {
			t.Errorf("PutInt of %d is %s", n, got)
		}
		if got, rest, ok := GetInt(bytesOf(t, want+"05")); got != n || !ok || !bytes.Equal(rest, []byte{5}) {
			t.Errorf("GetInt of %s is %d, %x, %t", want, got, rest, ok)
		}
	}
}

func TestOtherEncodings(t *testing.T) {
	for _, c := range []struct {
		got  []byte
		want string
	}{{PutText(nil, "ab"), "046162"}, {PutText([]byte{9}, ""), "0900"}, {PutInts(nil, []int{1, -1}), "040201"}, {PutInts(nil, nil), "00"}, {PutTexts(nil, []string{"", "x"}), "04000278"}, {PutTexts([]byte{7}, nil), "0700"}, {PutBool(nil, true), "01"}, {PutBool([]byte{1}, false), "0100"}} {
		if got := hex.EncodeToString(c.got); got != c.want {
			t.Errorf("%s instead of %s", got, c.want)
		}
	}
}

func TestPutReturnsNewMemory(t *testing.T) {
	spare := make([]byte, 1, 100)
	spare[0] = 7
	puts := []func(b []byte) []byte{
		func(b []byte) []byte { return PutInt(b, 1) },
		func(b []byte) []byte { return PutText(b, "x") },
		func(b []byte) []byte { return PutInts(b, []int{1}) },
		func(b []byte) []byte { return PutTexts(b, []string{"x"}) },
		func(b []byte) []byte { return PutBool(b, true) },
	}
	for i, put := range puts {
		first := put(spare)
		old := slices.Clone(first)
		second := put(spare)
		second[len(second)-1] = 99
		second[0] = 98
		if !bytes.Equal(first, old) || spare[0] != 7 || !bytes.Equal(spare[:100][1:], make([]byte, 99)) {
			t.Errorf("put %d wrote into other memory", i)
		}
	}
}

func TestGetReturnsNewMemory(t *testing.T) {
	b := []byte{2, 5, 6}
	_, rest, _ := GetInt(b)
	rest[0] = 9
	if b[1] != 5 {
		t.Error("the rest shares memory with the argument")
	}
}

func TestNoEncodings(t *testing.T) {
	type get func(b []byte) (any, []byte, bool)
	gets := map[string]get{
		"int":   func(b []byte) (any, []byte, bool) { n, r, ok := GetInt(b); return n == 0, r, ok },
		"text":  func(b []byte) (any, []byte, bool) { s, r, ok := GetText(b); return s == "", r, ok },
		"ints":  func(b []byte) (any, []byte, bool) { l, r, ok := GetInts(b); return len(l) == 0, r, ok },
		"texts": func(b []byte) (any, []byte, bool) { l, r, ok := GetTexts(b); return len(l) == 0, r, ok },
		"bool":  func(b []byte) (any, []byte, bool) { is, r, ok := GetBool(b); return !is, r, ok },
	}
	for kind, texts := range map[string][]string{
		"int":   {"", "80", "8000", "808000", "ffffffffffffffffff02", "ffffffffffffffffff80", "ffffffffffffffffff8100", "8080808080808080808001", "ff"},
		"text":  {"", "0461", "01", "0161", "80", "feffffffffffffffff01", "fdffffffffffffffff01", "800061"},
		"ints":  {"", "04", "0402", "01", "0101", "048000", "feffffffffffffffff01", "0480"},
		"texts": {"", "0400", "01", "020461", "0201", "feffffffffffffffff01", "ffffffffffffffffff01"},
		"bool":  {"", "02", "ff", "80", "8001"},
	} {
		for _, text := range texts {
			if zero, rest, ok := gets[kind](bytesOf(t, text)); ok || len(rest) != 0 || zero != true {
				t.Errorf("a %s is read from %s", kind, text)
			}
		}
	}
}

func randomInt(source *rand.Rand) int {
	return int(source.Uint64()) >> uint(source.Intn(64))
}

func randomTexts(source *rand.Rand) []string {
	l := make([]string, source.Intn(5))
	for i := range l {
		b := make([]byte, source.Intn(4)*source.Intn(50))
		source.Read(b)
		l[i] = string(b)
	}
	return l
}

func TestRoundTrip(t *testing.T) {
	source := rand.New(rand.NewSource(1))
	for range 3000 {
		front, tail := make([]byte, source.Intn(4)), make([]byte, source.Intn(4))
		source.Read(front)
		source.Read(tail)
		after := func(b []byte) []byte {
			if !bytes.HasPrefix(b, front) {
				t.Fatal("the bytes before are lost")
			}
			return append(slices.Clone(b[len(front):]), tail...)
		}
		n, texts, is := randomInt(source), randomTexts(source), source.Intn(2) == 0
		ints := make([]int, source.Intn(100))
		for i := range ints {
			ints[i] = randomInt(source)
		}
		if got, rest, ok := GetInt(after(PutInt(front, n))); got != n || !bytes.Equal(rest, tail) || !ok {
			t.Fatal("int", n, got)
		}
		if got, rest, ok := GetInts(after(PutInts(front, ints))); !slices.Equal(got, ints) || !bytes.Equal(rest, tail) || !ok {
			t.Fatal("ints", ints, got)
		}
		if got, rest, ok := GetTexts(after(PutTexts(front, texts))); !slices.Equal(got, texts) || !bytes.Equal(rest, tail) || !ok {
			t.Fatal("texts", texts, got)
		}
		if got, rest, ok := GetBool(after(PutBool(front, is))); got != is || !bytes.Equal(rest, tail) || !ok {
			t.Fatal("bool", is, got)
		}
		for _, s := range texts {
			if got, rest, ok := GetText(after(PutText(front, s))); got != s || !bytes.Equal(rest, tail) || !ok {
				t.Fatal("text", s, got)
			}
		}
	}
}

func TestWhatIsReadIsCanonical(t *testing.T) {
	source := rand.New(rand.NewSource(2))
	read := 0
	for range 100000 {
		b := make([]byte, source.Intn(12))
		for i := range b {
			b[i] = []byte{0, 1, 2, 3, 4, 127, 128, 129, 254, 255}[source.Intn(10)]
		}
		again := [][]byte{}
		if n, rest, ok := GetInt(b); ok {
			again = append(again, append(PutInt(nil, n), rest...))
		}
		if s, rest, ok := GetText(b); ok {
			again = append(again, append(PutText(nil, s), rest...))
		}
		if l, rest, ok := GetInts(b); ok {
			again = append(again, append(PutInts(nil, l), rest...))
		}
		if l, rest, ok := GetTexts(b); ok {
			again = append(again, append(PutTexts(nil, l), rest...))
		}
		if is, rest, ok := GetBool(b); ok {
			again = append(again, append(PutBool(nil, is), rest...))
		}
		for _, c := range again {
			read++
			if !bytes.Equal(b, c) {
				t.Fatalf("%x is read, but written as %x", b, c)
			}
		}
	}
	if read == 0 {
		t.Error("nothing was read")
	}
}
