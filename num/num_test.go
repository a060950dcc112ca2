package num_test

import (
	"math"
	"math/rand"
	"slices"
	"strconv"
	"testing"

	"fedchat/api"
	. "fedchat/num"
)

// edges are numbers at which bounded arithmetic and texts go wrong most easily.
var edges = []int{math.MinInt, math.MinInt + 1, -api.MaxInt - 1, -api.MaxInt, -api.MaxInt + 1, -101, -10, -9, -1, 0, 1, 9, 10, 99, 100, api.MaxInt - 1, api.MaxInt, api.MaxInt + 1, math.MaxInt - 1, math.MaxInt}

func TestClip(t *testing.T) {
	for _, n := range edges {
		for _, lo := range edges {
			for _, hi := range edges {
				want := lo
				if lo <= hi {
					want = max(lo, min(n, hi))
				}
				if got := Clip(n, lo, hi); got != want {
					t.Fatalf("Clip(%d, %d, %d) = %d, want %d", n, lo, hi, got, want)
				}
			}
		}
	}
	if Clip(7, 1, 5) != 5 || Clip(7, 9, 5) != 9 || Clip(0, 1, 5) != 1 || Clip(3, 1, 5) != 3 {
		t.Error("Clip of the examples")
	}
}

func TestAdd(t *testing.T) {
	within := func(n int) int { return max(-api.MaxInt, min(n, api.MaxInt)) }
	for _, a := range edges {
		for _, b := range edges {
			if got, want := Add(a, b), within(within(a)+within(b)); got != want {
				t.Fatalf("Add(%d, %d) = %d, want %d", a, b, got, want)
			}
		}
	}
	if Add(api.MaxInt, 5) != api.MaxInt || Add(api.MaxInt+7, -3) != api.MaxInt-3 {
		t.Error("Add of the examples")
	}
}

func TestTextIsDecimal(t *testing.T) {
	for _, n := range edges {
		if got := Text(n); got != strconv.Itoa(n) {
			t.Errorf("Text(%d) = %s", n, got)
		}
	}
}

func TestParseInvertsText(t *testing.T) {
	source := rand.New(rand.NewSource(1))
	numbers := slices.Clone(edges)
	for range 2000 {
		numbers = append(numbers, source.Intn(1<<uint(source.Intn(62)+1))-source.Intn(1000))
	}
	for _, n := range numbers {
		got, ok := Parse(Text(n))
		inside := n >= -api.MaxInt && n <= api.MaxInt
		if ok != inside || inside && got != n || !inside && got != 0 {
			t.Errorf("Parse(Text(%d)) = %d, %t", n, got, ok)
		}
	}
}

func TestParseAcceptsNothingElse(t *testing.T) {
	for _, s := range []string{"", "-", "--1", "-0", "00", "01", "-01", "+1", " 1", "1 ", "1x", "x1", "1-", "0x1", "1_0", "1.0", "1e3", "٣", "1000000000001", "-1000000000001", "9999999999999", "10000000000000", "9223372036854775808", "18446744073709551617", "1\x00"} {
		if n, ok := Parse(s); n != 0 || ok {
			t.Errorf("Parse(%q) = %d, %t", s, n, ok)
		}
	}
	alphabet := "-+01 9"
	source := rand.New(rand.NewSource(2))
	for range 5000 {
		s := ""
		for range source.Intn(5) {
			s += string(alphabet[source.Intn(len(alphabet))])
		}
		want, err := strconv.Atoi(s)
		accepted := err == nil && strconv.Itoa(want) == s
		if n, ok := Parse(s); ok != accepted || ok && n != want {
			t.Errorf("Parse(%q) = %d, %t", s, n, ok)
		}
	}
}

func TestMax(t *testing.T) {
	for _, c := range []struct {
		l    []int
		want int
		ok   bool
	}{{nil, 0, false}, {[]int{}, 0, false}, {[]int{-5, -9}, -5, true}, {[]int{math.MinInt}, math.MinInt, true}, {[]int{3, 7, 7, -2}, 7, true}} {
		if got, ok := Max(c.l); got != c.want || ok != c.ok {
			t.Errorf("Max(%v) = %d, %t", c.l, got, ok)
		}
	}
}

// set is the reference for lists that are used as sets.
func set(l []int) map[int]bool {
	m := map[int]bool{}
	for _, n := range l {
		m[n] = true
	}
	return m
}

func increasing(l []int) bool {
	for i := 1; i < len(l); i++ {
		if l[i] <= l[i-1] {
			return false
		}
	}
	return true
}

func TestSets(t *testing.T) {
	source := rand.New(rand.NewSource(3))
	list := func() []int {
		l := make([]int, source.Intn(8))
		for i := range l {
			l[i] = source.Intn(9) - 4
		}
		return l
	}
	for range 3000 {
		a, b := list(), list()
		oldA, oldB := slices.Clone(a), slices.Clone(b)
		sorted, union, minus := Sorted(a), Union(a, b), Minus(a, b)
		if !increasing(sorted) || !increasing(union) || !increasing(minus) {
			t.Fatal("not increasing", a, b, sorted, union, minus)
		}
		inA, inB := set(a), set(b)
		for n := -5; n <= 5; n++ {
			if slices.Contains(sorted, n) != inA[n] || slices.Contains(union, n) != (inA[n] || inB[n]) || slices.Contains(minus, n) != (inA[n] && !inB[n]) || Has(a, n) != inA[n] {
				t.Fatal("wrong elements", a, b, sorted, union, minus)
			}
		}
		if !slices.Equal(a, oldA) || !slices.Equal(b, oldB) {
			t.Fatal("an argument was changed")
		}
	}
	if Has(nil, 0) || len(Sorted(nil)) != 0 || len(Union(nil, nil)) != 0 || len(Minus(nil, []int{1})) != 0 {
		t.Error("empty lists")
	}
}

func TestResultsAreNewMemory(t *testing.T) {
	a := []int{1, 2}
	for _, l := range [][]int{Sorted(a), Union(a, nil), Union(nil, a), Minus(a, nil)} {
		l[0] = 9
		if a[0] != 1 {
			t.Fatal("a result shares memory with an argument")
		}
	}
}
