package ordered

import (
	"fmt"
	"slices"
	"testing"
)

func TestPut(t *testing.T) {
	for _, c := range []struct {
		l    []string
		x    string
		want string
	}{{nil, "b1", "[b1]"}, {[]string{"a1", "c1"}, "b1", "[a1 b1 c1]"}, {[]string{"a1", "c1"}, "c2", "[a1 c2]"}, {[]string{"a1"}, "b1", "[a1 b1]"}, {[]string{"c1", "b1", "a1", "b2"}, "b3", "[c1 b3 a1 b2]"}, {[]string{"c1", "a1"}, "b1", "[b1 c1 a1]"}} {
		old := slices.Clone(c.l)
		got := PutNamed(c.l, c.x, func(x string) string { return x[:1] })
		if fmt.Sprint(got) != c.want || !slices.Equal(old, c.l) {
			t.Errorf("%v with %s: %v", c.l, c.x, got)
		}
		got[0] = "changed"
		if !slices.Equal(old, c.l) {
			t.Error("the result shares memory with the argument")
		}
	}
	if got := Insert([]int{1, 5, 3}, 4, func(other int) bool { return other > 4 }); !slices.Equal(got, []int{1, 4, 5, 3}) {
		t.Error("Insert", got)
	}
}
