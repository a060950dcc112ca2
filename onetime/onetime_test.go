package onetime_test

import (
	"fmt"
	"math"
	"math/rand"
	"slices"
	"strings"
	"testing"

	"fedchat/api"
	. "fedchat/onetime"
)

func entry(user, device string, next, left int) api.OneTime {
	return api.OneTime{User: user, Device: device, Next: next, Left: left}
}

func TestExample(t *testing.T) {
	l, err := Upload(nil, "@a:s", "d", 2)
	if err != api.OK || !slices.Equal(l, []api.OneTime{entry("@a:s", "d", 2, 2)}) {
		t.Error("Upload", l, err)
	}
	for want := range 2 {
		var key int
		l, key, err = Claim(l, "@a:s", "d")
		if key != want || err != api.OK {
			t.Error("Claim", key, err)
		}
	}
	if none, key, err := Claim(l, "@a:s", "d"); err != api.ErrNone || key != 0 || len(none) != 0 || !slices.Equal(l, []api.OneTime{entry("@a:s", "d", 2, 0)}) {
		t.Error("no key is left", err, l)
	}
	l, _ = Upload(l, "@a:s", "d", 1)
	if l, key, err := Claim(l, "@a:s", "d"); key != 2 || err != api.OK || !slices.Equal(l, []api.OneTime{entry("@a:s", "d", 3, 0)}) {
		t.Error("after another upload", key, err, l)
	}
}

func TestCheck(t *testing.T) {
	for i, c := range []struct {
		l    []api.OneTime
		want api.Errno
	}{
		{nil, api.OK}, {[]api.OneTime{entry("@a:s", "d", 0, 0), entry("@a:s", "e", api.MaxInt, 200), entry("@b:s", "\x00", 7, 7)}, api.OK},
		{[]api.OneTime{entry("a", "d", -1, 0)}, api.ErrName}, {[]api.OneTime{entry("@a:s", "", 0, 0)}, api.ErrName}, {[]api.OneTime{entry("@a:s", strings.Repeat("x", 33), 0, 0)}, api.ErrName},
		{[]api.OneTime{entry("@a:s", "d", 0, -1)}, api.ErrRange}, {[]api.OneTime{entry("@a:s", "d", 201, 201)}, api.ErrRange}, {[]api.OneTime{entry("@a:s", "d", 4, 5)}, api.ErrRange}, {[]api.OneTime{entry("@a:s", "d", api.MaxInt+1, 5)}, api.ErrRange},
		{[]api.OneTime{entry("@b:s", "d", 0, 0), entry("@a:s", "d", 0, 0)}, api.ErrOrder}, {[]api.OneTime{entry("@a:s", "d", 0, 0), entry("@a:s", "d", 0, 0)}, api.ErrOrder}, {[]api.OneTime{entry("@a:s", "e", 0, 0), entry("@a:s", "d", 0, 0), entry("", "", 0, 0)}, api.ErrOrder}, {[]api.OneTime{entry("@a:s", "e", 0, 9), entry("", "", 0, 0)}, api.ErrRange}, {[]api.OneTime{entry("@b:s", "e", 0, 0), entry("@a:s", "d", 0, 1)}, api.ErrRange},
	} {
		if got := Check(c.l); got != c.want {
			t.Errorf("%d: %d, want %d", i, got, c.want)
		}
	}
}

func TestUploadErrors(t *testing.T) {
	l := []api.OneTime{entry("@a:s", "d", 150, 150), entry("@a:s", "e", api.MaxInt-3, 0)}
	bad := []api.OneTime{entry("@a:s", "d", 0, 9)}
	for i, c := range []struct {
		l            []api.OneTime
		user, device string
		n            int
		want         api.Errno
	}{
		{bad, "x", "", 0, api.ErrRange}, {l, "x", "d", 0, api.ErrName}, {l, "@a:s", "", 0, api.ErrName}, {l, "@a:s", strings.Repeat("x", 33), 0, api.ErrName}, {l, "@a:s", "d", 0, api.ErrRange}, {l, "@a:s", "d", 101, api.ErrRange}, {l, "@a:s", "d", math.MinInt, api.ErrRange},
		{l, "@a:s", "d", 50, api.OK}, {l, "@a:s", "d", 51, api.ErrFull}, {l, "@a:s", "e", 3, api.OK}, {l, "@a:s", "e", 4, api.ErrFull}, {l, "@a:s", "f", 100, api.OK},
	} {
		got, err := Upload(c.l, c.user, c.device, c.n)
		if err != c.want || err != api.OK && len(got) != 0 || err == api.OK && Check(got) != api.OK {
			t.Errorf("%d: %d, want %d", i, err, c.want)
		}
	}
	if got, key, err := Claim(bad, "@a:s", "d"); err != api.ErrRange || key != 0 || len(got) != 0 {
		t.Error("Claim of a wrong list", err)
	}
	if _, _, err := Claim(l, "@b:s", "d"); err != api.ErrNone {
		t.Error("Claim of an unknown device", err)
	}
	middle, _ := Upload(l, "@a:s", "dd", 1)
	if fmt.Sprint(middle[1]) != "{@a:s dd 1 1}" || len(middle) != 3 {
		t.Error("a new device", middle)
	}
}

func TestLeftAndLow(t *testing.T) {
	l := []api.OneTime{entry("b", "d", 0, 7), entry("a", "d", 0, 3), entry("b", "d", 0, 9), entry("b", "e", -1, -2)}
	if Left(l, "b", "d") != 7 || Left(l, "b", "e") != -2 || Left(l, "c", "d") != 0 || Left(nil, "", "") != 0 {
		t.Error("Left")
	}
	for least, want := range map[int]string{7: "[{a d 0 3} {b e -1 -2}]", 8: "[{b d 0 7} {a d 0 3} {b e -1 -2}]", -2: "[]", math.MaxInt: fmt.Sprint(l)} {
		if got := fmt.Sprint(Low(l, least)); got != want {
			t.Errorf("Low of %d: %s", least, got)
		}
	}
	Low(l, 100)[0].Left = 50
	if l[0].Left != 7 {
		t.Error("the result shares memory with the argument")
	}
}

func TestEachKeyOnce(t *testing.T) {
	source := rand.New(rand.NewSource(1))
	l := []api.OneTime{}
	uploaded, claimed := map[string]int{}, map[string]int{}
	for range 5000 {
		user, device := []string{"@a:s", "@b:s"}[source.Intn(2)], []string{"d", "e"}[source.Intn(2)]
		old := slices.Clone(l)
		var next []api.OneTime
		var err api.Errno
		if source.Intn(20) == 0 {
			n := 1 + source.Intn(40)
			if next, err = Upload(l, user, device, n); err == api.OK {
				uploaded[user+device] += n
			}
		} else {
			var key int
			if next, key, err = Claim(l, user, device); err == api.OK {
				if key != claimed[user+device] {
					t.Fatal("a gap in the keys", key)
				}
				claimed[user+device]++
			}
		}
		if !slices.Equal(l, old) {
			t.Fatal("the argument was changed")
		}
		if err != api.OK {
			continue
		}
		if Check(next) != api.OK {
			t.Fatal("not valid", next)
		}
		for _, entry := range next {
			if o := entry.User + entry.Device; entry.Next != uploaded[o] || entry.Left != uploaded[o]-claimed[o] || Left(next, entry.User, entry.Device) != entry.Left {
				t.Fatal("the entry", entry)
			}
		}
		l = next
	}
	if claimed["@a:sd"] < 50 {
		t.Error("few keys were claimed", claimed)
	}
}
