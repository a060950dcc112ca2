package rates_test

import (
	"math"
	"math/rand"
	"testing"

	"fedchat/api"
	. "fedchat/rates"
)

func bucket(left, at, most, every int) api.Bucket {
	return api.Bucket{Left: left, At: at, Most: most, Every: every}
}

func TestExample(t *testing.T) {
	b, err := New(3, 10)
	if err != api.OK || b != bucket(3, 0, 3, 10) {
		t.Fatal("New", b, err)
	}
	b, err = Take(b, 0, 3)
	if err != api.OK {
		t.Fatal("Take", err)
	}
	for now, want := range map[int]int{0: 0, 9: 0, 10: 1, 35: 3, 1000: 3, -5: 0, math.MinInt: 0, math.MaxInt: 3} {
		if got := Left(b, now); got != want {
			t.Errorf("Left at %d: %d", now, got)
		}
	}
	if got, err := Take(b, 15, 1); err != api.OK || got != bucket(0, 10, 3, 10) || Left(got, 19) != 0 || Left(got, 20) != 1 {
		t.Error("Take at 15", got, err)
	}
	if Wait(b, 0, 2) != 20 || Wait(b, 0, 4) != -1 {
		t.Error("Wait", Wait(b, 0, 2), Wait(b, 0, 4))
	}
	if got, err := Take(b, 12, 2); err != api.ErrRate || got != (api.Bucket{}) {
		t.Error("Take of too many", err)
	}
	if got, err := Take(b, 12, 0); err != api.ErrRange || got != (api.Bucket{}) {
		t.Error("Take of none", err)
	}
}

func TestNewAndCheck(t *testing.T) {
	for _, c := range []struct {
		most, every int
		want        api.Errno
	}{{1, 1, api.OK}, {1000000, api.MaxTime, api.OK}, {0, 1, api.ErrRange}, {1000001, 1, api.ErrRange}, {1, 0, api.ErrRange}, {1, api.MaxTime + 1, api.ErrRange}, {-1, -1, api.ErrRange}} {
		if b, err := New(c.most, c.every); err != c.want || err == api.OK && b != bucket(c.most, 0, c.most, c.every) || err != api.OK && b != (api.Bucket{}) {
			t.Errorf("New(%d, %d): %d", c.most, c.every, err)
		}
	}
	for _, c := range []struct {
		b    api.Bucket
		want api.Errno
	}{{bucket(0, 0, 1, 1), api.OK}, {bucket(5, api.MaxTime, 5, 1), api.OK}, {bucket(-1, 0, 5, 1), api.ErrRange}, {bucket(6, 0, 5, 1), api.ErrRange}, {bucket(0, -1, 5, 1), api.ErrRange}, {bucket(0, api.MaxTime+1, 5, 1), api.ErrRange}, {api.Bucket{}, api.ErrRange}} {
		if got := Check(c.b); got != c.want {
			t.Errorf("Check of %v: %d", c.b, got)
		}
		if c.want != api.OK {
			if _, err := Take(c.b, 0, 1); err != api.ErrRange || Left(c.b, 5) != 0 || Wait(c.b, 0, 1) != -1 {
				t.Errorf("a wrong bucket %v: %d", c.b, err)
			}
		}
	}
}

func TestExtremes(t *testing.T) {
	b := bucket(999999, 5, 1000000, 1)
	if Left(b, math.MaxInt) != 1000000 || Left(b, math.MinInt) != 999999 {
		t.Error("Left")
	}
	for _, now := range []int{-1, api.MaxTime + 1, math.MaxInt, math.MinInt} {
		if _, err := Take(b, now, 1); err != api.ErrRange || Wait(b, now, 1) != -1 {
			t.Error("no time", now, err)
		}
	}
	if _, err := Take(b, 0, math.MaxInt); err != api.ErrRate || Wait(b, 0, math.MaxInt) != -1 || Wait(b, 0, math.MinInt) != -1 {
		t.Error("many tokens", err)
	}
	late := bucket(0, api.MaxTime-5, 10, 3)
	if Wait(late, 0, 1) != api.MaxTime-2 || Wait(late, api.MaxTime, 1) != 0 || Wait(late, api.MaxTime, 2) != -1 || Wait(late, 7, 2) != -1 {
		t.Error("the last times", Wait(late, 0, 1), Wait(late, api.MaxTime, 2))
	}
	slow := bucket(0, 0, 1000000, api.MaxTime)
	if Wait(slow, 0, 1) != api.MaxTime || Wait(slow, 0, 1000000) != -1 {
		t.Error("a slow bucket")
	}
}

func TestFollowsTheDefinition(t *testing.T) {
	source := rand.New(rand.NewSource(1))
	for range 20000 {
		most := 1 + source.Intn(5)
		b := bucket(source.Intn(most+1), source.Intn(30), most, 1+source.Intn(7))
		now, n := source.Intn(80), 1+source.Intn(6)
		at := max(now, b.At)
		k := 0
		for b.At+(k+1)*b.Every <= at {
			k++
		}
		have := min(most, b.Left+k)
		if Left(b, now) != have {
			t.Fatal("Left", b, now)
		}
		got, err := Take(b, now, n)
		if (err == api.OK) != (have >= n) || err != api.OK && err != api.ErrRate {
			t.Fatal("Take", b, now, n, err)
		}
		if err == api.OK {
			want := bucket(have-n, b.At+k*b.Every, b.Most, b.Every)
			if b.Left+k >= most {
				want.At = at
			}
			if got != want || Check(got) != api.OK || now >= b.At && Left(got, now) != have-n {
				t.Fatal("the bucket", b, now, n, got)
			}
		}
		wait := 0
		for wait < 100 {
			if _, err := Take(b, now+wait, n); err == api.OK {
				break
			}
			wait++
		}
		if wait == 100 {
			wait = -1
		}
		if Wait(b, now, n) != wait {
			t.Fatal("Wait", b, now, n, wait)
		}
		if Left(b, now+source.Intn(20)) < Left(b, now) || Left(b, now) > most {
			t.Fatal("the count decreases", b, now)
		}
	}
}

func TestNoMoreThanArrive(t *testing.T) {
	source := rand.New(rand.NewSource(2))
	for range 500 {
		start := bucket(source.Intn(4), source.Intn(20), 3, 1+source.Intn(5))
		b, taken, last := start, 0, 0
		for range 40 {
			now, n := source.Intn(100), 1+source.Intn(3)
			if next, err := Take(b, now, n); err == api.OK {
				b, taken, last = next, taken+n, max(last, now)
			}
		}
		if limit := start.Left + max(0, last-start.At)/start.Every; taken > limit {
			t.Fatal("too many tokens", start, taken, limit)
		}
	}
}
