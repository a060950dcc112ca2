package levels_test

import (
	"math"
	"math/rand"
	"slices"
	"testing"

	"fedchat/api"
	. "fedchat/levels"
)

type v = api.Levels

func users(pairs ...any) []api.Level {
	l := []api.Level{}
	for i := 0; i < len(pairs); i += 2 {
		l = append(l, api.Level{User: pairs[i].(string), N: pairs[i+1].(int)})
	}
	return l
}

func kinds(pairs ...int) []api.KindLevel {
	l := []api.KindLevel{}
	for i := 0; i < len(pairs); i += 2 {
		l = append(l, api.KindLevel{Kind: api.Kind(pairs[i]), N: pairs[i+1]})
	}
	return l
}

func TestDefault(t *testing.T) {
	if got := Default("@ann:a"); !Same(got, v{Users: users("@ann:a", 100), Kick: 50, Ban: 50, Redact: 50}) {
		t.Error(got)
	}
	if got := Default(""); !Same(got, v{Kick: 50, Ban: 50, Redact: 50}) {
		t.Error(got)
	}
	if got := Default("no user"); User(got, "no user") != 100 || User(got, "@bob:b") != 0 || Needs(got, api.KName) != 0 || Needs(got, api.KMessage) != 0 {
		t.Error(got)
	}
}

func TestOf(t *testing.T) {
	create := func(sender string) api.Event { return api.Event{Kind: api.KCreate, Sender: sender} }
	power := func(n int) api.Event {
		return api.Event{Kind: api.KPower, Sender: "@x:x", Content: api.Content{Levels: v{User: n, Users: users("@u:u", n)}}}
	}
	for name, c := range map[string]struct {
		l       []api.Event
		want    v
		creator string
	}{
		"nothing":       {nil, Default(""), ""},
		"create":        {[]api.Event{{Kind: api.KName}, create("@a:a"), create("@b:b")}, Default("@a:a"), "@a:a"},
		"power":         {[]api.Event{power(1), create("@a:a"), power(2)}, v{User: 1, Users: users("@u:u", 1)}, "@a:a"},
		"only power":    {[]api.Event{power(3)}, v{User: 3, Users: users("@u:u", 3)}, ""},
		"stripped":      {[]api.Event{{Kind: api.KPower}}, v{}, ""},
		"other content": {[]api.Event{{Kind: api.KName, Content: api.Content{Levels: v{User: 9}}}}, Default(""), ""},
	} {
		if got, creator := Of(c.l); !Same(got, c.want) || creator != c.creator {
			t.Errorf("%s: %v of %s", name, got, creator)
		}
	}
	l := []api.Event{power(1)}
	got, _ := Of(l)
	got.Users[0].N = 99
	if l[0].Content.Levels.Users[0].N != 1 {
		t.Error("the result shares memory with the argument")
	}
}

func TestUserAndNeeds(t *testing.T) {
	x := v{Users: users("b", 5, "a", 6, "b", 7), User: -3, Kinds: kinds(7, 1, 7, 2, 99, 3), State: 50, Message: 20}
	for user, want := range map[string]int{"b": 5, "a": 6, "c": -3, "": -3} {
		if got := User(x, user); got != want {
			t.Errorf("User of %s is %d", user, got)
		}
	}
	for k, want := range map[api.Kind]int{api.KName: 1, 99: 3, api.KCreate: 50, api.KCrypt: 50, api.KMessage: 20, api.KRedact: 20, 0: 20, -5: 20, 98: 20} {
		if got := Needs(x, k); got != want {
			t.Errorf("Needs of %d is %d", k, got)
		}
	}
}

func TestChangeOfTheExamples(t *testing.T) {
	base := func() v { return v{Users: users("@ann:a", 100, "@bob:a", 50)} }
	for i, c := range []struct {
		user   string
		change func(x *v)
		want   api.Errno
	}{
		{"@bob:a", func(x *v) {}, api.OK},
		{"@bob:a", func(x *v) { x.Kick = 50 }, api.OK},
		{"@bob:a", func(x *v) { x.Kick = 51 }, api.ErrLevel},
		{"@bob:a", func(x *v) { x.Users[1].N = 49 }, api.OK},
		{"@bob:a", func(x *v) { x.Users[1].N = 51 }, api.ErrLevel},
		{"@bob:a", func(x *v) { x.Users = append(x.Users, users("@cy:a", 50)...) }, api.OK},
		{"@bob:a", func(x *v) { x.Users = append(x.Users, users("@cy:a", 51)...) }, api.ErrLevel},
		{"@bob:a", func(x *v) { x.Users[0].N = 99 }, api.ErrLevel},
		{"@bob:a", func(x *v) { x.Users[0].N = 10 }, api.ErrLevel},
		{"@bob:a", func(x *v) { x.Users = x.Users[1:] }, api.ErrLevel},
		{"@bob:a", func(x *v) { x.Users = x.Users[:1] }, api.OK},
		{"@ann:a", func(x *v) { x.Users[1].N = 100 }, api.OK},
		{"@ann:a", func(x *v) { x.Users[1].N = 101 }, api.ErrLevel},
		{"@cy:a", func(x *v) { x.User = 0 }, api.OK},
		{"@cy:a", func(x *v) { x.User = 1 }, api.ErrLevel},
		{"@cy:a", func(x *v) { x.User = -1 }, api.OK},
		{"@cy:a", func(x *v) { x.Kick = -5 }, api.OK},
	} {
		next := base()
		c.change(&next)
		if got := Change(base(), next, c.user); got != c.want {
			t.Errorf("%d: Change by %s is %d", i, c.user, got)
		}
	}
	equals := v{Users: users("@ann:a", 100, "@bob:a", 100)}
	if Change(equals, v{Users: users("@ann:a", 100, "@bob:a", 50)}, "@ann:a") != api.ErrLevel || Change(equals, v{Users: users("@ann:a", 50, "@bob:a", 100)}, "@ann:a") != api.OK {
		t.Error("equals")
	}
}

func TestEachNumberCounts(t *testing.T) {
	numbers := []func(x *v) *int{func(x *v) *int { return &x.User }, func(x *v) *int { return &x.Message }, func(x *v) *int { return &x.State }, func(x *v) *int { return &x.Invite }, func(x *v) *int { return &x.Kick }, func(x *v) *int { return &x.Ban }, func(x *v) *int { return &x.Redact }}
	for i, number := range numbers {
		for _, c := range []struct {
			before, after int
			want          api.Errno
		}{{10, 20, api.OK}, {10, 21, api.ErrLevel}, {21, 10, api.ErrLevel}, {21, 21, api.OK}, {20, 10, api.OK}, {-1, -2, api.OK}} {
			old, next := v{Users: users("u", 20)}, v{Users: users("u", 20)}
			*number(&old), *number(&next) = c.before, c.after
			if got := Change(old, next, "u"); got != c.want {
				t.Errorf("the number %d from %d to %d: %d", i, c.before, c.after, got)
			}
		}
	}
}

func TestKindsCount(t *testing.T) {
	for i, c := range []struct {
		before, after []api.KindLevel
		want          api.Errno
	}{
		{nil, kinds(7, 20), api.OK}, {nil, kinds(7, 21), api.ErrLevel}, {kinds(7, 21), nil, api.ErrLevel}, {kinds(7, 21), kinds(7, 21), api.OK},
		{kinds(7, 21), kinds(7, 21, 9, 3), api.OK}, {nil, kinds(7, 10), api.OK}, {nil, kinds(11, 5), api.OK}, {kinds(7, 30), kinds(7, 30, 7, 2), api.OK}, {kinds(7, 30, 7, 2), kinds(7, 2), api.ErrLevel},
		{kinds(11, 3, 7, 19), kinds(7, 3, 11, 22), api.ErrLevel},
	} {
		old, next := v{Users: users("u", 20), Kinds: c.before}, v{Users: users("u", 20), Kinds: c.after}
		old.State, next.State = 10, 10
		if got := Change(old, next, "u"); got != c.want {
			t.Errorf("%d: %d", i, got)
		}
	}
	if Change(v{State: 30, Kinds: kinds(7, 5), Users: users("u", 20)}, v{State: 30, Users: users("u", 20)}, "u") != api.ErrLevel {
		t.Error("what is removed counts as the general level")
	}
}

// random returns any levels of few users and kinds.
func random(source *rand.Rand) v {
	n := func() int { return source.Intn(4) }
	x := v{User: n(), Message: n(), State: n(), Invite: n(), Kick: n(), Ban: n(), Redact: n()}
	for _, u := range []string{"a", "b", "c"} {
		if source.Intn(2) == 0 {
			x.Users = append(x.Users, users(u, n())...)
		}
	}
	for _, k := range []int{3, 7, 11, 99} {
		if source.Intn(3) == 0 {
			x.Kinds = append(x.Kinds, kinds(k, n())...)
		}
	}
	return x
}

// allowed is the definition, written for itself.
func allowed(old, next v, user string) bool {
	own := User(old, user)
	ok := true
	pair := func(x, y int) { ok = ok && (x == y || x <= own && y <= own) }
	pair(old.User, next.User)
	pair(old.Message, next.Message)
	pair(old.State, next.State)
	pair(old.Invite, next.Invite)
	pair(old.Kick, next.Kick)
	pair(old.Ban, next.Ban)
	pair(old.Redact, next.Redact)
	for _, k := range slices.Concat(old.Kinds, next.Kinds) {
		pair(Needs(old, k.Kind), Needs(next, k.Kind))
	}
	for _, u := range slices.Concat(old.Users, next.Users) {
		x, y := User(old, u.User), User(next, u.User)
		pair(x, y)
		ok = ok && (x == y || u.User == user || x < own)
	}
	return ok
}

func TestChangeFollowsTheDefinition(t *testing.T) {
	source := rand.New(rand.NewSource(1))
	count := 0
	for range 100000 {
		old := random(source)
		next := random(source)
		if source.Intn(2) == 0 {
			next = old
			next.Users = random(source).Users
		}
		user := []string{"a", "b", "c", "d"}[source.Intn(4)]
		got := Change(old, next, user)
		if (got == api.OK) != allowed(old, next, user) || got != api.OK && got != api.ErrLevel {
			t.Fatal(old, next, user, got)
		}
		if Change(old, old, user) != api.OK {
			t.Fatal("no change", old)
		}
		slices.Reverse(old.Users)
		slices.Reverse(next.Kinds)
		if Change(old, next, user) != got {
			t.Fatal("the order matters", old, next)
		}
		if got != api.OK {
			continue
		}
		count++
		own := User(old, user)
		for _, u := range slices.Concat(old.Users, next.Users) {
			if User(next, u.User) > own && User(next, u.User) != User(old, u.User) {
				t.Fatal("a gain", old, next, user)
			}
			if u.User != user && User(old, u.User) >= own && User(next, u.User) != User(old, u.User) {
				t.Fatal("an equal is changed", old, next, user)
			}
		}
	}
	if count < 100 {
		t.Error("few changes are allowed", count)
	}
}

func TestSame(t *testing.T) {
	a := v{Users: users("a", 1, "b", 2), Kinds: kinds(1, 1, 2, 2)}
	if !Same(a, a) || !Same(v{Users: []api.Level{}, Kinds: []api.KindLevel{}}, v{}) {
		t.Error("equal levels")
	}
	for i, b := range []v{{}, {Users: a.Users}, {Users: users("b", 2, "a", 1), Kinds: a.Kinds}, {Users: a.Users, Kinds: kinds(2, 2, 1, 1)}, {Users: a.Users, Kinds: a.Kinds, Redact: 1}, {Users: a.Users, Kinds: a.Kinds, User: math.MinInt}} {
		if Same(a, b) || Same(b, a) {
			t.Errorf("%d: levels that differ", i)
		}
	}
}
