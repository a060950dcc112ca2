package authset_test

import (
	"fmt"
	"math/rand"
	"slices"
	"testing"

	"fedchat/api"
	. "fedchat/authset"
	"fedchat/num"
	"fedchat/store"
)

func entry(k api.Kind, key string, id int) api.Entry {
	return api.Entry{Kind: k, Key: key, Id: id}
}

func member(sender, key string, n int) api.Event {
	return api.Event{Room: "!r:x", Sender: sender, Kind: api.KMember, Key: key, Content: api.Content{N: n, Via: "@v:v"}}
}

func TestKeys(t *testing.T) {
	for name, c := range map[string]struct {
		e    api.Event
		want string
	}{
		"create":     {api.Event{Kind: api.KCreate, Sender: "@a:x"}, "[]"},
		"message":    {api.Event{Kind: api.KMessage, Sender: "@a:x"}, "[{1  0} {2 @a:x 0} {3  0}]"},
		"own join":   {member("@a:x", "@a:x", api.Join), "[{1  0} {2 @a:x 0} {3  0} {4  0}]"},
		"own leave":  {member("@a:x", "@a:x", api.Leave), "[{1  0} {2 @a:x 0} {3  0}]"},
		"ban":        {member("@a:x", "@b:y", api.Ban), "[{1  0} {2 @a:x 0} {2 @b:y 0} {3  0}]"},
		"kick":       {member("@b:y", "@a:x", api.Leave), "[{1  0} {2 @a:x 0} {2 @b:y 0} {3  0}]"},
		"invite":     {member("@a:x", "@b:y", api.Invite), "[{1  0} {2 @a:x 0} {2 @b:y 0} {3  0} {4  0}]"},
		"knock":      {member("@a:x", "@a:x", api.Knock), "[{1  0} {2 @a:x 0} {3  0} {4  0}]"},
		"membership": {member("@a:x", "", 9), "[{1  0} {2  0} {2 @a:x 0} {3  0}]"},
		"no kind":    {api.Event{Kind: -7, Key: "k"}, "[{1  0} {2  0} {3  0}]"},
		"rules":      {api.Event{Kind: api.KRules, Sender: "@a:x", Content: api.Content{N: api.Join}}, "[{1  0} {2 @a:x 0} {3  0}]"},
	} {
		if got := fmt.Sprint(Keys(c.e)); got != c.want {
			t.Errorf("%s: %s", name, got)
		}
	}
}

func TestSelect(t *testing.T) {
	s := api.State{entry(api.KCreate, "", 9), entry(api.KMember, "@a:x", 7), entry(api.KMember, "@b:y", 8), entry(api.KPower, "", 3), entry(api.KRules, "", 7), entry(api.KName, "", 1)}
	if got := Select(member("@a:x", "@a:x", api.Join), s); !slices.Equal(got, []int{3, 7, 9}) {
		t.Error("a join", got)
	}
	if got := Select(api.Event{Kind: api.KMessage, Sender: "@c:z"}, s); !slices.Equal(got, []int{3, 9}) {
		t.Error("keys without an entry", got)
	}
	disorder := api.State{entry(api.KPower, "", -5), entry(api.KCreate, "k", 4), entry(api.KCreate, "", 2), entry(api.KCreate, "", 1), entry(api.KPower, "", 6)}
	if got := Select(api.Event{Kind: api.KMessage}, disorder); !slices.Equal(got, []int{-5, 2}) {
		t.Error("a state in disorder", got)
	}
	if len(Select(api.Event{Kind: api.KCreate}, s))+len(Select(api.Event{}, nil)) != 0 {
		t.Error("nothing")
	}
}

// events has an event of each kind of entry that matters, and others.
func events() []api.Event {
	l := []api.Event{
		{Id: 1, Kind: api.KCreate}, {Id: 2, Kind: api.KPower}, {Id: 3, Kind: api.KRules}, {Id: 4, Kind: api.KMember, Key: "@a:x"}, {Id: 5, Kind: api.KMember, Key: "@b:y"},
		{Id: 6, Kind: api.KName}, {Id: 7, Kind: api.KCreate}, {Id: 8, Kind: api.KMember, Key: "@a:x"}, {Id: 9, Kind: api.KCreate}, {Id: 1, Kind: api.KName}, {Id: 10, Kind: api.KCreate, Key: "k"},
	}
	for i := range l {
		l[i].Room = "!r:x"
	}
	l[8].Room = "!s:x"
	return l
}

func TestFits(t *testing.T) {
	message := api.Event{Room: "!r:x", Sender: "@a:x", Kind: api.KMessage}
	for i, c := range []struct {
		e    api.Event
		auth []int
		want api.Errno
	}{
		{message, []int{1, 2, 4}, api.OK}, {message, []int{4, 1}, api.OK}, {message, []int{1}, api.OK},
		{message, nil, api.ErrAuth}, {message, []int{2, 4}, api.ErrAuth}, {message, []int{1, 6}, api.ErrAuth}, {message, []int{1, 3}, api.ErrAuth}, {message, []int{1, 5}, api.ErrAuth},
		{message, []int{1, 1}, api.ErrAuth}, {message, []int{1, 7}, api.ErrAuth}, {message, []int{1, 4, 8}, api.ErrAuth}, {message, []int{10}, api.ErrAuth},
		{message, []int{1, 99}, api.ErrGap}, {message, []int{9, 99}, api.ErrGap}, {message, []int{6, 9}, api.ErrRoom}, {message, []int{9}, api.ErrRoom},
		{member("@a:x", "@a:x", api.Join), []int{1, 2, 3, 4}, api.OK}, {member("@a:x", "@a:x", api.Leave), []int{1, 2, 3, 4}, api.ErrAuth}, {member("@a:x", "@b:y", api.Ban), []int{1, 4, 5}, api.OK},
		{api.Event{Room: "!r:x", Kind: api.KCreate}, nil, api.OK}, {api.Event{Room: "!r:x", Kind: api.KCreate}, []int{1}, api.ErrAuth}, {api.Event{Room: "!q:x", Kind: api.KCreate}, []int{1}, api.ErrRoom},
	} {
		c.e.Auth = c.auth
		if got := Fits(events(), c.e); got != c.want {
			t.Errorf("%d: %d, want %d", i, got, c.want)
		}
	}
}

func TestFrom(t *testing.T) {
	for i, c := range []struct {
		e    api.Event
		auth []int
		want string
	}{
		{api.Event{Sender: "@a:x", Kind: api.KMessage}, []int{4, 2, 1}, "[1 4 2]"},
		{api.Event{Sender: "@a:x", Kind: api.KMessage}, []int{8, 99, 6, 5, 3, 4, 9, 1}, "[9 8]"},
		{member("@a:x", "@b:y", api.Invite), []int{3, 5, 4, 5}, "[4 5 3]"},
		{api.Event{Kind: api.KCreate}, []int{1, 2}, "[]"},
		{api.Event{Kind: api.KName}, nil, "[]"},
	} {
		c.e.Auth = c.auth
		if got := fmt.Sprint(store.Ids(From(events(), c.e))); got != c.want {
			t.Errorf("%d: %s", i, got)
		}
	}
}

func TestSelectedAuthFits(t *testing.T) {
	source := rand.New(rand.NewSource(1))
	users := []string{"@a:x", "@b:y", "@c:z"}
	for range 3000 {
		l := []api.Event{{Id: 50, Kind: api.KCreate, Room: "!r:x"}}
		for i, k := range []api.Kind{api.KPower, api.KRules, api.KName} {
			if source.Intn(2) == 0 {
				l = append(l, api.Event{Id: 40 - i, Kind: k, Room: "!r:x"})
			}
		}
		for i, user := range users {
			if source.Intn(2) == 0 {
				l = append(l, api.Event{Id: 10 + i, Kind: api.KMember, Key: user, Room: "!r:x"})
			}
		}
		s := api.State{}
		for _, e := range l {
			s = append(s, entry(e.Kind, e.Key, e.Id))
		}
		e := member(users[source.Intn(3)], users[source.Intn(3)], source.Intn(5))
		if source.Intn(3) == 0 {
			e.Kind = api.KName
		}
		e.Auth = Select(e, s)
		if got := Fits(l, e); got != api.OK {
			t.Fatal("Fits", e, got)
		}
		from := store.Ids(From(l, e))
		if !slices.Equal(num.Sorted(from), e.Auth) {
			t.Fatal("From", e, from)
		}
	}
}
