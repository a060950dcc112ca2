package outgoing_test

import (
	"math/rand"
	"slices"
	"testing"

	"fedchat/access"
	"fedchat/api"
	"fedchat/clone"
	"fedchat/content"
	"fedchat/event"
	"fedchat/ids"
	"fedchat/members"
	"fedchat/num"
	. "fedchat/outgoing"
	"fedchat/redact"
	"fedchat/room"
	"fedchat/sample"
	"fedchat/statemap"
	"fedchat/store"
	"fedchat/visible"
)

func TestExamples(t *testing.T) {
	s := sample.New("!r:a", "@u:a", api.Public, api.Joined)
	early := s.Add("@u:a", api.KMessage, "", api.Content{Text: "early"}, 0)
	name := s.Add("@u:a", api.KName, "", api.Content{Text: "name"}, 0)
	s.Add("@v:b", api.KMember, "@v:b", api.Content{N: api.Join}, 0)
	late := s.Add("@u:a", api.KMessage, "", api.Content{Text: "late"}, 0)
	red := s.Add("@u:a", api.KName, "", api.Content{Text: "old"}, 0)
	s.Add("@u:a", api.KRedact, "", api.Content{Target: red.Id}, 0)
	r := sample.InOrder(s)
	for _, c := range []struct {
		e      api.Event
		server string
		whole  bool
	}{{early, "b", false}, {early, "a", true}, {late, "b", true}, {late, "c", false}, {name, "b", true}, {name, "c", true}, {red, "b", false}, {red, "a", false}} {
		want := c.e
		if !c.whole {
			want = event.Strip(c.e)
		}
		if got := Event(r, c.e, c.server); !event.Same(got, want) {
			t.Errorf("%q for %s: %v", c.e.Content.Text, c.server, got.Content)
		}
	}
}

func TestGoneRowsAndUnknownEvents(t *testing.T) {
	s := sample.New("!r:a", "@u:a", api.Public, api.World)
	s.Add("@v:b", api.KMember, "@v:b", api.Content{N: api.Join}, 0)
	message := s.Add("@u:a", api.KMessage, "", api.Content{Text: "hi"}, 0)
	r := sample.InOrder(s)
	if !event.Same(Event(r, message, "b"), message) {
		t.Error("a visible message")
	}
	if !event.Same(Event(r, message, "c"), event.Strip(message)) {
		t.Error("a server without members gets what all the world may see")
	}
	gone := clone.Room(r)
	gone.Rows[len(gone.Rows)-1].Gone = true
	if !event.Same(Event(gone, message, "b"), event.Strip(message)) {
		t.Error("a row that is gone")
	}
	later := s.Add("@u:a", api.KMessage, "", api.Content{Text: "ho"}, 0)
	name := s.Add("@u:a", api.KName, "", api.Content{Text: "name"}, 0)
	if !event.Same(Event(r, later, "b"), event.Strip(later)) || !event.Same(Event(r, name, "b"), name) {
		t.Error("events that the room does not have")
	}
	if got := Event(api.Room{}, message, "a"); !event.Same(got, event.Strip(message)) {
		t.Error("an empty room")
	}
}

func TestToAndMay(t *testing.T) {
	s := sample.New("!r:a", "@u:a", api.Public, api.Shared)
	for _, user := range []string{"@v:c", "@w:b", "@x:b", "@y:evil"} {
		s.Add(user, api.KMember, user, api.Content{N: api.Join}, 0)
	}
	s.Add("@u:a", api.KMember, "@z:d", api.Content{N: api.Invite}, 0)
	r := sample.InOrder(s)
	if got := To(r, "a"); !slices.Equal(got, []string{"b", "c", "evil"}) || May(r, "evil") != api.OK || May(r, "nowhere") != api.OK {
		t.Error("without a list", got)
	}
	s.Add("@u:a", api.KAccess, "", api.Content{Allow: []string{"?", "e*"}, Deny: []string{"evil", "a"}}, 0)
	r = sample.InOrder(s)
	if got := To(r, "b"); !slices.Equal(got, []string{"c"}) || May(r, "evil") != api.ErrAccess || May(r, "a") != api.ErrAccess || May(r, "d") != api.OK || May(r, "nowhere") != api.ErrAccess {
		t.Error("with a list", got)
	}
	if len(To(api.Room{}, "")) != 0 || May(api.Room{}, "") != api.OK {
		t.Error("an empty room")
	}
}

func TestFollowsTheDefinitions(t *testing.T) {
	source := rand.New(rand.NewSource(1))
	whole, stripped := 0, 0
	for range 12 {
		s := sample.Random(source.Intn, 20)
		r := sample.Received(s, source.Intn)
		for i := range r.Rows {
			r.Rows[i].Gone = source.Intn(8) == 0
		}
		gone := redact.Gone(r.Events)
		state := statemap.Events(r.Events, r.State)
		for _, server := range []string{"a", "b", "c", "evil", "x", ""} {
			list := List(r, r.Events, server)
			for i, e := range r.Events {
				row, _ := room.Row(r, e.Id)
				hidden := num.Has(gone, e.Id) || row.Gone || !content.State(e.Kind) && !visible.Server(r, e.Id, server)
				want := e
				if hidden {
					want = event.Strip(e)
					stripped++
				} else {
					whole++
				}
				if got := Event(r, e, server); !event.Same(got, want) || !event.Same(list[i], want) {
					t.Fatal("Event", e, server, got)
				}
				if list[i].Id != e.Id || event.Verify(list[i]) != api.OK || !event.Same(event.Strip(list[i]), event.Strip(e)) {
					t.Fatal("the form changes more than the content", e)
				}
				known := slices.ContainsFunc(r.Events, func(m api.Event) bool { return m.Kind == api.KMember && ids.ServerOf(m.Key) == server })
				if !known && !content.State(e.Kind) && !hidden {
					t.Fatal("a server without members gets a message")
				}
			}
			want := []string{}
			for _, to := range members.Servers(state) {
				if to != server && access.May(state, to) == api.OK {
					want = append(want, to)
				}
			}
			if got := To(r, server); !slices.Equal(got, want) || May(r, server) != access.May(state, server) {
				t.Fatal("To or May", server, got)
			}
		}
	}
	if whole == 0 || stripped == 0 {
		t.Error("one form never occurs", whole, stripped)
	}
}

func TestResultsAreNewMemory(t *testing.T) {
	s := sample.New("!r:a", "@u:a", api.Public, api.World)
	r := sample.InOrder(s)
	old := store.Of(r.Events, store.Ids(r.Events))
	for _, e := range append(List(r, r.Events, "a"), Event(r, r.Events[1], "a")) {
		if len(e.Auth) > 0 {
			e.Auth[0] = 9
		}
	}
	if !store.Same(old, r.Events) {
		t.Error("a result shares memory with an argument")
	}
	if got := List(r, nil, "a"); len(got) != 0 {
		t.Error("no events", got)
	}
}
