package visible_test

import (
	"fmt"
	"math/rand"
	"slices"
	"testing"

	"fedchat/api"
	"fedchat/clone"
	"fedchat/event"
	"fedchat/graph"
	"fedchat/ids"
	"fedchat/members"
	"fedchat/replay"
	"fedchat/room"
	"fedchat/sample"
	"fedchat/statemap"
	"fedchat/store"
	. "fedchat/visible"
)

func TestExamples(t *testing.T) {
	s := &sample.Room{Id: "!r:s"}
	s.Add("@a:s", api.KCreate, "", api.Content{}, 0)
	s.Add("@a:s", api.KMember, "@a:s", api.Content{N: api.Join}, 0)
	message := s.Add("@a:s", api.KMessage, "", api.Content{Text: "hi"}, 0)
	r := sample.InOrder(s)
	if v, err := At(r.Events, message.Id); v != api.Shared || err != api.OK {
		t.Error("At", v, err)
	}
	if May(r, message.Id, "@a:s") != api.OK || May(r, message.Id, "@b:s") != api.ErrHidden || May(r, 1, "@a:s") != api.ErrNone {
		t.Error("May")
	}
	s.Add("@a:s", api.KMember, "@b:s", api.Content{N: api.Invite}, 0)
	if invited := sample.InOrder(s); May(invited, message.Id, "@b:s") != api.ErrHidden {
		t.Error("an invited user sees what was before")
	}
	s.Add("@b:s", api.KMember, "@b:s", api.Content{N: api.Join}, 0)
	if joined := sample.InOrder(s); May(joined, message.Id, "@b:s") != api.OK {
		t.Error("a joined user does not see what was before")
	}
}

// story returns a room in which a message was sent under each visibility, before and after the invitation and the join of @bob:b, and after his leave.
func story(visibility int) (*sample.Room, []int) {
	s := sample.New("!r:a", "@ann:a", api.ByInvite, visibility)
	messages := []int{}
	say := func(text string) {
		messages = append(messages, s.Add("@ann:a", api.KMessage, "", api.Content{Text: text}, 0).Id)
	}
	member := func(sender string, n int) {
		s.Add(sender, api.KMember, "@bob:b", api.Content{N: n}, 0)
	}
	say("before")
	member("@ann:a", api.Invite)
	say("invited")
	member("@bob:b", api.Join)
	say("joined")
	member("@bob:b", api.Leave)
	say("left")
	return s, messages
}

func TestVisibilities(t *testing.T) {
	for visibility, want := range map[int]string{api.Shared: "0 0 0 23", api.World: "0 0 0 0", api.Invited: "23 0 0 23", api.Joined: "23 23 0 23"} {
		s, messages := story(visibility)
		r := sample.InOrder(s)
		got := []api.Errno{}
		for _, id := range messages {
			got = append(got, May(r, id, "@bob:b"))
			if May(r, id, "@ann:a") != api.OK {
				t.Error("the sender does not see", id)
			}
			if seen := Server(r, id, "b"); seen != (May(r, id, "@bob:b") == api.OK) {
				t.Error("the server of the user", visibility, seen)
			}
			if Server(r, id, "c") || !Server(r, id, "a") || Server(r, id, "") {
				t.Error("other servers", visibility)
			}
		}
		if s := fmt.Sprint(got); s != "["+want+"]" {
			t.Errorf("the visibility %d: %s", visibility, s)
		}
	}
}

func TestChangesOfTheVisibility(t *testing.T) {
	s := sample.New("!r:a", "@ann:a", api.ByInvite, api.Joined)
	opened := s.Add("@ann:a", api.KHistory, "", api.Content{N: api.World}, 0)
	closed := s.Add("@ann:a", api.KHistory, "", api.Content{N: api.Invited}, 0)
	shared := s.Add("@ann:a", api.KHistory, "", api.Content{N: api.Shared}, 0)
	narrow := s.Add("@ann:a", api.KHistory, "", api.Content{N: api.Joined}, 0)
	behind := s.Add("@ann:a", api.KName, "", api.Content{Text: "n"}, 0)
	refused := s.Add("@eve:e", api.KHistory, "", api.Content{N: api.World}, 0)
	l := s.Events
	for name, c := range map[string]struct{ id, want int }{"opened": {opened.Id, api.World}, "closed": {closed.Id, api.World}, "shared": {shared.Id, api.Shared}, "narrow": {narrow.Id, api.Shared}, "behind": {behind.Id, api.Joined}, "refused": {refused.Id, api.Joined}} {
		if v, err := At(l, c.id); v != c.want || err != api.OK {
			t.Errorf("%s: %d, %d", name, v, err)
		}
	}
	if v, err := At(l, 1); v != 0 || err != api.ErrNone {
		t.Error("an unknown event", v, err)
	}
	if v, err := At(l[1:], l[1].Id); v != 0 || err != api.ErrNone {
		t.Error("no right set", v, err)
	}
}

func TestMember(t *testing.T) {
	s := sample.New("!r:a", "@ann:a", api.ByInvite, api.Shared)
	invite := s.Add("@ann:a", api.KMember, "@bob:b", api.Content{N: api.Invite}, 0)
	join := s.Add("@bob:b", api.KMember, "@bob:b", api.Content{N: api.Join}, 0)
	refused := s.Add("@eve:e", api.KMember, "@bob:b", api.Content{N: api.Ban}, 0)
	for name, c := range map[string]struct {
		id   int
		user string
		want string
	}{"invite": {invite.Id, "@bob:b", "[0 1]"}, "join": {join.Id, "@bob:b", "[1 3]"}, "refused": {refused.Id, "@bob:b", "[3]"}, "another user": {join.Id, "@ann:a", "[3]"}, "unknown": {1, "@bob:b", "[]"}} {
		if got := fmt.Sprint(Member(s.Events, c.id, c.user)); got != c.want {
			t.Errorf("%s: %s", name, got)
		}
	}
}

func TestSoftAndRejectedEventsAreNotSeen(t *testing.T) {
	s := sample.New("!r:a", "@ann:a", api.Public, api.World)
	join := s.Add("@bob:b", api.KMember, "@bob:b", api.Content{N: api.Join}, 0)
	s.Add("@ann:a", api.KMember, "@bob:b", api.Content{N: api.Ban}, 0)
	r := sample.InOrder(s)
	soft := s.Add("@bob:b", api.KMessage, "", api.Content{Text: "hi"}, 0, join.Id)
	r, status, _ := room.Receive(r, soft)
	if status != api.Soft || May(r, soft.Id, "@ann:a") != api.ErrNone || slices.Contains(Rows(r, "@ann:a"), soft.Id) {
		t.Error("a soft event", status)
	}
	rejected := s.Add("@eve:e", api.KMessage, "", api.Content{Text: "hi"}, 0)
	r, status, _ = room.Receive(r, rejected)
	if status != api.Rejected || May(r, rejected.Id, "@ann:a") != api.ErrNone || Server(r, rejected.Id, "a") {
		t.Error("a rejected event", status)
	}
}

// mayAsWritten follows the definition.
func mayAsWritten(r api.Room, id int, user string) api.Errno {
	row, found := room.Row(r, id)
	if _, known := store.Get(r.Events, id); !known || !found || row.Status != api.Accepted {
		return api.ErrNone
	}
	v, _ := At(r.Events, id)
	ms := Member(r.Events, id, user)
	if v == api.World || slices.Contains(ms, api.Join) {
		return api.OK
	}
	if v != api.Shared && !(v == api.Invited && slices.Contains(ms, api.Invite)) {
		return api.ErrHidden
	}
	if members.InState(r.Events, r.State, user) == api.Join {
		return api.OK
	}
	for _, x := range r.Rows {
		joined := members.InState(r.Events, replay.After(r.Events, x.Id), user) == api.Join
		if x.Status == api.Accepted && joined && (x.Id == id || graph.Before(r.Events, id, x.Id)) {
			return api.OK
		}
	}
	return api.ErrHidden
}

// atAsWritten follows the definition.
func atAsWritten(l []api.Event, id int) int {
	before, status := replay.At(l, id)
	v := api.Shared
	if named, found := statemap.Get(before, api.KHistory, ""); found {
		e, _ := store.Get(l, named)
		v = e.Content.N
	}
	if e, _ := store.Get(l, id); e.Kind == api.KHistory && status == api.Accepted {
		order := []int{api.World, api.Shared, api.Invited, api.Joined}
		v = order[min(slices.Index(order, v), slices.Index(order, e.Content.N))]
	}
	return v
}

func TestFollowsTheDefinitions(t *testing.T) {
	source := rand.New(rand.NewSource(1))
	answers := map[api.Errno]int{}
	for range 20 {
		s := sample.Random(source.Intn, 20)
		r := sample.Received(s, source.Intn)
		stripped := clone.Room(r)
		for i, e := range stripped.Events {
			stripped.Events[i] = event.Strip(e)
		}
		seen := map[string]bool{}
		for _, user := range sample.Users() {
			rows := []int{}
			for _, row := range r.Rows {
				got := May(r, row.Id, user)
				answers[got]++
				if want := mayAsWritten(r, row.Id, user); got != want {
					t.Fatal("May", row, user, got, want)
				}
				if v, _ := At(r.Events, row.Id); v != atAsWritten(r.Events, row.Id) {
					t.Fatal("At", row.Id, v)
				}
				if got == api.OK {
					rows = append(rows, row.Id)
					seen[fmt.Sprint(row.Id, ids.ServerOf(user))] = true
				}
			}
			if got := Rows(r, user); !slices.Equal(got, rows) {
				t.Fatal("Rows", user, got, rows)
			}
			if !slices.Equal(Rows(stripped, user), rows) {
				t.Fatal("stripping changes what is seen")
			}
			member := slices.ContainsFunc(r.Events, func(e api.Event) bool {
				return e.Kind == api.KMember && e.Key == user && replay.Why(r.Events, e.Id) == api.OK
			})
			for _, id := range rows {
				if v, _ := At(r.Events, id); !member && v != api.World {
					t.Fatal("a stranger sees", id)
				}
			}
		}
		for _, row := range r.Rows {
			for _, server := range []string{"a", "b", "c", "evil", "x"} {
				known := slices.ContainsFunc(r.Events, func(e api.Event) bool { return e.Kind == api.KMember && ids.ServerOf(e.Key) == server })
				want := seen[fmt.Sprint(row.Id, server)] && known
				if server == "a" {
					// Two users of the sample are of this server, and only one may be in the room.
					want = slices.ContainsFunc(r.Events, func(e api.Event) bool {
						return e.Kind == api.KMember && ids.ServerOf(e.Key) == server && May(r, row.Id, e.Key) == api.OK
					})
				}
				if got := Server(r, row.Id, server); got != want {
					t.Fatal("Server", row, server, got)
				}
			}
		}
	}
	if answers[api.OK] == 0 || answers[api.ErrHidden] == 0 || answers[api.ErrNone] == 0 {
		t.Error("some answers never came", answers)
	}
}

func TestOtherRooms(t *testing.T) {
	s := sample.New("!r:a", "@ann:a", api.Public, api.World)
	r := sample.InOrder(s)
	r.Events = r.Events[1:]
	if May(r, r.Events[0].Id, "@ann:a") != api.ErrNone || len(Rows(r, "@ann:a")) != 0 || Server(r, r.Events[0].Id, "a") {
		t.Error("a room without a right set")
	}
	if May(api.Room{}, 0, "") != api.ErrNone || len(Rows(api.Room{Rows: []api.Row{{Status: api.Accepted}}}, "")) != 0 {
		t.Error("a room without events")
	}
}
