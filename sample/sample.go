// Package sample grows sets of events for the tests of the other packages. The program itself does not use it.
package sample

import (
	"fedchat/api"
	"fedchat/authset"
	"fedchat/content"
	"fedchat/event"
	"fedchat/graph"
	"fedchat/history"
	"fedchat/ids"
	"fedchat/num"
	"fedchat/resolve"
	"fedchat/room"
	"fedchat/store"
)

// Room is a room whose events are a right set.
type Room struct {
	Id     string
	Events []api.Event
}

// Frame returns an event behind the events of prev, or behind the heads if there are none named, with the authorization events of the state there; it is not signed.
func (r *Room) Frame(sender string, k api.Kind, key string, c api.Content, time int, prev ...int) api.Event {
	e := api.Event{Room: r.Id, Sender: sender, Kind: k, State: content.State(k), Key: key, Time: time, Depth: 1, Content: c}
	b, right := history.Open(r.Events)
	if k == api.KCreate || !right {
		return e
	}
	if len(prev) == 0 {
		prev = b.Heads()
	}
	e.Prev = num.Sorted(prev)
	states := []api.State{}
	for _, id := range e.Prev {
		e.Depth = max(e.Depth, b.Event(id).Depth+1)
		states = append(states, b.After(id))
	}
	e.Auth = authset.Select(e, resolve.Resolve(r.Events, states))
	return e
}

// Add puts an event behind others into the room, signed by the server of its sender.
func (r *Room) Add(sender string, k api.Kind, key string, c api.Content, time int, prev ...int) api.Event {
	return r.Put(r.Frame(sender, k, key, c, time, prev...))
}

// Put signs an event by the server of its sender, and puts it into the room.
func (r *Room) Put(e api.Event) api.Event {
	signed := event.Sign(e, ids.ServerOf(e.Sender))
	r.Events, _ = store.Put(r.Events, signed)
	return signed
}

// New returns a room that its creator has joined, with a join rule and a visibility.
func New(id, creator string, rule, visibility int) *Room {
	r := &Room{Id: id}
	r.Add(creator, api.KCreate, "", api.Content{}, 0)
	r.Add(creator, api.KMember, creator, api.Content{N: api.Join}, 0)
	r.Add(creator, api.KRules, "", api.Content{N: rule}, 0)
	r.Add(creator, api.KHistory, "", api.Content{N: visibility}, 0)
	return r
}

// Users are those of the rooms that Random returns; the first one is the creator.
func Users() []string {
	return []string{"@ann:a", "@bob:b", "@cy:c", "@dan:a", "@eve:evil"}
}

// Random returns a room with n events by chance, of which some are rejected; pick returns a number from 0 to n - 1.
func Random(pick func(n int) int, n int) *Room {
	r := New("!r:a", Users()[0], []int{api.Public, api.Public, api.ByInvite, api.ByKnock, api.Restricted}[pick(5)], pick(4))
	for _, user := range Users()[1:] {
		if len(r.Events) < n && pick(3) > 0 {
			r.Add(Users()[0], api.KMember, user, api.Content{N: api.Invite}, pick(20))
			r.Add(user, api.KMember, user, api.Content{N: api.Join}, pick(20))
		}
	}
	for len(r.Events) < n {
		e := randomEvent(r, pick)
		if event.Check(e) == api.OK {
			r.Put(e)
		}
	}
	return r
}

func randomEvent(r *Room, pick func(n int) int) api.Event {
	users := Users()
	sender := users[pick(len(users))]
	if pick(3) > 0 {
		sender = users[pick(3)]
	}
	prev := []int{}
	for range pick(3) {
		prev = append(prev, r.Events[pick(len(r.Events))].Id)
	}
	k, key, c := randomContent(r, pick, sender)
	e := r.Frame(sender, k, key, c, pick(20), prev...)
	if len(e.Prev) > api.MaxPrev {
		e.Prev = e.Prev[:1]
		first, _ := store.Get(r.Events, e.Prev[0])
		e.Depth = first.Depth + 1
		e.Auth = nil
	}
	if pick(10) == 0 {
		e.Auth = randomAuth(r, pick, e)
	}
	return e
}

// randomAuth returns ids that may be the wrong ones, but keep the set a right one.
func randomAuth(r *Room, pick func(n int) int, e api.Event) []int {
	auth := []int{}
	for _, x := range r.Events {
		needed := x.Kind == api.KCreate || x.Kind == api.KMember && x.Key == e.Sender
		if x.Depth < e.Depth && len(auth) < api.MaxAuth && (needed && pick(2) == 0 || pick(8) == 0) {
			auth = append(auth, x.Id)
		}
	}
	return auth
}

func randomContent(r *Room, pick func(n int) int, sender string) (api.Kind, string, api.Content) {
	users := Users()
	switch pick(14) {
	case 0, 1, 2:
		return api.KMember, sender, api.Content{N: []int{api.Join, api.Join, api.Leave, api.Knock}[pick(4)]}
	case 3, 4:
		return api.KMember, users[pick(len(users))], api.Content{Text: "why", N: pick(5)}
	case 5:
		return api.KPower, "", api.Content{Levels: randomLevels(pick)}
	case 6:
		return api.KRules, "", api.Content{N: pick(4)}
	case 7:
		return api.KHistory, "", api.Content{N: pick(4)}
	case 8, 9:
		return api.KName, "", api.Content{Text: []string{"one", "two", "three"}[pick(3)]}
	case 10:
		return api.KRedact, "", api.Content{Text: "why", Target: 1 + r.Events[pick(len(r.Events))].Id}
	case 11:
		target := r.Events[pick(len(r.Events))].Id
		return []api.Kind{api.KReact, api.KEdit, api.KRedact}[pick(3)], "", api.Content{Text: "+", Target: target}
	}
	return api.KMessage, "", api.Content{Text: []string{"hi bob", "two words", "ann?"}[pick(3)]}
}

func randomLevels(pick func(n int) int) api.Levels {
	v := api.Levels{Users: []api.Level{{User: Users()[0], N: 100}}, Kick: 50, Ban: 50, Redact: 50}
	for _, user := range Users()[1:] {
		if pick(2) == 0 {
			v.Users = append(v.Users, api.Level{User: user, N: 10 * pick(10)})
		}
	}
	if pick(2) == 0 {
		v.State, v.Message = 10*pick(5), 10*pick(2)
	}
	return v
}

// Received returns the room on a server to which the events came in some order; pick decides which comes next.
func Received(r *Room, pick func(n int) int) api.Room {
	got, _ := room.New(r.Id)
	left := store.Of(r.Events, graph.Order(r.Events))
	for len(left) > 0 {
		// Mostly one of the first events comes next, so that few have to wait.
		i := min(pick(3)*pick(3), len(left)-1)
		got, _, _ = room.Receive(got, left[i])
		left = append(left[:i:i], left[i+1:]...)
	}
	return got
}

// InOrder returns the room on a server to which the events came by their depth.
func InOrder(r *Room) api.Room {
	return Received(r, func(int) int { return 0 })
}
