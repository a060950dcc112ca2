// Package sight answers many questions about what users may see of one room, while the room is replayed only once.
package sight

import (
	"slices"

	"fedchat/api"
	"fedchat/graph"
	"fedchat/history"
	"fedchat/ids"
	"fedchat/statemap"
	"fedchat/store"
)

// openness are the ranks of the visibilities Shared, World, Invited and Joined; the most open one has the least.
var openness = [4]int{1, 0, 2, 3}

// Sight is what is known of a room's visibility.
type Sight struct {
	room     api.Room
	book     *history.Book
	statuses map[int]api.Status
	// comes has, for users who were asked for, the events to which they come.
	comes map[string]map[int]bool
	// gone has the events that were redacted, once it was asked for.
	gone map[int]bool
}

// Open returns the sight of a room; of a room without a right set of events nobody sees anything.
func Open(r api.Room) *Sight {
	s := &Sight{room: r, statuses: map[int]api.Status{}, comes: map[string]map[int]bool{}}
	if b, right := history.Open(r.Events); right {
		s.book = b
	}
	for _, row := range r.Rows {
		if _, known := s.statuses[row.Id]; !known {
			s.statuses[row.Id] = row.Status
		}
	}
	return s
}

// Book returns the book of the room's events, or nil.
func (s *Sight) Book() *history.Book {
	return s.book
}

// Room returns the room.
func (s *Sight) Room() api.Room {
	return s.room
}

// Gone returns the ids of the events that were redacted.
func (s *Sight) Gone() map[int]bool {
	if s.gone == nil {
		s.gone = map[int]bool{}
		if s.book != nil {
			for _, r := range s.book.Redactions() {
				s.gone[r.Target] = true
			}
		}
	}
	return s.gone
}

// Rows returns the rows that the user may see, in the order of the timeline.
func (s *Sight) Rows(user string) []api.Row {
	rows := []api.Row{}
	for _, row := range s.room.Rows {
		if s.May(row.Id, user) == api.OK {
			rows = append(rows, row)
		}
	}
	return rows
}

// Shown returns the rows that the user may see, and that are not gone.
func (s *Sight) Shown(user string) []api.Row {
	return slices.DeleteFunc(s.Rows(user), func(row api.Row) bool { return row.Gone })
}

// Visibility returns the visibility at an event that the book has.
func Visibility(b *history.Book, id int) int {
	v := api.Shared
	if named, found := statemap.Get(b.Before(id), api.KHistory, ""); found {
		v = b.Event(named).Content.N
	}
	if e := b.Event(id); e.Kind == api.KHistory && b.Err(id) == api.OK {
		v = moreOpen(v, e.Content.N)
	}
	return v
}

func moreOpen(v, w int) int {
	if openness[w] < openness[v] {
		return w
	}
	return v
}

// Memberships returns the memberships of a user that count at an event that the book has.
func Memberships(b *history.Book, id int, user string) []int {
	ms := []int{membership(b, b.Before(id), user)}
	if e := b.Event(id); e.Kind == api.KMember && e.Key == user && b.Err(id) == api.OK {
		ms = append(ms, e.Content.N)
	}
	return ms
}

func membership(b *history.Book, s api.State, user string) int {
	id, found := statemap.Get(s, api.KMember, user)
	if !found || !b.Has(id) {
		return api.Leave
	}
	return b.Event(id).Content.N
}

// May returns OK if the user may see the event.
func (s *Sight) May(id int, user string) api.Errno {
	if s.book == nil || !s.book.Has(id) || s.statuses[id] != api.Accepted {
		return api.ErrNone
	}
	v := Visibility(s.book, id)
	if v == api.World {
		return api.OK
	}
	invited := false
	for _, m := range Memberships(s.book, id, user) {
		if m == api.Join {
			return api.OK
		}
		invited = invited || m == api.Invite
	}
	open := v == api.Shared || v == api.Invited && invited
	if open && s.comesTo(user, id) {
		return api.OK
	}
	return api.ErrHidden
}

// comesTo reports whether the user is joined now, or was joined behind the event.
func (s *Sight) comesTo(user string, id int) bool {
	if membership(s.book, s.room.State, user) == api.Join {
		return true
	}
	known, asked := s.comes[user]
	if !asked {
		known = s.comesOf(user)
		s.comes[user] = known
	}
	return known[id]
}

// comesOf returns the accepted events behind which the user is joined, and all before them.
func (s *Sight) comesOf(user string) map[int]bool {
	joined := []int{}
	for _, id := range store.Ids(s.room.Events) {
		if s.statuses[id] == api.Accepted && membership(s.book, s.book.After(id), user) == api.Join {
			joined = append(joined, id)
		}
	}
	reached := map[int]bool{}
	for _, id := range graph.Ancestors(s.room.Events, joined) {
		reached[id] = true
	}
	return reached
}

// Users returns the users of a server who ever were in the room, in any way.
func (s *Sight) Users(server string) []string {
	users := []string{}
	seen := map[string]bool{}
	for i := range s.room.Events {
		e := &s.room.Events[i]
		if e.Kind == api.KMember && !seen[e.Key] && ids.ServerOf(e.Key) == server {
			seen[e.Key] = true
			users = append(users, e.Key)
		}
	}
	return users
}
