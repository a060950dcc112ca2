// Package lens shows the events of one room as other servers get them, while the room is replayed only once.
package lens

import (
	"slices"

	"fedchat/api"
	"fedchat/clone"
	"fedchat/content"
	"fedchat/event"
	"fedchat/sight"
)

// Lens shows the events of a room.
type Lens struct {
	sight *sight.Sight
	// rows has the rows that are gone.
	rows map[int]bool
	// users are those of the servers that were asked for.
	users map[string][]string
}

// Open returns the lens for a room.
func Open(r api.Room) *Lens {
	x := &Lens{sight: sight.Open(r), rows: map[int]bool{}, users: map[string][]string{}}
	for _, row := range r.Rows {
		if row.Gone {
			x.rows[row.Id] = true
		}
	}
	return x
}

// Show returns the form in which a server gets an event.
func (x *Lens) Show(e api.Event, server string) api.Event {
	stripped := anyOf(
		func() bool { return x.rows[e.Id] },
		func() bool { return x.sight.Gone()[e.Id] },
		func() bool { return !content.State(e.Kind) && !x.seen(e.Id, server) },
	)
	if stripped {
		return event.Strip(e)
	}
	return clone.Event(e)
}

// seen reports whether a user of the server may see an event.
func (x *Lens) seen(id int, server string) bool {
	users, asked := x.users[server]
	if !asked {
		users = x.sight.Users(server)
		x.users[server] = users
	}
	return slices.ContainsFunc(users, func(user string) bool { return x.sight.May(id, user) == api.OK })
}

// anyOf reports whether one of the conditions holds.
func anyOf(conditions ...func() bool) bool {
	return slices.ContainsFunc(conditions, func(holds func() bool) bool { return holds() })
}
