package sync

import (
	"slices"

	"fedchat/api"
	"fedchat/filter"
	"fedchat/num"
	"fedchat/receipts"
	"fedchat/redact"
	"fedchat/replay"
	"fedchat/room"
	"fedchat/sight"
	"fedchat/statemap"
	"fedchat/store"
	"fedchat/timeline"
	"fedchat/typing"
)

// reading is a room as a client of a user comes back to it.
type reading struct {
	room   api.Room
	user   string
	place  api.Place
	filter api.Filter
	// known are the events that had a row when the client was there last, and gone the ids of those that are redacted now.
	known []api.Event
	gone  []int
}

// partOf returns the part of a room for a user, a place and a filter, at a time, and the next place.
func partOf(r api.Room, user string, p api.Place, f api.Filter, now int) (api.Part, api.Place) {
	m := membership(r, user)
	since, _ := statemap.Get(r.State, api.KMember, user)
	x := reading{room: r, user: user, place: p, filter: f, known: before(r, p.Pos), gone: redact.Gone(r.Events)}
	part := api.Part{Room: r.Id, Member: m}
	next := api.Place{Room: r.Id, Pos: r.Next, Told: m, Since: since}
	switch m {
	case api.Join:
		x.joined(&part, since, now)
	case api.Invite, api.Knock:
		next.Pos = p.Pos
		if m != p.Told {
			part.State = x.shown(x.invitation())
		}
	default:
		if p.Told == api.Join {
			x.page(&part, p.Pos)
			part.State = x.shown(x.entries(func(entry api.Entry) bool { return x.own(entry) }))
		}
	}
	return part, next
}

// before returns the events that have a row before a position.
func before(r api.Room, pos int) []api.Event {
	old := map[int]bool{}
	for _, row := range r.Rows {
		if row.Pos < pos {
			old[row.Id] = true
		}
	}
	return slices.DeleteFunc(slices.Clone(r.Events), func(e api.Event) bool { return !old[e.Id] })
}

// own reports whether an entry is the user's membership.
func (x reading) own(entry api.Entry) bool {
	return entry.Kind == api.KMember && entry.Key == x.user
}

// entries returns the entries of the room's state that are wanted.
func (x reading) entries(wanted func(entry api.Entry) bool) api.State {
	return slices.DeleteFunc(slices.Clone(x.room.State), func(entry api.Entry) bool { return !wanted(entry) })
}

// invitation returns what those learn who are not yet in the room.
func (x reading) invitation() api.State {
	return x.entries(func(entry api.Entry) bool {
		return x.own(entry) || entry.Kind == api.KCreate || entry.Kind == api.KRules || entry.Kind == api.KName
	})
}

// shown returns the shown events of the entries of a state.
func (x reading) shown(s api.State) []api.Event {
	return sight.Forms(statemap.Events(x.room.Events, s), x.gone)
}

// page sets the timeline of a part, from a position on.
func (x reading) page(part *api.Part, from int) {
	l := sight.Forms(store.Of(x.room.Events, timeline.After(x.room, x.user, from)), x.gone)
	part.Timeline, part.Limited = filter.Cut(x.filter, l)
	if part.Limited && len(part.Timeline) > 0 {
		row, _ := room.Row(x.room, part.Timeline[0].Id)
		part.Back = row.Pos
	}
}

// joined sets the part of a user who is joined by the event since.
func (x reading) joined(part *api.Part, since, now int) {
	changed, from := x.room.State, 0
	old, goesOn := x.goesOn(since)
	if goesOn {
		changed, from = statemap.Diff(old, x.room.State), x.place.Pos
		part.Gone = num.Minus(x.gone, redact.Gone(x.known))
	}
	part.Anew = !goesOn
	x.page(part, from)
	part.State = filter.Lazy(x.filter, x.shown(changed), part.Timeline)
	part.Receipts = slices.Clone(x.room.Receipts)
	part.Typing = typing.Now(x.room.Typing, now)
	part.Unread = receipts.Unread(x.room, x.room.Receipts, x.user)
}

// goesOn returns the state that the client had last, and whether the client can go on from there.
func (x reading) goesOn(since int) (api.State, bool) {
	if x.place.Told != api.Join || x.place.Since != since {
		return nil, false
	}
	old := replay.Current(x.known)
	return old, !losesKey(old, x.room.State)
}

// losesKey reports whether a state has a key that the next one has not.
func losesKey(old, next api.State) bool {
	return slices.ContainsFunc(old, func(entry api.Entry) bool {
		_, found := statemap.Get(next, entry.Kind, entry.Key)
		return !found
	})
}
