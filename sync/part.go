package sync

import (
	"slices"

	"fedchat/api"
	"fedchat/filter"
	"fedchat/history"
	"fedchat/num"
	"fedchat/receipts"
	"fedchat/room"
	"fedchat/sight"
	"fedchat/statemap"
	"fedchat/typing"
	"fedchat/unread"
)

// reading is a room as a client of a user comes back to it.
type reading struct {
	room   api.Room
	user   string
	place  api.Place
	filter api.Filter
	sight  *sight.Sight
}

// partOf returns the part of a room for a user, a place and a filter, at a time, and the next place.
func partOf(r api.Room, user string, p api.Place, f api.Filter, now int) (api.Part, api.Place) {
	m := membership(r, user)
	since, _ := statemap.Get(r.State, api.KMember, user)
	x := reading{room: r, user: user, place: p, filter: f, sight: sight.Open(r)}
	part := api.Part{Room: r.Id, Member: m}
	next := api.Place{Room: r.Id, Pos: r.Next, Told: m, Since: since}
	switch m {
	case api.Join:
		x.joined(&part, since, now)
	case api.Invite, api.Knock:
		next.Pos = p.Pos
		if m != p.Told {
			part.State = x.shown(x.invitation())
		}
	default:
		if p.Told == api.Join {
			x.page(&part, p.Pos)
			part.State = x.shown(x.entries(x.own))
		}
	}
	return part, next
}

// known returns the events that had a row when the client was there last.
func (x reading) known() []api.Event {
	old := map[int]bool{}
	for _, row := range x.room.Rows {
		if row.Pos < x.place.Pos {
			old[row.Id] = true
		}
	}
	return slices.DeleteFunc(slices.Clone(x.room.Events), func(e api.Event) bool { return !old[e.Id] })
}

// own reports whether an entry is the user's membership.
func (x reading) own(entry api.Entry) bool {
	return entry.Kind == api.KMember && entry.Key == x.user
}

// entries returns the entries of the room's state that are wanted.
func (x reading) entries(wanted func(entry api.Entry) bool) api.State {
	return slices.DeleteFunc(slices.Clone(x.room.State), func(entry api.Entry) bool { return !wanted(entry) })
}

// invitation returns what those learn who are not yet in the room.
func (x reading) invitation() api.State {
	return x.entries(func(entry api.Entry) bool {
		return x.own(entry) || entry.Kind == api.KCreate || entry.Kind == api.KRules || entry.Kind == api.KName
	})
}

// shown returns the shown events of the entries of a state.
func (x reading) shown(s api.State) []api.Event {
	return x.sight.Forms(statemap.Events(x.room.Events, s))
}

// page sets the timeline of a part, from a position on.
func (x reading) page(part *api.Part, from int) {
	rows := slices.DeleteFunc(x.sight.Shown(x.user), func(row api.Row) bool { return row.Pos < from })
	part.Timeline, part.Limited = filter.Cut(x.filter, x.sight.Events(rows))
	if part.Limited && len(part.Timeline) > 0 {
		row, _ := room.Row(x.room, part.Timeline[0].Id)
		part.Back = row.Pos
	}
}

// joined sets the part of a user who is joined by the event since.
func (x reading) joined(part *api.Part, since, now int) {
	changed, from := x.room.State, 0
	if old, gone, goesOn := x.goesOn(since); goesOn {
		changed, from = statemap.Diff(old, x.room.State), x.place.Pos
		part.Gone = num.Minus(targets(x.sight.Book()), gone)
	} else {
		part.Anew = true
	}
	x.page(part, from)
	part.State = filter.Lazy(x.filter, x.shown(changed), part.Timeline)
	part.Receipts = slices.Clone(x.room.Receipts)
	part.Typing = typing.Now(x.room.Typing, now)
	receipt, found := receipts.Get(x.room.Receipts, x.user, 0)
	part.Unread = len(unread.Messages(x.sight, unread.Place(x.room, receipt, found), x.user))
}

// goesOn returns the state that the client had last, what was redacted then, and whether the client can go on from there.
func (x reading) goesOn(since int) (api.State, []int, bool) {
	if x.place.Told != api.Join || x.place.Since != since {
		return nil, nil, false
	}
	old, gone := api.State{}, []int{}
	if b, right := history.Open(x.known()); right {
		old, gone = b.Current(), targets(b)
	}
	return old, gone, !losesKey(old, x.room.State)
}

// targets returns the ids of the events that were redacted.
func targets(b *history.Book) []int {
	ids := []int{}
	if b == nil {
		return ids
	}
	for _, r := range b.Redactions() {
		ids = append(ids, r.Target)
	}
	return num.Sorted(ids)
}

// losesKey reports whether a state has a key that the next one has not.
func losesKey(old, next api.State) bool {
	return slices.ContainsFunc(old, func(entry api.Entry) bool {
		_, found := statemap.Get(next, entry.Kind, entry.Key)
		return !found
	})
}
