package explain

import (
	"slices"

	"fedchat/api"
	"fedchat/authset"
	"fedchat/content"
	"fedchat/history"
	"fedchat/iterate"
	"fedchat/num"
	"fedchat/resolve"
	"fedchat/sight"
	"fedchat/statemap"
)

// rulesQuestion is the question whether the rules allow an event by the state events of a list.
type rulesQuestion struct {
	rule  string
	event api.Event
	list  []api.Event
}

func (q rulesQuestion) reason() api.Reason {
	return named(q.rule, q.event, q.list)
}

// authQuestion is the question whether an authorization event was accepted.
type authQuestion struct {
	book *history.Book
	list []api.Event
	id   int
}

func (q authQuestion) reason() api.Reason {
	x := api.Reason{Rule: "auth-accepted", Id: q.id}
	if q.book.Err(q.id) != api.OK {
		x.Err = api.ErrAuth
		x.Kids = []api.Reason{rejected(q.book, q.list, q.id)}
	}
	return x
}

// Rejected returns why an event of a right set was rejected, and whether it was.
func Rejected(l []api.Event, id int) (api.Reason, bool) {
	b, right := history.Open(l)
	if !right || !b.Has(id) || b.Err(id) == api.OK {
		return api.Reason{}, false
	}
	return rejected(b, l, id), true
}

func rejected(b *history.Book, l []api.Event, id int) api.Reason {
	e := b.Event(id)
	all := []question{
		plainQuestion{"fits", id, authset.Fits(l, e)},
		rulesQuestion{"by-auth", e, authset.From(l, e)},
	}
	for _, a := range e.Auth {
		all = append(all, authQuestion{b, l, a})
	}
	all = append(all, rulesQuestion{"by-state", e, b.Events(b.Before(id))})
	return api.Reason{Rule: "rejected", Id: id, Err: b.Err(id), Kids: asked(all)}
}

// Check returns OK if x is the reason for which an event of l was rejected.
func Check(l []api.Event, x api.Reason) api.Errno {
	if !isPlain(x) || x.Rule != "rejected" {
		return api.ErrForm
	}
	b, right := history.Open(l)
	if !right || !b.Has(x.Id) {
		return api.ErrNone
	}
	if b.Err(x.Id) == api.OK || !Same(rejected(b, l, x.Id), x) {
		return api.ErrState
	}
	return api.OK
}

// entryOf returns the id of an entry of a state, or 0.
func entryOf(s api.State, k api.Kind, key string) int {
	id, _ := statemap.Get(s, k, key)
	return id
}

// Hidden returns why a user does not see an event, and whether this is so.
func Hidden(r api.Room, id int, user string) (api.Reason, bool) {
	seen := sight.Open(r)
	err := seen.May(id, user)
	if err == api.OK {
		return api.Reason{}, false
	}
	x := api.Reason{Rule: "hidden", Id: id, Err: err}
	if err == api.ErrNone {
		x.Kids = asked([]question{plainQuestion{"accepted-row", id, err}})
		return x, true
	}
	b := seen.Book()
	before := b.Before(id)
	h, m := entryOf(before, api.KHistory, ""), entryOf(before, api.KMember, user)
	v := sight.Visibility(b, id)
	open := v == api.Shared || v == api.Invited && slices.Contains(sight.Memberships(b, id, user), api.Invite)
	for _, q := range []question{
		plainQuestion{"accepted-row", id, api.OK},
		plainQuestion{"world", h, api.ErrHidden},
		plainQuestion{"joined-then", m, api.ErrHidden},
		refused("open", h, api.ErrHidden, !open),
	} {
		x.Kids = append(x.Kids, q.reason())
	}
	if open {
		last := plainQuestion{"comes-to-it", entryOf(r.State, api.KMember, user), api.ErrHidden}
		x.Kids = append(x.Kids, last.reason())
	}
	return x, true
}

// Lost returns why an accepted state event is not in the current state of a right set, and whether this is so.
func Lost(l []api.Event, id int) (api.Reason, bool) {
	b, right := history.Open(l)
	if !right || !b.Has(id) || b.Err(id) != api.OK || !content.State(b.Event(id).Kind) {
		return api.Reason{}, false
	}
	e := b.Event(id)
	current, found := statemap.Get(b.Current(), e.Kind, e.Key)
	if found && current == id {
		return api.Reason{}, false
	}
	x := api.Reason{Rule: "lost", Id: id, Err: api.ErrState}
	heads := b.Heads()
	states := []api.State{}
	for _, head := range heads {
		states = append(states, b.After(head))
	}
	if isEntry(states, e) {
		x.Kids = tried(l, states, e, current)
		return x, true
	}
	for i, head := range heads {
		by := plainQuestion{"by", entryOf(states[i], e.Kind, e.Key), api.OK}
		x.Kids = append(x.Kids, api.Reason{Rule: "overwritten", Id: head, Err: api.ErrState, Kids: asked([]question{by})})
	}
	return x, true
}

// isEntry reports whether an event is an entry of one of the states.
func isEntry(states []api.State, e api.Event) bool {
	return slices.ContainsFunc(states, func(s api.State) bool {
		return slices.Contains(s, api.Entry{Kind: e.Kind, Key: e.Key, Id: e.Id})
	})
}

// tried returns when an event was tried in the resolution of the states, and what came of it; current is the event that has its place now.
func tried(l []api.Event, states []api.State, e api.Event, current int) []api.Reason {
	power, others := resolve.Sides(l, states)
	s, _ := statemap.Split(states)
	rule, side := "power-order", power
	if !num.Has(power, e.Id) {
		rule, side = "mainline-order", others
		s = iterate.Apply(l, s, power)
	}
	place := max(slices.Index(side, e.Id), 0)
	order := api.Reason{Rule: rule, Id: e.Id}
	for _, id := range side[:place] {
		order.Kids = append(order.Kids, plainQuestion{"before", id, api.OK}.reason())
	}
	s = iterate.Apply(l, s, side[:place])
	verdict := named("tried", e, iterate.Base(l, s, e))
	kids := []api.Reason{order, verdict}
	if verdict.Err == api.OK {
		kids = append(kids, plainQuestion{"replaced", current, api.ErrState}.reason())
	}
	return kids
}
