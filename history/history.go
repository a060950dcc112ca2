// Package history replays a set of events once, so that several questions about its states need not replay it again.
package history

import (
	"slices"

	"fedchat/api"
	"fedchat/auth"
	"fedchat/authset"
	"fedchat/content"
	"fedchat/graph"
	"fedchat/index"
	"fedchat/resolve"
	"fedchat/statemap"
	"fedchat/store"
)

// Book has what became of the events of a right set. Its events and states must not be changed.
type Book struct {
	events []api.Event
	places map[int]int
	// state has the state events alone: the states and what authorizes them refer to no others.
	state []api.Event
	pages []page
}

// page is what became of one event, once it is written.
type page struct {
	written       bool
	before, after api.State
	err           api.Errno
}

// Open returns the book of a set, and whether it is a right one.
func Open(l []api.Event) (*Book, bool) {
	if store.Check(l) != api.OK || graph.Depths(l) != api.OK {
		return nil, false
	}
	b := &Book{events: l, places: index.Of(l), pages: make([]page, len(l))}
	for _, e := range l {
		if content.State(e.Kind) {
			b.state = append(b.state, e)
		}
	}
	return b, true
}

// Has reports whether the set has an event with the id. The other methods expect one that it has.
func (b *Book) Has(id int) bool {
	_, known := b.places[id]
	return known
}

// Event returns the event with the id.
func (b *Book) Event(id int) api.Event {
	return b.events[b.places[id]]
}

// Before returns the state before an event.
func (b *Book) Before(id int) api.State {
	return b.page(id).before
}

// After returns the state after an event.
func (b *Book) After(id int) api.State {
	return b.page(id).after
}

// Err returns the error of an event.
func (b *Book) Err(id int) api.Errno {
	return b.page(id).err
}

// page returns the page of an event; its depth, and so that of the recursion, is at most the number of events.
func (b *Book) page(id int) *page {
	p := &b.pages[b.places[id]]
	if !p.written {
		b.write(p, b.Event(id))
	}
	return p
}

func (b *Book) write(p *page, e api.Event) {
	if states := b.statesAfter(e.Prev); len(states) == 1 {
		// Most events have one event before them, and states can be shared.
		p.before = states[0]
	} else {
		p.before = resolve.Resolve(b.state, states)
	}
	p.after = p.before
	p.err = b.judge(e, p.before)
	if p.err == api.OK && content.State(e.Kind) {
		p.after = statemap.Set(p.before, e.Kind, e.Key, e.Id)
	}
	p.written = true
}

func (b *Book) statesAfter(ids []int) []api.State {
	states := make([]api.State, len(ids))
	for i, id := range ids {
		states[i] = b.After(id)
	}
	return states
}

// judge returns the error of an event in the state before it.
func (b *Book) judge(e api.Event, before api.State) api.Errno {
	named := b.eventsOf(e.Auth)
	if err := authset.Fits(named, e); err != api.OK {
		return err
	}
	// What fits names one event at most for each key, so that the order does not matter to the rules.
	if err := auth.Allowed(e, named); err != api.OK {
		return err
	}
	for _, id := range e.Auth {
		if b.Err(id) != api.OK {
			return api.ErrAuth
		}
	}
	return auth.Allowed(e, b.authorizing(e, before))
}

// authorizing returns the events of a state at which the rules look for e: there is one event at most for each kind and key.
func (b *Book) authorizing(e api.Event, s api.State) []api.Event {
	if e.Kind == api.KCreate {
		return b.Events(s)
	}
	events := []api.Event{}
	for _, key := range authset.Keys(e) {
		if id, found := statemap.Get(s, key.Kind, key.Key); found && b.Has(id) {
			events = append(events, b.Event(id))
		}
	}
	return events
}

func (b *Book) eventsOf(ids []int) []api.Event {
	events := make([]api.Event, len(ids))
	for i, id := range ids {
		events[i] = b.Event(id)
	}
	return events
}

// Events returns the events of a state's entries; those that the set does not have are left out.
func (b *Book) Events(s api.State) []api.Event {
	events := make([]api.Event, 0, len(s))
	for _, entry := range s {
		if b.Has(entry.Id) {
			events = append(events, b.Event(entry.Id))
		}
	}
	return events
}

// Accepted returns the ids of the accepted events, in increasing order.
func (b *Book) Accepted() []int {
	accepted := []int{}
	for i := range b.events {
		if id := b.events[i].Id; b.Err(id) == api.OK {
			accepted = append(accepted, id)
		}
	}
	return accepted
}

// Heads returns the heads of the accepted events.
func (b *Book) Heads() []int {
	return graph.Heads(b.events, b.Accepted())
}

// Current returns the state after all heads.
func (b *Book) Current() api.State {
	return slices.Clone(resolve.Resolve(b.state, b.statesAfter(b.Heads())))
}
