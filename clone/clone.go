// Package clone copies the values of package api with all their lists, so that no result of a layer shares memory with an argument.
package clone

import (
	"slices"

	"fedchat/api"
)

// Levels returns a copy of power levels.
func Levels(l api.Levels) api.Levels {
	l.Users = slices.Clone(l.Users)
	l.Kinds = slices.Clone(l.Kinds)
	return l
}

// Content returns a copy of the content of an event.
func Content(c api.Content) api.Content {
	c.Allow = slices.Clone(c.Allow)
	c.Deny = slices.Clone(c.Deny)
	c.Levels = Levels(c.Levels)
	return c
}

// Event returns a copy of an event.
func Event(e api.Event) api.Event {
	e.Prev = slices.Clone(e.Prev)
	e.Auth = slices.Clone(e.Auth)
	e.Content = Content(e.Content)
	return e
}

// Events returns a copy of a list of events.
func Events(l []api.Event) []api.Event {
	return each(l, Event)
}

// each applies copied to each element; nil stays nil.
func each[T any](l []T, copied func(x T) T) []T {
	fresh := slices.Clone(l)
	for i, x := range fresh {
		fresh[i] = copied(x)
	}
	return fresh
}

// Room returns a copy of a room.
func Room(r api.Room) api.Room {
	r.Events = Events(r.Events)
	r.Rows = slices.Clone(r.Rows)
	r.Waiting = Events(r.Waiting)
	r.Heads = slices.Clone(r.Heads)
	r.State = slices.Clone(r.State)
	r.Receipts = slices.Clone(r.Receipts)
	r.Typing = slices.Clone(r.Typing)
	return r
}

// Queue returns a copy of a queue.
func Queue(q api.Queue) api.Queue {
	q.Events = Events(q.Events)
	q.Open = Events(q.Open)
	return q
}

// Packet returns a copy of a packet.
func Packet(p api.Packet) api.Packet {
	p.Events = Events(p.Events)
	p.Ids = slices.Clone(p.Ids)
	p.Auth = Events(p.Auth)
	return p
}

// Network returns a copy of a network.
func Network(n api.Network) api.Network {
	n.Packets = each(n.Packets, Packet)
	n.Cut = slices.Clone(n.Cut)
	return n
}

// Keys returns a copy of the identity of a user.
func Keys(k api.Keys) api.Keys {
	k.Devices = slices.Clone(k.Devices)
	return k
}

// Server returns a copy of a server.
func Server(s api.Server) api.Server {
	s.Rooms = each(s.Rooms, Room)
	s.Queues = each(s.Queues, Queue)
	s.Users = slices.Clone(s.Users)
	s.Pending = each(s.Pending, Packet)
	s.Keys = each(s.Keys, Keys)
	s.OneTime = slices.Clone(s.OneTime)
	s.Limits = slices.Clone(s.Limits)
	s.Media = slices.Clone(s.Media)
	return s
}

// Packets returns a copy of a list of packets.
func Packets(l []api.Packet) []api.Packet {
	return each(l, Packet)
}

// Grid returns a copy of a world.
func Grid(g api.Grid) api.Grid {
	g.Servers = each(g.Servers, Server)
	g.Net = Network(g.Net)
	g.Evil = slices.Clone(g.Evil)
	return g
}

// View returns a copy of a client's view.
func View(v api.View) api.View {
	v.Events = Events(v.Events)
	v.Gaps = slices.Clone(v.Gaps)
	v.State = Events(v.State)
	return v
}

// KeyList returns a copy of a device list.
func KeyList(l []api.Keys) []api.Keys {
	return each(l, Keys)
}
