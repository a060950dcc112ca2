package world

import (
	"slices"

	"fedchat/api"
	"fedchat/authset"
	"fedchat/clone"
	"fedchat/content"
	"fedchat/evil"
	"fedchat/ids"
	"fedchat/net"
	"fedchat/num"
	"fedchat/outgoing"
	"fedchat/sending"
	"fedchat/server"
	"fedchat/store"
	"fedchat/sums"
)

// The limits of requests that a server keeps, and of a tick.
const (
	maxPending = 100
	maxTick    = 1000000
)

// result is what an act returns.
type result struct {
	grid   api.Grid
	output string
	err    api.Errno
}

func failure(err api.Errno) result {
	return result{err: err}
}

// The variants of acts: of a user on a server, of a server, between two servers, and of the world as a whole.
type (
	userAct   func(g api.Grid, s api.Server, a api.Act) result
	serverAct struct {
		// anyway says that the server may be down.
		anyway bool
		do     func(g api.Grid, s api.Server, a api.Act) result
	}
	linkAct  func(g api.Grid, a api.Act) result
	worldAct func(g api.Grid, a api.Act) result
)

// word is a word with its least and its greatest number of names.
type word struct {
	text        string
	least, most int
	act         any
}

func words() []word {
	return []word{
		{"create", 2, 2, userAct(create)},
		{"send", 2, 3, userAct(sendEvent)},
		{"join", 3, 3, userAct(join)},
		{"invite", 3, 3, userAct(invite)},
		{"evil", 3, 4, userAct(forge)},
		{"sync", 3, 3, serverAct{do: ask}},
		{"flush", 1, 1, serverAct{do: func(g api.Grid, s api.Server, _ api.Act) result { return result{grid: flush(g, s)} }}},
		{"crash", 1, 1, serverAct{anyway: true, do: func(g api.Grid, s api.Server, _ api.Act) result { return setDown(g, s, true) }}},
		{"start", 1, 1, serverAct{anyway: true, do: func(g api.Grid, s api.Server, _ api.Act) result { return setDown(g, s, false) }}},
		{"cut", 2, 2, linkAct(func(g api.Grid, a api.Act) result { return setCut(g, a, true) })},
		{"heal", 2, 2, linkAct(func(g api.Grid, a api.Act) result { return setCut(g, a, false) })},
		{"deliver", 0, 0, worldAct(deliverOne)},
		{"drop", 0, 0, worldAct(func(g api.Grid, a api.Act) result { return changePackets(g, a, net.Drop) })},
		{"copy", 0, 0, worldAct(func(g api.Grid, a api.Act) result { return changePackets(g, a, net.Copy) })},
		{"tick", 0, 0, worldAct(tick)},
		{"settle", 0, 0, worldAct(settleFor)},
	}
}

// Step performs an act.
func Step(g api.Grid, a api.Act) (api.Grid, string, api.Errno) {
	done := failure(api.ErrArg)
	for _, w := range words() {
		if w.text == a.Word && len(a.Names) >= w.least && len(a.Names) <= w.most {
			done = perform(g, a, w.act)
		}
	}
	if done.err != api.OK {
		return clone.Grid(g), "", done.err
	}
	return clone.Grid(done.grid), done.output, api.OK
}

// perform looks for those who act, and lets them act.
func perform(g api.Grid, a api.Act, act any) result {
	switch do := act.(type) {
	case userAct:
		return onServer(g, ids.ServerOf(a.Names[0]), false, func(s api.Server) result { return do(g, s, a) })
	case serverAct:
		return onServer(g, a.Names[0], do.anyway, func(s api.Server) result { return do.do(g, s, a) })
	case linkAct:
		if placeOf(g, a.Names[0]) < 0 || placeOf(g, a.Names[1]) < 0 {
			return failure(api.ErrNone)
		}
		return do(g, a)
	case worldAct:
		return do(g, a)
	}
	return failure(api.ErrArg)
}

func onServer(g api.Grid, name string, anyway bool, do func(s api.Server) result) result {
	place := placeOf(g, name)
	if place < 0 {
		return failure(api.ErrNone)
	}
	if g.Servers[place].Down && !anyway {
		return failure(api.ErrDown)
	}
	return do(g.Servers[place])
}

func create(g api.Grid, s api.Server, a api.Act) result {
	s, room, err := sending.Create(s, a.Names[0], a.Names[1], g.Now, a.N, a.Body.N)
	if err != api.OK {
		return failure(err)
	}
	return result{grid: putBack(g, s), output: room}
}

// sendOwn lets the server s take an event of its user in, with the room, the kind, the key and the content of e, and returns the event.
func sendOwn(g api.Grid, s api.Server, user string, e api.Event) (result, api.Event) {
	s, sent, err := sending.Send(s, user, e, g.Now, sending.Anything)
	if err != api.OK {
		return failure(err), api.Event{}
	}
	return result{grid: putBack(g, s), output: sums.Hex(sent.Id)}, sent
}

// memberEvent is a change of a membership.
func memberEvent(room, user string, m int) api.Event {
	return api.Event{Room: room, Kind: api.KMember, Key: user, Content: api.Content{N: m}}
}

// keyOf returns the name with this index, or the empty key.
func keyOf(a api.Act, i int) string {
	if i < len(a.Names) {
		return a.Names[i]
	}
	return ""
}

func sendEvent(g api.Grid, s api.Server, a api.Act) result {
	done, _ := sendOwn(g, s, a.Names[0], api.Event{Room: a.Names[1], Kind: api.Kind(a.N), Key: keyOf(a, 2), Content: a.Body})
	return done
}

func join(g api.Grid, s api.Server, a api.Act) result {
	user, room, other := a.Names[0], a.Names[1], a.Names[2]
	if _, known := server.Room(s, room); known {
		done, _ := sendOwn(g, s, user, memberEvent(room, user, api.Join))
		return done
	}
	if placeOf(g, other) < 0 {
		return failure(api.ErrNone)
	}
	if len(s.Pending) >= maxPending {
		return failure(api.ErrFull)
	}
	// The number is none that the answers to other requests have.
	p := api.Packet{From: s.Name, To: other, Kind: api.PMakeJoin, N: g.Now + api.MaxPage + 1, Room: room, User: user}
	s.Pending = append(slices.Clone(s.Pending), p)
	return result{grid: sendAll(putBack(g, s), []api.Packet{p})}
}

func invite(g api.Grid, s api.Server, a api.Act) result {
	user, room, target := a.Names[0], a.Names[1], a.Names[2]
	done, e := sendOwn(g, s, user, memberEvent(room, target, api.Invite))
	if done.err != api.OK {
		return done
	}
	after, _ := Server(done.grid, s.Name)
	r, _ := server.Room(after, room)
	if to := ids.ServerOf(target); to != s.Name && !slices.Contains(outgoing.To(r, s.Name), to) {
		done.grid, _ = send(done.grid, api.Packet{From: s.Name, To: to, Kind: api.PInvite, Room: room, Events: []api.Event{e}})
	}
	return done
}

// ask lets a server ask another one for what it does not know of a room.
func ask(g api.Grid, s api.Server, a api.Act) result {
	other, room := a.Names[1], a.Names[2]
	r, known := server.Room(s, room)
	if !known {
		return failure(api.ErrNone)
	}
	p := api.Packet{From: s.Name, To: other, Kind: api.PBack, N: api.MaxPage, Room: room, Ids: r.Heads}
	return result{grid: sendAll(g, []api.Packet{p})}
}

func setDown(g api.Grid, s api.Server, down bool) result {
	if s.Down == down {
		return failure(api.ErrState)
	}
	s.Down = down
	return result{grid: putBack(g, s)}
}

func setCut(g api.Grid, a api.Act, is bool) result {
	g.Net = net.Cut(g.Net, a.Names[0], a.Names[1], is)
	return result{grid: g}
}

func deliverOne(g api.Grid, a api.Act) result {
	n, p, found := net.Next(g.Net, a.N)
	if !found {
		return failure(api.ErrNone)
	}
	g.Net = n
	return result{grid: deliver(g, p), output: num.Text(int(p.Kind)) + " " + p.To}
}

func changePackets(g api.Grid, a api.Act, change func(n api.Network, i int) api.Network) result {
	if len(g.Net.Packets) == 0 {
		return failure(api.ErrNone)
	}
	g.Net = change(g.Net, a.N)
	return result{grid: g}
}

func tick(g api.Grid, a api.Act) result {
	if a.N < 0 || a.N > maxTick {
		return failure(api.ErrRange)
	}
	g.Now = min(num.Add(g.Now, a.N), api.MaxTime)
	return result{grid: g}
}

func settleFor(g api.Grid, a api.Act) result {
	g, settled := settle(g, a.N)
	if settled {
		return result{grid: g, output: "settled"}
	}
	return result{grid: g, output: "not settled"}
}

func forge(g api.Grid, s api.Server, a api.Act) result {
	user, room, to := a.Names[0], a.Names[1], a.Names[2]
	if !slices.Contains(g.Evil, s.Name) {
		return failure(api.ErrState)
	}
	r, known := server.Room(s, room)
	if !known || placeOf(g, to) < 0 {
		return failure(api.ErrNone)
	}
	c := a.Body
	c.Target = 0
	e := loose(r, api.Event{Room: room, Sender: user, Kind: api.Kind(a.Body.Target), Key: keyOf(a, 3), Content: c, Time: g.Now})
	packets, err := evil.Forge(s, api.Deed{Kind: a.N, To: to, Event: e})
	if err != api.OK {
		return failure(err)
	}
	return result{grid: sendAll(g, packets)}
}

// loose returns an event behind the heads of a room that nothing was checked of.
func loose(r api.Room, e api.Event) api.Event {
	e.State, e.Depth = content.State(e.Kind), 1
	e.Prev = r.Heads[:min(len(r.Heads), api.MaxPrev)]
	for _, prev := range store.Of(r.Events, e.Prev) {
		e.Depth = max(e.Depth, prev.Depth+1)
	}
	e.Auth = authset.Select(e, r.State)
	return e
}
