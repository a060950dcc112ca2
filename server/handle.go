package server

import (
	"slices"

	"fedchat/api"
	"fedchat/build"
	"fedchat/clone"
	"fedchat/event"
	"fedchat/gaps"
	"fedchat/ids"
	"fedchat/joining"
	"fedchat/members"
	"fedchat/outgoing"
	"fedchat/queues"
	"fedchat/room"
	"fedchat/rules"
	"fedchat/statemap"
)

// handler takes packets of one kind in.
type handler interface {
	// handle returns the server afterwards, and the packets that it sends.
	handle(s api.Server, p api.Packet) (api.Server, []api.Packet)
}

// handlerOf returns the handler for a kind of packets, and whether there is one.
func handlerOf(p api.Packet) (handler, bool) {
	switch p.Kind {
	case api.PTxn:
		return transaction{}, true
	case api.PMissing:
		return missing{}, true
	case api.PBack:
		return back{}, true
	case api.PMakeJoin:
		return makeJoin{}, true
	case api.PSendJoin:
		return sendJoin{}, true
	case api.PInvite:
		return invitation{}, true
	case api.PKnock:
		return knock{}, true
	case api.PAnswer:
		if p.Room == "" {
			return acknowledgement{}, true
		}
		return answered{}, true
	}
	return nil, false
}

// Handle takes a packet in, and returns the packets that are sent for it.
func Handle(s api.Server, p api.Packet) (api.Server, []api.Packet) {
	h, found := handlerOf(p)
	if !found || s.Down || p.To != s.Name || p.From == s.Name || ids.Server(p.From) != api.OK {
		return clone.Server(s), nil
	}
	next, packets := h.handle(s, p)
	for i := range packets {
		packets[i].From = s.Name
	}
	return clone.Server(next), clone.Packets(packets)
}

// answerTo returns the answer to a request, to which events and the like are added.
func answerTo(p api.Packet, err api.Errno) api.Packet {
	return api.Packet{To: p.From, Kind: api.PAnswer, N: p.N, Room: p.Room, Err: err}
}

// asked returns a request for what a room misses, if it misses something.
func asked(r api.Room, to string) []api.Packet {
	if len(room.Missing(r)) == 0 {
		return nil
	}
	return []api.Packet{{To: to, Kind: api.PMissing, N: api.MaxPage, Room: r.Id, Ids: gaps.Ask(r)}}
}

// allowedRoom returns the room of a request from a server that the room allows, or the error to be answered.
func allowedRoom(s api.Server, p api.Packet) (api.Room, api.Errno) {
	r, found := roomOf(s, p.Room)
	if !found {
		return api.Room{}, api.ErrNone
	}
	return r, outgoing.May(r, p.From)
}

// roomToTalk is like allowedRoom, for servers that have part in the room.
func roomToTalk(s api.Server, p api.Packet) (api.Room, api.Errno) {
	r, err := allowedRoom(s, p)
	if err != api.OK {
		return r, err
	}
	if !slices.Contains(members.Servers(statemap.Events(r.Events, r.State)), p.From) {
		return r, api.ErrAccess
	}
	return r, api.OK
}

type transaction struct{}

func (transaction) handle(s api.Server, p api.Packet) (api.Server, []api.Packet) {
	touched := []string{}
	for _, e := range p.Events {
		r, found := roomOf(s, e.Room)
		if !found || outgoing.May(r, p.From) != api.OK {
			continue
		}
		r, _, _ = room.Receive(r, e)
		s = put(s, r)
		touched = append(touched, r.Id)
	}
	answer := answerTo(p, api.OK)
	answer.Room = ""
	packets := []api.Packet{answer}
	for _, id := range ids.Names(touched) {
		r, _ := roomOf(s, id)
		packets = append(packets, asked(r, p.From)...)
	}
	return s, packets
}

type missing struct{}

func (missing) handle(s api.Server, p api.Packet) (api.Server, []api.Packet) {
	r, err := roomToTalk(s, p)
	answer := answerTo(p, err)
	if err == api.OK {
		answer.Events = gaps.Answer(r, p.From, p.Ids, nil, p.N)
	}
	return s, []api.Packet{answer}
}

type back struct{}

func (back) handle(s api.Server, p api.Packet) (api.Server, []api.Packet) {
	r, err := roomToTalk(s, p)
	answer := answerTo(p, err)
	if err == api.OK {
		answer.Events = gaps.Answer(r, p.From, r.Heads, p.Ids, p.N)
	}
	return s, []api.Packet{answer}
}

type makeJoin struct{}

func (makeJoin) handle(s api.Server, p api.Packet) (api.Server, []api.Packet) {
	r, err := allowedRoom(s, p)
	if err == api.OK && ids.ServerOf(p.User) != p.From {
		err = api.ErrArg
	}
	if err != api.OK {
		return s, []api.Packet{answerTo(p, err)}
	}
	via := voucher(s, r, p.User)
	if via != "" {
		invite, err := build.Next(r.Events, via, api.KMember, p.User, api.Content{N: api.Invite}, s.Now)
		if err != api.OK {
			return s, []api.Packet{answerTo(p, err)}
		}
		invited, err := local(s, invite)
		if err != api.OK {
			return s, []api.Packet{answerTo(p, err)}
		}
		s = invited
		r, _ = roomOf(s, p.Room)
	}
	join, err := joining.Make(r, p.User, via, s.Now)
	answer := answerTo(p, err)
	if err == api.OK {
		answer.User, answer.Events = p.User, []api.Event{join}
	}
	return s, []api.Packet{answer}
}

// voucher returns the user of this server who invites a member of an allowed room into a restricted one, or the empty text.
func voucher(s api.Server, r api.Room, user string) string {
	state := statemap.Events(r.Events, r.State)
	rule, allow := rules.Of(state)
	now := members.InState(r.Events, r.State, user)
	if rule != api.Restricted || now != api.Leave && now != api.Knock || !joining.Via(s.Rooms, allow, user) {
		return ""
	}
	for _, e := range state {
		if e.Kind == api.KMember && ids.ServerOf(e.Key) == s.Name && rules.Via(state, e.Key) == api.OK {
			return e.Key
		}
	}
	return ""
}

type sendJoin struct{}

func (sendJoin) handle(s api.Server, p api.Packet) (api.Server, []api.Packet) {
	return takeMember(s, p, joining.Send)
}

type knock struct{}

func (knock) handle(s api.Server, p api.Packet) (api.Server, []api.Packet) {
	return takeMember(s, p, func(r api.Room, e api.Event) (api.Room, []api.Event, api.Errno) {
		next, err := joining.Knock(r, e)
		return next, nil, err
	})
}

// takeMember takes the join or the knock of another server's user in, and passes it on.
func takeMember(s api.Server, p api.Packet, take func(r api.Room, e api.Event) (api.Room, []api.Event, api.Errno)) (api.Server, []api.Packet) {
	before, err := allowedRoom(s, p)
	if err == api.OK && (len(p.Events) != 1 || ids.ServerOf(p.Events[0].Sender) != p.From) {
		err = api.ErrArg
	}
	if err != api.OK {
		return s, []api.Packet{answerTo(p, err)}
	}
	after, list, err := take(before, p.Events[0])
	if err != api.OK {
		return s, []api.Packet{answerTo(p, err)}
	}
	e, _ := room.Known(after, p.Events[0].Id)
	others := slices.DeleteFunc(serversOf(before, after, s.Name), func(to string) bool { return to == p.From })
	answer := answerTo(p, api.OK)
	answer.Events, answer.Auth = []api.Event{e}, list
	return push(put(s, after), after, e, others), []api.Packet{answer}
}

type invitation struct{}

func (invitation) handle(s api.Server, p api.Packet) (api.Server, []api.Packet) {
	if len(p.Events) != 1 || len(s.Pending) >= maxPending {
		return s, nil
	}
	e := p.Events[0]
	invites := e.Kind == api.KMember && e.Content.N == api.Invite && ids.ServerOf(e.Key) == s.Name && ids.ServerOf(e.Sender) == p.From
	if invites && event.Verify(e) == api.OK {
		s.Pending = append(slices.Clone(s.Pending), p)
	}
	return s, nil
}

type acknowledgement struct{}

func (acknowledgement) handle(s api.Server, p api.Packet) (api.Server, []api.Packet) {
	known := slices.ContainsFunc(s.Queues, func(q api.Queue) bool { return q.To == p.From })
	if known && p.Err == api.OK {
		s = putQueue(s, queues.Ack(queueTo(s, p.From), p.N))
	}
	return s, nil
}

type answered struct{}

func (answered) handle(s api.Server, p api.Packet) (api.Server, []api.Packet) {
	place := slices.IndexFunc(s.Pending, func(request api.Packet) bool {
		joins := request.Kind == api.PMakeJoin || request.Kind == api.PSendJoin
		return joins && request.To == p.From && request.Room == p.Room && request.N == p.N
	})
	if place < 0 {
		return filled(s, p)
	}
	request := s.Pending[place]
	s.Pending = slices.Delete(slices.Clone(s.Pending), place, place+1)
	switch {
	case p.Err != api.OK:
		return s, nil
	case request.Kind == api.PMakeJoin:
		return signedJoin(s, p, request.User)
	}
	return accepted(s, p), nil
}

// filled takes the events in that were asked for.
func filled(s api.Server, p api.Packet) (api.Server, []api.Packet) {
	r, err := allowedRoom(s, p)
	if p.Err != api.OK || err != api.OK {
		return s, nil
	}
	r, more := gaps.Fill(r, p.Events)
	s = put(s, r)
	if more == 0 {
		return s, nil
	}
	return s, asked(r, p.From)
}

// signedJoin signs the join that the other server has made for the user, and sends it.
func signedJoin(s api.Server, p api.Packet, user string) (api.Server, []api.Packet) {
	if len(p.Events) != 1 {
		return s, nil
	}
	e := p.Events[0]
	// Another server must not get anything else signed.
	asked := e.Kind == api.KMember && e.Sender == user && e.Key == user && e.Content.N == api.Join && e.Content.Text == "" && e.Room == p.Room
	if !asked {
		return s, nil
	}
	request := api.Packet{From: s.Name, To: p.From, Kind: api.PSendJoin, N: p.N, Room: p.Room, User: user, Events: []api.Event{event.Sign(e, s.Name)}}
	s.Pending = append(slices.Clone(s.Pending), request)
	return s, []api.Packet{request}
}

// accepted puts the room that the server has joined.
func accepted(s api.Server, p api.Packet) api.Server {
	if _, known := roomOf(s, p.Room); known || len(s.Rooms) >= api.MaxRooms {
		return s
	}
	r, err := joining.Accept(p.Room, p.Auth)
	if err != api.OK {
		return s
	}
	return put(s, r)
}
