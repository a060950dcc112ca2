package home

import (
	"fedchat/api"
	"fedchat/members"
	"fedchat/moderate"
	"fedchat/notify"
	"fedchat/num"
	"fedchat/policy"
	"fedchat/receipts"
	"fedchat/relate"
	"fedchat/retain"
	"fedchat/search"
	"fedchat/sending"
	"fedchat/server"
	"fedchat/statemap"
	"fedchat/store"
	"fedchat/sums"
	"fedchat/typing"
	"fedchat/visible"
)

// room returns the room that the first name says.
func (d deed) room() (api.Room, api.Errno) {
	r, known := server.Room(d.server, d.name(0))
	if !known {
		return api.Room{}, api.ErrNone
	}
	return r, api.OK
}

// sent returns the server after the user has sent an event into the room; check is asked before.
func (d deed) sent(k api.Kind, key string, c api.Content, check func(r api.Room, e api.Event) api.Errno) result {
	e := api.Event{Room: d.name(0), Kind: k, Key: key, Content: c}
	s, e, err := sending.Send(d.server, d.user, e, d.server.Now, check)
	if err != api.OK {
		return failure(err)
	}
	return result{server: s, output: sums.Hex(e.Id)}
}

func send(d deed) result {
	return d.sent(api.Kind(d.act.N), d.name(1), d.act.Body, func(r api.Room, e api.Event) api.Errno {
		related := e.Kind == api.KMessage || e.Kind == api.KReact || e.Kind == api.KEdit
		if !related || e.Content.Target == 0 {
			return api.OK
		}
		return relate.Valid(r.Events, e)
	})
}

// setMember sends a change of a membership.
func (d deed) setMember(user string, m int) result {
	return d.sent(api.KMember, user, api.Content{N: m, Text: d.act.Body.Text}, sending.Anything)
}

func redactEvent(d deed) result {
	r, err := d.room()
	if err != api.OK {
		return failure(err)
	}
	if _, known := store.Get(r.Events, d.act.N); !known {
		return failure(api.ErrNone)
	}
	return d.sent(api.KRedact, "", api.Content{Target: d.act.N, Text: d.act.Body.Text}, sending.Anything)
}

func create(d deed) result {
	s, room, err := sending.Create(d.server, d.user, d.name(0), d.server.Now, d.act.N, d.act.Body.N)
	if err != api.OK {
		return failure(err)
	}
	return result{server: s, output: room}
}

func read(d deed) result {
	r, err := d.room()
	if err != api.OK {
		return failure(err)
	}
	if err := visible.May(r, d.act.N, d.user); err != api.OK {
		return failure(err)
	}
	r.Receipts = receipts.Put(r.Receipts, api.Receipt{User: d.user, Id: d.act.N, Time: d.server.Now})
	return result{server: server.Put(d.server, r), output: num.Text(receipts.Unread(r, r.Receipts, d.user))}
}

func startTyping(d deed) result {
	r, err := d.room()
	if err != api.OK {
		return failure(err)
	}
	if members.InState(r.Events, r.State, d.user) != api.Join {
		return failure(api.ErrMember)
	}
	if r.Typing, err = typing.Start(r.Typing, d.user, d.server.Now, d.act.N); err != api.OK {
		return failure(err)
	}
	return result{server: server.Put(d.server, r)}
}

func apply(d deed) result {
	r, err := d.room()
	list, known := server.Room(d.server, d.name(1))
	if err != api.OK || !known {
		return failure(api.ErrNone)
	}
	plan := moderate.Plan(r, d.server.Name, policy.Rules(statemap.Events(list.Events, list.State)))
	done := result{server: d.server, output: num.Text(len(plan))}
	var sendAll func(plan []api.Event)
	sendAll = func(plan []api.Event) {
		if len(plan) == 0 {
			return
		}
		one := deed{done.server, d.user, d.act}.sent(plan[0].Kind, plan[0].Key, plan[0].Content, sending.Anything)
		if one.err != api.OK {
			done = one
			return
		}
		done.server = one.server
		sendAll(plan[1:])
	}
	sendAll(plan)
	return done
}

// eachRoom returns the server with changed rooms.
func eachRoom(s api.Server, change func(r api.Room) api.Room) api.Server {
	rooms := make([]api.Room, len(s.Rooms))
	for i, r := range s.Rooms {
		rooms[i] = change(r)
	}
	s.Rooms = rooms
	return s
}

func erase(d deed) result {
	return result{server: eachRoom(d.server, func(r api.Room) api.Room { return retain.Erase(r, d.user) })}
}

func find(d deed) result {
	r, err := d.room()
	if err != api.OK {
		return failure(err)
	}
	return result{server: d.server, output: num.Text(len(search.Find(r, d.user, d.name(1), d.act.N)))}
}

func count(d deed) result {
	r, err := d.room()
	if err != api.OK {
		return failure(err)
	}
	notified, unread := notify.Count(r, r.Receipts, d.user)
	return result{server: d.server, output: num.Text(notified) + " " + num.Text(unread)}
}
