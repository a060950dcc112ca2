// Package sending lets a user's own server take in what the user sends.
package sending

import (
	"fedchat/api"
	"fedchat/build"
	"fedchat/ids"
	"fedchat/server"
)

// Create lets a user create a room, and returns its id.
func Create(s api.Server, user, local string, time, rule, visibility int) (api.Server, string, api.Errno) {
	room, err := ids.Make('!', local, s.Name)
	if err != api.OK {
		return s, "", err
	}
	events, err := build.Room(room, user, time, rule, visibility)
	if err != api.OK {
		return s, "", err
	}
	if _, known := server.Room(s, room); known {
		return s, "", api.ErrTwice
	}
	for _, e := range events {
		if s, err = server.Local(s, e); err != api.OK {
			return s, "", err
		}
	}
	return s, room, api.OK
}

// Send lets a user send an event with the room, the kind, the key and the content of e, and returns it; check is asked before.
func Send(s api.Server, user string, e api.Event, time int, check func(r api.Room, e api.Event) api.Errno) (api.Server, api.Event, api.Errno) {
	r, known := server.Room(s, e.Room)
	if !known {
		return s, api.Event{}, api.ErrNone
	}
	next, err := build.Next(r.Events, user, e.Kind, e.Key, e.Content, time)
	if err != api.OK {
		return s, api.Event{}, err
	}
	if err := check(r, next); err != api.OK {
		return s, api.Event{}, err
	}
	s, err = server.Local(s, next)
	if err != api.OK {
		return s, api.Event{}, err
	}
	return s, next, api.OK
}

// Anything is a check that everything passes.
func Anything(api.Room, api.Event) api.Errno {
	return api.OK
}
