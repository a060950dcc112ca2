package script

import (
	"slices"
	"strings"

	"fedchat/api"
	"fedchat/home"
	"fedchat/ids"
	"fedchat/sums"
	"fedchat/sync"
	"fedchat/view"
	"fedchat/world"
)

// maxFills is how many pages a client asks for, and usualLimit how many events it asks for at once.
const (
	maxFills   = 200
	usualLimit = 10
)

// evilMark stands before the names of malicious servers.
const evilMark = "/"

// Client returns the view of a client that looks into a room.
func Client(s api.Server, room, user string, limit int) (api.View, api.Errno) {
	v := api.View{Room: room}
	answer, err := sync.Answer(s, user, sync.Begin(), api.Filter{Limit: limit})
	if err != api.OK {
		return api.View{}, err
	}
	for _, part := range answer.Parts {
		if part.Room == room {
			v = view.Apply(v, part)
		}
	}
	for range maxFills {
		if view.Whole(v) {
			break
		}
		last := len(v.Gaps) - 1
		page, pos, more, err := sync.Back(s, room, user, v.Gaps[last].Back, limit)
		if err != api.OK {
			return api.View{}, err
		}
		if v, err = view.Fill(v, last, page, pos, more); err != api.OK {
			return api.View{}, err
		}
	}
	return v, api.OK
}

// Run performs the acts of a text.
func Run(s string) ([]string, int, api.Errno) {
	acts, line, err := Parse(s)
	if err != api.OK {
		return nil, line, err
	}
	g := api.Grid{}
	outputs := []string{}
	for i, a := range acts {
		next, output, err := perform(g, a, i == 0)
		if err != api.OK {
			return outputs, i + 1, err
		}
		g = next
		outputs = append(outputs, output)
	}
	return outputs, 0, api.OK
}

// perform performs one act, of which only the first one forms the world.
func perform(g api.Grid, a api.Act, first bool) (api.Grid, string, api.Errno) {
	if first != (a.Word == "servers") {
		return g, "", api.ErrState
	}
	switch a.Word {
	case "servers":
		return form(a.Names)
	case "as":
		return actAs(g, a)
	case "view":
		return look(g, a)
	}
	return world.Step(g, a)
}

// form returns the world of new servers.
func form(names []string) (api.Grid, string, api.Errno) {
	evil := []string{}
	if mark := slices.Index(names, evilMark); mark >= 0 {
		names, evil = names[:mark], names[mark+1:]
	}
	g, err := world.New(names, evil)
	return g, "", err
}

// actAs lets a user act at home.
func actAs(g api.Grid, a api.Act) (api.Grid, string, api.Errno) {
	if len(a.Names) < 2 {
		return g, "", api.ErrArg
	}
	user := a.Names[0]
	s, known := world.Server(g, ids.ServerOf(user))
	if !known {
		return g, "", api.ErrNone
	}
	s.Now = g.Now
	s, output, err := home.Act(s, user, api.Act{Word: a.Names[1], Names: a.Names[2:], N: a.N, Body: a.Body})
	if err != api.OK {
		return g, "", err
	}
	place := slices.IndexFunc(g.Servers, func(other api.Server) bool { return other.Name == s.Name })
	g.Servers = slices.Clone(g.Servers)
	g.Servers[place] = s
	return g, output, api.OK
}

// look shows the events that a client has of a room.
func look(g api.Grid, a api.Act) (api.Grid, string, api.Errno) {
	if len(a.Names) != 2 {
		return g, "", api.ErrArg
	}
	user, room := a.Names[0], a.Names[1]
	s, known := world.Server(g, ids.ServerOf(user))
	if !known {
		return g, "", api.ErrNone
	}
	limit := a.N
	if limit == 0 {
		limit = usualLimit
	}
	v, err := Client(s, room, user, limit)
	if err != api.OK {
		return g, "", err
	}
	texts := []string{}
	for _, id := range view.Ids(v) {
		texts = append(texts, sums.Hex(id))
	}
	return g, strings.Join(texts, " "), api.OK
}
