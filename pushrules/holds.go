package pushrules

import (
	"slices"

	"fedchat/api"
	"fedchat/glob"
	"fedchat/levels"
	"fedchat/members"
	"fedchat/notify"
	"fedchat/receipts"
	"fedchat/relate"
	"fedchat/room"
	"fedchat/search"
	"fedchat/sight"
	"fedchat/statemap"
	"fedchat/store"
	"fedchat/unread"
)

// reader is a user who reads a room.
type reader struct {
	room   api.Room
	user   string
	sight  *sight.Sight
	levels api.Levels
	joined int
}

func readerOf(r api.Room, user string) *reader {
	state := statemap.Events(r.Events, r.State)
	v, _ := levels.Of(state)
	return &reader{room: r, user: user, sight: sight.Open(r), levels: v, joined: len(members.With(state, api.Join))}
}

// text returns the text of an event, of which a redaction leaves nothing.
func (x *reader) text(e api.Event) string {
	if x.sight.Gone()[e.Id] {
		return ""
	}
	return e.Content.Text
}

// Holds reports whether a condition holds for an event and a user.
func Holds(c api.Cond, r api.Room, user string, e api.Event) bool {
	return readerOf(r, user).holds(c, e)
}

func (x *reader) holds(c api.Cond, e api.Event) bool {
	holds := func(kid api.Cond) bool { return x.holds(kid, e) }
	switch c.Op {
	case api.Always:
		return true
	case api.AllOf:
		return !slices.ContainsFunc(c.Kids, func(kid api.Cond) bool { return !holds(kid) })
	case api.OneOf:
		return slices.ContainsFunc(c.Kids, holds)
	case api.NotSo:
		return !slices.ContainsFunc(c.Kids, holds)
	case api.KindIs:
		return int(e.Kind) == c.N
	case api.FromLike:
		return glob.Match(c.Text, e.Sender)
	case api.RoomLike:
		return glob.Match(c.Text, e.Room)
	case api.TextLike:
		return glob.Match(c.Text, x.text(e))
	case api.HasWord:
		return slices.Contains(search.Words(x.text(e)), c.Text)
	case api.LevelFrom:
		return levels.User(x.levels, e.Sender) >= c.N
	case api.MembersFrom:
		return x.joined >= c.N
	case api.TimeFrom:
		return e.Time >= c.N
	case api.MentionsMe:
		return notify.Marks(x.text(e), x.user)
	case api.IsGone:
		return x.sight.Gone()[e.Id]
	}
	return x.related(c.Op, e)
}

// related reports whether a condition about relations holds.
func (x *reader) related(op api.CondOp, e api.Event) bool {
	rel, target := relate.Of(e)
	switch op {
	case api.RepliesToMe:
		return rel == api.Reply && x.own(target)
	case api.ThreadOfMine:
		return rel == api.InThread && (x.own(target) || x.contributed(target, e.Id))
	case api.IsEdit:
		return rel == api.EditOf
	}
	return false
}

// own reports whether an event of the room is one of the user.
func (x *reader) own(id int) bool {
	i := slices.IndexFunc(x.room.Events, func(e api.Event) bool { return e.Id == id })
	return i >= 0 && x.room.Events[i].Sender == x.user
}

// contributed reports whether the user has sent another event into a thread.
func (x *reader) contributed(thread, but int) bool {
	return slices.ContainsFunc(x.room.Events, func(e api.Event) bool {
		rel, target := relate.Of(e)
		return e.Id != but && e.Sender == x.user && rel == api.InThread && target == thread
	})
}

// First returns the first rule whose condition holds for an event that the user is told of, and whether there is one.
func First(l []api.PushRule, r api.Room, user string, e api.Event) (api.PushRule, bool) {
	rule, found := readerOf(r, user).first(l, e)
	if !found {
		return api.PushRule{}, false
	}
	return cloneRule(rule), true
}

func (x *reader) first(l []api.PushRule, e api.Event) (api.PushRule, bool) {
	row, _ := room.Row(x.room, e.Id)
	if row.Gone || e.Sender == x.user || x.sight.May(e.Id, x.user) != api.OK {
		return api.PushRule{}, false
	}
	i := slices.IndexFunc(l, func(rule api.PushRule) bool { return x.holds(rule.When, e) })
	if i < 0 {
		return api.PushRule{}, false
	}
	return l[i], true
}

func cloneRule(rule api.PushRule) api.PushRule {
	rule.Do = slices.Clone(rule.Do)
	rule.When = cloneCond(rule.When)
	return rule
}

func cloneCond(c api.Cond) api.Cond {
	c.Kids = slices.Clone(c.Kids)
	for i, kid := range c.Kids {
		c.Kids[i] = cloneCond(kid)
	}
	return c
}

// Do returns what is done for an event.
func Do(l []api.PushRule, r api.Room, user string, e api.Event) []string {
	return readerOf(r, user).do(l, e)
}

func (x *reader) do(l []api.PushRule, e api.Event) []string {
	rule, _ := x.first(l, e)
	actions := slices.Clone(rule.Do)
	if !slices.Contains(actions, "mute") {
		return actions
	}
	silenced := func(action string) bool { return action == "mute" || action == "notify" || isSound(action) }
	return slices.DeleteFunc(actions, silenced)
}

// Counts returns for how many rows that the user has not read notify is done, and for how many highlight.
func Counts(l []api.PushRule, r api.Room, user string) (int, int) {
	receipt, found := receipts.Get(r.Receipts, user, 0)
	x := readerOf(r, user)
	notified, highlighted := 0, 0
	for _, row := range r.Rows[unread.Place(r, receipt, found)+1:] {
		e, known := store.Get(r.Events, row.Id)
		if !known {
			continue
		}
		actions := x.do(l, e)
		if slices.Contains(actions, "notify") {
			notified++
		}
		if slices.Contains(actions, "highlight") {
			highlighted++
		}
	}
	return notified, highlighted
}
