package content

import (
	"fedchat/api"
	"fedchat/glob"
	"fedchat/ids"
)

// The longest reaction, and the most messages of a session.
const (
	maxReaction = 32
	maxMessages = 10000
)

// Check returns OK if c is a right content of an event of the kind k.
func Check(k api.Kind, c api.Content) api.Errno {
	if !isKind(k) {
		return api.ErrArg
	}
	all := fields()
	zero := true
	for i, f := range all {
		isZero := f.isZero(c)
		if !isZero && !has(uses[k], i) {
			return api.ErrArg
		}
		zero = zero && isZero
	}
	if zero && vanishes(k) {
		return api.OK
	}
	for i, f := range all {
		if has(uses[k], i) {
			if err := f.check(k, c); err != api.OK {
				return err
			}
		}
	}
	return api.OK
}

// vanishes reports whether a redaction leaves nothing of a kind that has a content.
func vanishes(k api.Kind) bool {
	return keeps[k] == 0
}

func within(n, lo, hi int) api.Errno {
	if n < lo || n > hi {
		return api.ErrRange
	}
	return api.OK
}

func checkText(k api.Kind, c api.Content) api.Errno {
	switch k {
	case api.KPolicy:
		if c.Text == "" {
			return api.OK
		}
		return glob.Check(c.Text)
	case api.KReact:
		if c.Text == "" {
			return api.ErrShort
		}
		return notLonger(len(c.Text), maxReaction)
	}
	return notLonger(len(c.Text), api.MaxText)
}

func notLonger(n, most int) api.Errno {
	if n > most {
		return api.ErrLong
	}
	return api.OK
}

func checkNumber(k api.Kind, c api.Content) api.Errno {
	switch k {
	case api.KMember:
		return within(c.N, api.Leave, api.Ban)
	case api.KRules:
		return within(c.N, api.ByInvite, api.Restricted)
	case api.KHistory:
		return within(c.N, api.Shared, api.Joined)
	case api.KRetain:
		return within(c.N, 0, api.MaxTime)
	case api.KCrypt:
		return within(c.N, 1, maxMessages)
	}
	about := api.Kind(c.N)
	if about == api.KCreate || about == api.KMember || about == api.KAccess {
		return api.OK
	}
	return api.ErrRange
}

func checkTarget(k api.Kind, c api.Content) api.Errno {
	if c.Target < 0 || c.Target == 0 && k != api.KMessage {
		return api.ErrRange
	}
	return api.OK
}

func checkThread(_ api.Kind, c api.Content) api.Errno {
	if c.Thread && c.Target == 0 {
		return api.ErrArg
	}
	return api.OK
}

func checkVia(_ api.Kind, c api.Content) api.Errno {
	if c.Via == "" {
		return api.OK
	}
	if c.N != api.Join {
		return api.ErrArg
	}
	return ids.User(c.Via)
}

func checkAllow(k api.Kind, c api.Content) api.Errno {
	if k == api.KRules {
		return checkRooms(c)
	}
	return checkPatterns(c.Allow)
}

func checkDeny(_ api.Kind, c api.Content) api.Errno {
	return checkPatterns(c.Deny)
}

func checkRooms(c api.Content) api.Errno {
	if len(c.Allow) > 0 && c.N != api.Restricted {
		return api.ErrArg
	}
	if len(c.Allow) > api.MaxList {
		return api.ErrLong
	}
	for i, room := range c.Allow {
		if ids.Room(room) != api.OK {
			return api.ErrName
		}
		if i > 0 && room <= c.Allow[i-1] {
			return api.ErrOrder
		}
	}
	return api.OK
}

func checkPatterns(l []string) api.Errno {
	if len(l) > api.MaxList {
		return api.ErrLong
	}
	for _, pattern := range l {
		if err := glob.Check(pattern); err != api.OK {
			return err
		}
	}
	return api.OK
}

func checkLevels(_ api.Kind, c api.Content) api.Errno {
	return Levels(c.Levels)
}

// Levels returns OK if l can be the power levels of a room.
func Levels(l api.Levels) api.Errno {
	if err := checkUsers(l.Users); err != api.OK {
		return err
	}
	if err := checkKinds(l.Kinds); err != api.OK {
		return err
	}
	for _, n := range numbers(l) {
		if err := checkLevel(n); err != api.OK {
			return err
		}
	}
	return api.OK
}

func checkLevel(n int) api.Errno {
	return within(n, -api.MaxLevel, api.MaxLevel)
}

func checkUsers(l []api.Level) api.Errno {
	if len(l) > api.MaxList {
		return api.ErrLong
	}
	for i, level := range l {
		if ids.User(level.User) != api.OK {
			return api.ErrName
		}
		if i > 0 && level.User <= l[i-1].User {
			return api.ErrOrder
		}
		if err := checkLevel(level.N); err != api.OK {
			return err
		}
	}
	return api.OK
}

func checkKinds(l []api.KindLevel) api.Errno {
	if len(l) > api.MaxList {
		return api.ErrLong
	}
	for i, level := range l {
		if !isKind(level.Kind) {
			return api.ErrArg
		}
		if i > 0 && level.Kind <= l[i-1].Kind {
			return api.ErrOrder
		}
		if err := checkLevel(level.N); err != api.OK {
			return err
		}
	}
	return api.OK
}
