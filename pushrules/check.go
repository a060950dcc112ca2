// Package pushrules is layer 59 (a language of notification rules): their conditions, their meaning, a text form, and a normal form.
package pushrules

import (
	"slices"
	"strings"

	"fedchat/api"
	"fedchat/glob"
)

// The limits of rules.
const (
	maxNodes   = 40
	maxLevels  = 8
	maxActions = 5
)

// soundMark begins the actions that make a sound.
const soundMark = "sound="

func isSmall(b byte) bool {
	return b >= 'a' && b <= 'z' || b >= '0' && b <= '9'
}

// isNamed reports whether a text is a name, of bytes that are valid.
func isNamed(s string, valid func(b byte) bool) bool {
	for i := range len(s) {
		if !valid(s[i]) {
			return false
		}
	}
	return len(s) >= 1 && len(s) <= api.MaxName
}

func isName(s string) bool {
	return isNamed(s, func(b byte) bool { return isSmall(b) || b == '-' })
}

func isSound(action string) bool {
	sound, found := strings.CutPrefix(action, soundMark)
	return found && isName(sound)
}

func isAction(s string) bool {
	return s == "notify" || s == "highlight" || s == "mute" || s == "count" || isSound(s)
}

// Check returns OK if l can be the rules of a user.
func Check(l []api.PushRule) api.Errno {
	if len(l) > api.MaxList {
		return api.ErrLong
	}
	for i, rule := range l {
		if err := checkRule(rule, l[:i]); err != api.OK {
			return err
		}
	}
	return api.OK
}

func checkRule(rule api.PushRule, earlier []api.PushRule) api.Errno {
	if !isName(rule.Name) {
		return api.ErrName
	}
	if slices.ContainsFunc(earlier, func(other api.PushRule) bool { return other.Name == rule.Name }) {
		return api.ErrTwice
	}
	if Nodes(rule.When) > maxNodes || levelsOf(rule.When) > maxLevels {
		return api.ErrFull
	}
	if err := checkCond(rule.When); err != api.OK {
		return err
	}
	return checkActions(rule.Do)
}

// Nodes returns the number of the nodes of a condition.
func Nodes(c api.Cond) int {
	nodes := 1
	for _, kid := range c.Kids {
		nodes += Nodes(kid)
	}
	return nodes
}

func levelsOf(c api.Cond) int {
	deepest := 0
	for _, kid := range c.Kids {
		deepest = max(deepest, levelsOf(kid))
	}
	return deepest + 1
}

// usesText, usesNumber and usesKids say which fields of a condition its Op uses.

func usesText(op api.CondOp) bool {
	return op == api.FromLike || op == api.RoomLike || op == api.TextLike || op == api.HasWord
}

func usesNumber(op api.CondOp) bool {
	return op == api.KindIs || op == api.LevelFrom || op == api.MembersFrom || op == api.TimeFrom
}

func usesKids(op api.CondOp) bool {
	return op == api.AllOf || op == api.OneOf || op == api.NotSo
}

func isOp(op api.CondOp) bool {
	return op >= api.Always && op <= api.IsGone
}

// checkCond checks a condition, before its Kids.
func checkCond(c api.Cond) api.Errno {
	unused := c.Text != "" && !usesText(c.Op) || c.N != 0 && !usesNumber(c.Op) || len(c.Kids) > 0 && !usesKids(c.Op)
	if !isOp(c.Op) || unused || c.Op == api.NotSo && len(c.Kids) != 1 {
		return api.ErrArg
	}
	if err := checkValue(c); err != api.OK {
		return err
	}
	for _, kid := range c.Kids {
		if err := checkCond(kid); err != api.OK {
			return err
		}
	}
	return api.OK
}

// checkValue checks the field that the Op of a condition uses.
func checkValue(c api.Cond) api.Errno {
	switch c.Op {
	case api.AllOf, api.OneOf:
		if len(c.Kids) < 2 {
			return api.ErrShort
		}
	case api.FromLike, api.RoomLike, api.TextLike:
		return glob.Check(c.Text)
	case api.HasWord:
		if !isNamed(c.Text, isSmall) {
			return api.ErrName
		}
	case api.KindIs:
		return within(c.N, int(api.KCreate), int(api.KRedact))
	case api.LevelFrom:
		return within(c.N, -api.MaxLevel, api.MaxLevel)
	case api.MembersFrom:
		return within(c.N, 0, api.MaxInt)
	case api.TimeFrom:
		return within(c.N, 0, api.MaxTime)
	}
	return api.OK
}

func within(n, lo, hi int) api.Errno {
	if n < lo || n > hi {
		return api.ErrRange
	}
	return api.OK
}

func checkActions(l []string) api.Errno {
	if len(l) == 0 {
		return api.ErrShort
	}
	if len(l) > maxActions {
		return api.ErrLong
	}
	for i, action := range l {
		if !isAction(action) {
			return api.ErrForm
		}
		if slices.ContainsFunc(l[:i], func(other string) bool { return other == action || isSound(other) && isSound(action) }) {
			return api.ErrTwice
		}
	}
	return api.OK
}
