// Package explain is layer 60 (reasons that can be checked): why an event was rejected, why a user does not see it, and why it is not in the state of its room.
package explain

import (
	"slices"

	"fedchat/api"
	"fedchat/auth"
	"fedchat/ids"
	"fedchat/levels"
	"fedchat/members"
	"fedchat/rules"
)

// question is something that is asked about an event.
type question interface {
	// reason returns the rule that was asked, with its answer.
	reason() api.Reason
}

// plainQuestion is a rule with a known answer.
type plainQuestion struct {
	rule string
	id   int
	err  api.Errno
}

func (q plainQuestion) reason() api.Reason {
	return api.Reason{Rule: q.rule, Id: q.id, Err: q.err}
}

// refused returns the question whether a condition for an error does not hold.
func refused(rule string, id int, err api.Errno, condition bool) question {
	if !condition {
		err = api.OK
	}
	return plainQuestion{rule, id, err}
}

// asked returns the reasons of questions, up to and with the first one that is not answered with OK.
func asked(l []question) []api.Reason {
	reasons := []api.Reason{}
	for _, q := range l {
		x := q.reason()
		reasons = append(reasons, x)
		if x.Err != api.OK {
			break
		}
	}
	return reasons
}

// firstOf returns the id of the first event of a kind, or 0.
func firstOf(l []api.Event, k api.Kind) int {
	return idWhere(l, func(e api.Event) bool { return e.Kind == k })
}

// memberOf returns the id of the first event about the membership of a user, or 0.
func memberOf(l []api.Event, user string) int {
	return idWhere(l, func(e api.Event) bool { return e.Kind == api.KMember && e.Key == user })
}

func idWhere(l []api.Event, wanted func(e api.Event) bool) int {
	i := slices.IndexFunc(l, wanted)
	if i < 0 {
		return 0
	}
	return l[i].Id
}

func has(l []api.Event, k api.Kind) bool {
	return slices.ContainsFunc(l, func(e api.Event) bool { return e.Kind == k })
}

// Allowed returns why the rules allow an event by the state events of l, or why not.
func Allowed(e api.Event, l []api.Event) api.Reason {
	return named("allowed", e, l)
}

// named is Allowed with another name for the rule.
func named(rule string, e api.Event, l []api.Event) api.Reason {
	return api.Reason{Rule: rule, Id: e.Id, Err: auth.Allowed(e, l), Kids: asked(questions(e, l))}
}

func questions(e api.Event, l []api.Event) []question {
	create, created := firstOf(l, api.KCreate), has(l, api.KCreate)
	if e.Kind == api.KCreate {
		return []question{
			refused("create-alone", create, api.ErrCreate, created),
			refused("create-server", e.Id, api.ErrCreate, ids.ServerOf(e.Sender) != ids.ServerOf(e.Room)),
		}
	}
	all := []question{refused("creation", create, api.ErrCreate, !created)}
	if e.Kind == api.KMember {
		return append(all, memberQuestions(e, l)...)
	}
	v, _ := levels.Of(l)
	power := firstOf(l, api.KPower)
	all = append(all, joinedQuestion(e, l), refused("level", power, api.ErrLevel, levels.User(v, e.Sender) < levels.Needs(v, e.Kind)))
	if e.Kind == api.KPower {
		all = append(all, plainQuestion{"power-change", power, levels.Change(v, e.Content.Levels, e.Sender)})
	}
	return all
}

func joinedQuestion(e api.Event, l []api.Event) question {
	return refused("sender-joined", memberOf(l, e.Sender), api.ErrMember, members.Of(l, e.Sender) != api.Join)
}

// isFirstJoin reports whether e is the join of the creator, directly behind the creation.
func isFirstJoin(e api.Event, l []api.Event) bool {
	i := slices.IndexFunc(l, func(x api.Event) bool { return x.Kind == api.KCreate })
	known := slices.ContainsFunc(l, func(x api.Event) bool { return x.Kind == api.KMember && x.Key == e.Key })
	if i < 0 || known {
		return false
	}
	return slices.Equal(e.Prev, []int{l[i].Id}) && e.Sender == l[i].Sender && e.Key == l[i].Sender && e.Content.N == api.Join
}

func memberQuestions(e api.Event, l []api.Event) []question {
	if isFirstJoin(e, l) {
		return []question{plainQuestion{"first-join", firstOf(l, api.KCreate), api.OK}}
	}
	now, self := members.Of(l, e.Key), e.Key == e.Sender
	member := memberOf(l, e.Key)
	all := []question{}
	if self {
		all = append(all, refused("not-banned", member, api.ErrBanned, now == api.Ban))
	}
	all = append(all, refused("move", member, api.ErrMember, !members.Move(now, e.Content.N, self)))
	if self {
		return append(all, ownQuestions(e, l, now)...)
	}
	all = append(all, joinedQuestion(e, l))
	return append(all, otherQuestions(e, l, now)...)
}

// ownQuestions are those about a change of the sender's own membership.
func ownQuestions(e api.Event, l []api.Event, now int) []question {
	rule, _ := rules.Of(l)
	first := firstOf(l, api.KRules)
	switch e.Content.N {
	case api.Join:
		return []question{plainQuestion{"join-rule", first, rules.Join(rule, now)}}
	case api.Knock:
		return []question{plainQuestion{"knock-rule", first, rules.Knock(rule, now)}}
	}
	return nil
}

// otherQuestions are those about a change of another user's membership.
func otherQuestions(e api.Event, l []api.Event, now int) []question {
	v, _ := levels.Of(l)
	own, target := levels.User(v, e.Sender), levels.User(v, e.Key)
	power := firstOf(l, api.KPower)
	below := func(rule string, condition bool) question {
		return refused(rule, power, api.ErrLevel, condition)
	}
	switch e.Content.N {
	case api.Invite:
		return []question{below("invite-level", own < v.Invite)}
	case api.Leave:
		kick := []question{below("kick-level", own < v.Kick), below("kick-target", target >= own)}
		if now == api.Ban {
			return append([]question{below("unban-level", own < v.Ban)}, kick...)
		}
		return kick
	case api.Ban:
		return []question{below("ban-level", own < v.Ban), below("ban-target", target >= own)}
	}
	return nil
}
