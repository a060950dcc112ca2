package history

import (
	"fedchat/api"
	"fedchat/levels"
	"fedchat/members"
)

// Redaction is one that takes effect: its id and depth, and the event that it redacts.
type Redaction struct{ Id, Depth, Target int }

// MayRedact returns whether a redaction of the target may take effect, by the events of the state before it.
func MayRedact(before []api.Event, red, target api.Event) api.Errno {
	if members.Of(before, red.Sender) != api.Join {
		return api.ErrMember
	}
	v, _ := levels.Of(before)
	if red.Sender != target.Sender && levels.User(v, red.Sender) < v.Redact {
		return api.ErrLevel
	}
	return api.OK
}

// Redactions returns the redactions that take effect.
func (b *Book) Redactions() []Redaction {
	found := []Redaction{}
	for _, e := range b.events {
		if e.Kind != api.KRedact || !b.Has(e.Content.Target) || b.Err(e.Id) != api.OK {
			continue
		}
		if MayRedact(b.Events(b.Before(e.Id)), e, b.Event(e.Content.Target)) == api.OK {
			found = append(found, Redaction{e.Id, e.Depth, e.Content.Target})
		}
	}
	return found
}
