package sight

import (
	"fedchat/api"
	"fedchat/clone"
	"fedchat/event"
)

// Forms returns the forms in which events are shown in a room, of whose events those with the ids gone were redacted.
func Forms(l []api.Event, gone []int) []api.Event {
	redacted := map[int]bool{}
	for _, id := range gone {
		redacted[id] = true
	}
	shown := make([]api.Event, len(l))
	for i, e := range l {
		if redacted[e.Id] || !event.Whole(e) {
			shown[i] = event.Strip(e)
		} else {
			shown[i] = clone.Event(e)
		}
	}
	return shown
}
