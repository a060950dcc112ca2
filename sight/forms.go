package sight

import (
	"fedchat/api"
	"fedchat/clone"
	"fedchat/event"
	"fedchat/store"
)

// Forms returns the forms in which events are shown in the room.
func (s *Sight) Forms(l []api.Event) []api.Event {
	gone := s.Gone()
	shown := make([]api.Event, len(l))
	for i, e := range l {
		if gone[e.Id] || !event.Whole(e) {
			shown[i] = event.Strip(e)
		} else {
			shown[i] = clone.Event(e)
		}
	}
	return shown
}

// Events returns the forms in which the events of rows are shown.
func (s *Sight) Events(rows []api.Row) []api.Event {
	return s.Forms(store.Of(s.room.Events, Ids(rows)))
}

// Ids returns the ids of rows.
func Ids(rows []api.Row) []int {
	ids := make([]int, len(rows))
	for i, row := range rows {
		ids[i] = row.Id
	}
	return ids
}
