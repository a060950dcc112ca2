// Package unread finds the messages of a room that a user has not read.
package unread

import (
	"slices"

	"fedchat/api"
	"fedchat/sight"
	"fedchat/store"
)

// Place returns the index of the row that a receipt names, or -1 if there is no receipt or no such row.
func Place(r api.Room, receipt api.Receipt, found bool) int {
	if !found {
		return -1
	}
	return slices.IndexFunc(r.Rows, func(row api.Row) bool { return row.Id == receipt.Id })
}

// Messages returns the messages of others behind a place that the user may see, and that are not gone.
func Messages(s *sight.Sight, place int, user string) []api.Event {
	r, gone := s.Room(), s.Gone()
	wanted := []int{}
	for _, row := range r.Rows[place+1:] {
		if !row.Gone && !gone[row.Id] && s.May(row.Id, user) == api.OK {
			wanted = append(wanted, row.Id)
		}
	}
	return slices.DeleteFunc(store.Of(r.Events, wanted), func(e api.Event) bool {
		return e.Kind != api.KMessage || e.Sender == user
	})
}
