// Package unread finds the messages of a room that a user has not read.
package unread

import (
	"slices"

	"fedchat/api"
	"fedchat/redact"
	"fedchat/store"
	"fedchat/visible"
)

// Place returns the index of the row that a receipt names, or -1 if there is no receipt or no such row.
func Place(r api.Room, receipt api.Receipt, found bool) int {
	if !found {
		return -1
	}
	return slices.IndexFunc(r.Rows, func(row api.Row) bool { return row.Id == receipt.Id })
}

// Messages returns the messages of others behind a place that the user may see, and that are not gone.
func Messages(r api.Room, place int, user string) []api.Event {
	seen := map[int]bool{}
	for _, id := range visible.Rows(r, user) {
		seen[id] = true
	}
	for _, id := range redact.Gone(r.Events) {
		seen[id] = false
	}
	wanted := []int{}
	for _, row := range r.Rows[place+1:] {
		if seen[row.Id] && !row.Gone {
			wanted = append(wanted, row.Id)
		}
	}
	return slices.DeleteFunc(store.Of(r.Events, wanted), func(e api.Event) bool {
		return e.Kind != api.KMessage || e.Sender == user
	})
}
