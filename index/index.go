// Package index finds the events of a list by their ids.
package index

import "fedchat/api"

// Of returns the place of the first event with each id.
func Of(l []api.Event) map[int]int {
	places := make(map[int]int, len(l))
	for i := range l {
		if _, known := places[l[i].Id]; !known {
			places[l[i].Id] = i
		}
	}
	return places
}
