package explain

import (
	"fedchat/api"
	"fedchat/index"
	"fedchat/num"
)

// Path returns the shortest way from a to b by references of Auth, and of several ones the least.
func Path(l []api.Event, a, b int) []int {
	places := index.Of(l)
	left := stepsTo(l, places, b)
	steps, reached := left[a]
	if !reached {
		return nil
	}
	path := []int{a}
	for at := a; steps > 0; steps-- {
		for _, id := range num.Sorted(l[places[at]].Auth) {
			if n, found := left[id]; found && n == steps-1 {
				at = id
				break
			}
		}
		path = append(path, at)
	}
	return path
}

// stepsTo returns how many steps it takes from each id to b, for those from which b can be reached.
func stepsTo(l []api.Event, places map[int]int, b int) map[int]int {
	steps := map[int]int{}
	if _, known := places[b]; !known {
		return steps
	}
	// from has the known ids that refer to an id.
	from := map[int][]int{}
	for i := range l {
		if places[l[i].Id] != i {
			continue
		}
		for _, id := range l[i].Auth {
			from[id] = append(from[id], l[i].Id)
		}
	}
	steps[b] = 0
	level := []int{b}
	for n := 1; len(level) > 0; n++ {
		next := []int{}
		for _, id := range level {
			for _, earlier := range from[id] {
				if _, found := steps[earlier]; !found {
					steps[earlier] = n
					next = append(next, earlier)
				}
			}
		}
		level = next
	}
	return steps
}
