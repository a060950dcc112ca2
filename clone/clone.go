// Package clone copies the values of package api with all their lists, so that no result of a layer shares memory with an argument.
package clone

import (
	"slices"

	"fedchat/api"
)

// Levels returns a copy of power levels.
func Levels(l api.Levels) api.Levels {
	l.Users = slices.Clone(l.Users)
	l.Kinds = slices.Clone(l.Kinds)
	return l
}

// Content returns a copy of the content of an event.
func Content(c api.Content) api.Content {
	c.Allow = slices.Clone(c.Allow)
	c.Deny = slices.Clone(c.Deny)
	c.Levels = Levels(c.Levels)
	return c
}
