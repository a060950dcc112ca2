// Package ordered puts elements into lists that are kept in some order.
package ordered

import "slices"

// Insert returns l with x before the first element that belongs behind it, or at the end.
func Insert[T any](l []T, x T, behind func(other T) bool) []T {
	place := slices.IndexFunc(l, behind)
	if place < 0 {
		place = len(l)
	}
	return slices.Insert(slices.Clone(l), place, x)
}

// Put returns l with x in place of the first element that is the same, or else inserted.
func Put[T any](l []T, x T, same, behind func(other T) bool) []T {
	place := slices.IndexFunc(l, same)
	if place < 0 {
		return Insert(l, x, behind)
	}
	next := slices.Clone(l)
	next[place] = x
	return next
}

// PutNamed is Put for elements with names, in the order of these.
func PutNamed[T any](l []T, x T, name func(x T) string) []T {
	own := name(x)
	return Put(l, x, func(other T) bool { return name(other) == own }, func(other T) bool { return name(other) > own })
}
