// Package reader takes canonical bytes apart, value by value, so that failures need to be looked at only once.
package reader

// Reader takes values off the beginning of Rest; once it has Failed, all further values are zero.
type Reader struct {
	Rest   []byte
	Failed bool
}

// Take returns the next value, which get reads as the functions of codec do.
func Take[T any](r *Reader, get func(b []byte) (T, []byte, bool)) T {
	var x T
	if r.Failed {
		return x
	}
	x, rest, ok := get(r.Rest)
	r.Rest, r.Failed = rest, !ok
	return x
}

// Ended reports whether all values were read, and nothing is left.
func (r *Reader) Ended() bool {
	return !r.Failed && len(r.Rest) == 0
}
