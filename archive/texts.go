// Package archive is layer 58 (events and rooms as readable texts): it writes and reads them, compares texts line by line, and tells what a user can read in a room.
package archive

import (
	"strconv"
	"strings"

	"fedchat/num"
	"fedchat/sums"
)

const hexDigits = "0123456789abcdef"

// Quote returns s between double quotes, with escapes for all that is not readable.
func Quote(s string) string {
	b := []byte{'"'}
	for i := range len(s) {
		switch c := s[i]; {
		case c == '"' || c == '\\':
			b = append(b, '\\', c)
		case c == '\n':
			b = append(b, '\\', 'n')
		case c < 32 || c > 126:
			b = append(b, '\\', 'x', hexDigits[c/16], hexDigits[c%16])
		default:
			b = append(b, c)
		}
	}
	return string(append(b, '"'))
}

// Unquote returns the text with whose quoted form s begins, what follows it, and whether there is one.
func Unquote(s string) (string, string, bool) {
	if s == "" || s[0] != '"' {
		return "", "", false
	}
	b := []byte{}
	for i := 1; i < len(s); {
		if s[i] == '"' {
			// Whatever is not written as Quote does comes out differently.
			text, quoted := string(b), s[:i+1]
			if Quote(text) != quoted {
				return "", "", false
			}
			return text, s[i+1:], true
		}
		c, width := unescape(s[i:])
		b = append(b, c)
		i += width
	}
	return "", "", false
}

// unescape returns the byte for which the beginning of a text stands, and the length of this beginning.
func unescape(s string) (byte, int) {
	switch {
	case s[0] != '\\' || len(s) == 1:
		return s[0], 1
	case s[1] == 'n':
		return '\n', 2
	case s[1] == 'x' && len(s) >= 4:
		high, low := strings.IndexByte(hexDigits, s[2]), strings.IndexByte(hexDigits, s[3])
		return byte(16*max(high, 0) + max(low, 0)), 4
	}
	return s[1], 2
}

// cursor reads a text from its beginning; once it has failed, it reads nothing more.
type cursor struct {
	rest   string
	failed bool
}

// ended reports whether everything was read.
func (c *cursor) ended() bool {
	return !c.failed && c.rest == ""
}

// sign reads a certain text, if it stands there.
func (c *cursor) sign(s string) bool {
	rest, found := strings.CutPrefix(c.rest, s)
	if c.failed || !found {
		return false
	}
	c.rest = rest
	return true
}

// expect reads a certain text, and fails if it does not stand there.
func (c *cursor) expect(s string) {
	if !c.sign(s) {
		c.failed = true
	}
}

// number reads a number.
func (c *cursor) number() int {
	width := 0
	for width < len(c.rest) && (c.rest[width] == '-' || c.rest[width] >= '0' && c.rest[width] <= '9') {
		width++
	}
	n, err := strconv.Atoi(c.rest[:width])
	if c.failed || err != nil || num.Text(n) != c.rest[:width] {
		c.failed = true
		return 0
	}
	c.rest = c.rest[width:]
	return n
}

// text reads a quoted text.
func (c *cursor) text() string {
	s, rest, ok := Unquote(c.rest)
	if c.failed || !ok {
		c.failed = true
		return ""
	}
	c.rest = rest
	return s
}

// list reads elements with commas between them.
func list[T any](c *cursor, read func() T) []T {
	l := []T{read()}
	for c.sign(",") {
		l = append(l, read())
	}
	return l
}

// joined writes elements with commas between them.
func joined[T any](l []T, write func(x T) string) string {
	texts := make([]string, len(l))
	for i, x := range l {
		texts[i] = write(x)
	}
	return strings.Join(texts, ",")
}

// Lines returns the lines of a text.
func Lines(s string) []string {
	b := []byte(s)
	lines := []string{}
	from := 0
	for i, c := range b {
		if c == '\n' {
			lines = append(lines, string(b[from:i:i]))
			from = i + 1
		}
	}
	return append(lines, string(b[from:len(b):len(b)]))
}

// Sums returns the sum of the sums of the lines of events in a text.
func Sums(s string) int {
	total := uint64(0)
	for _, line := range Lines(s) {
		if e, found := strings.CutPrefix(line, "event "); found {
			total += uint64(sums.Sum([]byte(e)))
		}
	}
	return int(total & (1<<62 - 1))
}
