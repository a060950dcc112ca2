// Package script is layer 56 (scripts of worlds): it runs worlds that are written as texts.
package script

import (
	"slices"
	"strings"

	"fedchat/api"
	"fedchat/num"
	"fedchat/sums"
)

// words are those of acts.
var words = [19]string{"servers", "as", "view", "create", "send", "join", "invite", "sync", "deliver", "drop", "copy", "cut", "heal", "crash", "start", "tick", "flush", "settle", "evil"}

// textMark begins the field that goes on to the end of the line.
const textMark = "text="

// field is a part of a line behind the names.
type field struct {
	mark string
	// read sets the field of an act, and reports whether the value is right.
	read func(a *api.Act, value string) bool
	// write returns the value, or the empty text if the field is not written.
	write func(a api.Act) string
}

// fields are in the order in which they are written.
func fields() []field {
	return []field{
		{"n=", func(a *api.Act, value string) (ok bool) { a.N, ok = num.Parse(value); return ok }, func(a api.Act) string { return numberText(a.N) }},
		{"c=", func(a *api.Act, value string) (ok bool) { a.Body.N, ok = num.Parse(value); return ok }, func(a api.Act) string { return numberText(a.Body.N) }},
		{"to=", func(a *api.Act, value string) (ok bool) { a.Body.Target, ok = sums.Unhex(value); return ok }, targetText},
		{textMark, func(a *api.Act, value string) bool { a.Body.Text = value; return true }, func(a api.Act) string { return a.Body.Text }},
	}
}

func numberText(n int) string {
	if n == 0 {
		return ""
	}
	return num.Text(n)
}

func targetText(a api.Act) string {
	if a.Body.Target == 0 {
		return ""
	}
	return sums.Hex(a.Body.Target)
}

// fieldOf returns the field with whose mark a word begins, and whether there is one.
func fieldOf(word string) (field, bool) {
	for _, f := range fields() {
		if strings.HasPrefix(word, f.mark) {
			return f, true
		}
	}
	return field{}, false
}

// split returns the words of a line; a text is one word, with all that follows.
func split(line string) []string {
	split := []string{}
	for {
		word, rest, more := strings.Cut(line, " ")
		if strings.HasPrefix(line, textMark) {
			word, more = line, false
		}
		split = append(split, word)
		if !more {
			return split
		}
		line = rest
	}
}

func isWord(s string) bool {
	for _, word := range words {
		if word == s {
			return true
		}
	}
	return false
}

// parseLine returns the act of a line that is no comment, and whether it is one.
func parseLine(line string) (api.Act, bool) {
	parts := split(line)
	a := api.Act{Word: parts[0]}
	if !isWord(a.Word) {
		return api.Act{}, false
	}
	seen := map[string]bool{}
	for _, part := range parts[1:] {
		f, isField := fieldOf(part)
		switch {
		case isField:
			if seen[f.mark] || !f.read(&a, part[len(f.mark):]) {
				return api.Act{}, false
			}
			seen[f.mark] = true
		case part == "" || len(seen) > 0:
			return api.Act{}, false
		default:
			a.Names = append(a.Names, part)
		}
	}
	return a, true
}

// Parse returns the acts of a text.
func Parse(s string) ([]api.Act, int, api.Errno) {
	if len(s) > api.MaxScript {
		return nil, 0, api.ErrLong
	}
	acts := []api.Act{}
	for i, line := range strings.Split(s, "\n") {
		if line == "" || line[0] == '#' {
			continue
		}
		a, ok := parseLine(line)
		if !ok {
			return nil, i + 1, api.ErrText
		}
		acts = append(acts, a)
	}
	return acts, 0, api.OK
}

// Line returns the line of an act.
func Line(a api.Act) string {
	parts := slices.Concat([]string{a.Word}, a.Names)
	for _, f := range fields() {
		if value := f.write(a); value != "" {
			parts = append(parts, f.mark+value)
		}
	}
	return strings.Join(parts, " ")
}
