package explain

import (
	"slices"
	"strings"

	"fedchat/api"
	"fedchat/sums"
)

// The limits of reasons as texts.
const (
	maxRule  = 32
	maxDepth = 40
	maxText  = 100000
	maxId    = 1<<62 - 1
)

// errnos are the names of the error codes.
var errnos = [api.ErrDown + 1]string{"ok", "arg", "range", "name", "twice", "none", "form", "long", "order", "short", "text", "sum", "sign", "room", "gap", "cycle", "auth", "create", "member", "banned", "level", "rule", "access", "hidden", "soft", "rate", "state", "gone", "trust", "full", "down"}

// Errno returns the name of an error code.
func Errno(e api.Errno) string {
	if e < api.OK || e > api.ErrDown {
		return "unknown"
	}
	return errnos[e]
}

// errnoOf returns the error code with a name, and whether there is one.
func errnoOf(name string) (api.Errno, bool) {
	for e, known := range errnos {
		if known == name {
			return api.Errno(e), true
		}
	}
	return api.OK, false
}

// Size returns the number of the reasons in a tree.
func Size(x api.Reason) int {
	size := 1
	for _, kid := range x.Kids {
		size += Size(kid)
	}
	return size
}

// Depth returns the number of the levels of a tree.
func Depth(x api.Reason) int {
	deepest := 0
	for _, kid := range x.Kids {
		deepest = max(deepest, Depth(kid))
	}
	return deepest + 1
}

// Same reports whether two reasons are equal.
func Same(a, b api.Reason) bool {
	return a.Rule == b.Rule && a.Id == b.Id && a.Err == b.Err && slices.EqualFunc(a.Kids, b.Kids, Same)
}

func isRule(s string) bool {
	for i := range len(s) {
		if s[i] != '-' && (s[i] < 'a' || s[i] > 'z') {
			return false
		}
	}
	return len(s) >= 1 && len(s) <= maxRule
}

// isPlain reports whether a reason can be written as a text.
func isPlain(x api.Reason) bool {
	return Depth(x) <= maxDepth && isWritable(x)
}

// isWritable reports whether the nodes of a reason are plain.
func isWritable(x api.Reason) bool {
	right := isRule(x.Rule) && x.Id >= 0 && x.Id <= maxId && x.Err >= api.OK && x.Err <= api.ErrDown
	return right && !slices.ContainsFunc(x.Kids, func(kid api.Reason) bool { return !isWritable(kid) })
}

// Text returns the text of a plain reason.
func Text(x api.Reason) string {
	if !isPlain(x) {
		return ""
	}
	return strings.Join(linesOf(nil, x, 0), "")
}

// linesOf appends the lines of a reason to others.
func linesOf(lines []string, x api.Reason, level int) []string {
	line := strings.Repeat("  ", level) + x.Rule + " " + sums.Hex(x.Id) + " " + Errno(x.Err) + "\n"
	lines = append(lines, line)
	for _, kid := range x.Kids {
		lines = linesOf(lines, kid, level+1)
	}
	return lines
}

// node is a reason without its Kids, and its level.
type node struct {
	reason api.Reason
	level  int
}

// parseLine returns the node of a line without its line feed, and whether it has the right form.
func parseLine(line string) (node, bool) {
	text := strings.TrimLeft(line, " ")
	blanks := len(line) - len(text)
	parts := strings.Split(text, " ")
	if blanks%2 != 0 || len(parts) != 3 || !isRule(parts[0]) {
		return node{}, false
	}
	id, isId := sums.Unhex(parts[1])
	err, isErrno := errnoOf(parts[2])
	if !isId || !isErrno {
		return node{}, false
	}
	return node{api.Reason{Rule: parts[0], Id: id, Err: err}, blanks / 2}, true
}

// Parse returns the plain reason with the text s.
func Parse(s string) (api.Reason, int, api.Errno) {
	if len(s) > maxText {
		return api.Reason{}, 0, api.ErrLong
	}
	nodes := []node{}
	for s != "" {
		line, rest, ended := strings.Cut(s, "\n")
		n, right := parseLine(line)
		if !ended || !right || !fits(nodes, n) {
			return api.Reason{}, len(nodes) + 1, api.ErrText
		}
		nodes = append(nodes, n)
		s = rest
	}
	if len(nodes) == 0 {
		return api.Reason{}, 1, api.ErrText
	}
	trees, _ := treesOf(nodes, 0)
	return trees[0], 0, api.OK
}

// fits reports whether a node can stand behind others.
func fits(nodes []node, n node) bool {
	if len(nodes) == 0 {
		return n.level == 0
	}
	return n.level >= 1 && n.level <= nodes[len(nodes)-1].level+1 && n.level < maxDepth
}

// treesOf returns the trees of the nodes with a level and of those below them, and the nodes that are left.
func treesOf(nodes []node, level int) ([]api.Reason, []node) {
	trees := []api.Reason{}
	for len(nodes) > 0 && nodes[0].level == level {
		x := nodes[0].reason
		x.Kids, nodes = treesOf(nodes[1:], level+1)
		trees = append(trees, x)
	}
	return trees, nodes
}
