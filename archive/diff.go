package archive

import (
	"strings"

	"fedchat/num"
)

// maxLines is how many lines texts have for which the shortest script is searched.
const maxLines = 2000

// The signs of the elements of scripts.
const (
	keep   = "= "
	remove = "- "
	add    = "+ "
)

// Diff returns a script that turns the lines of a into those of b.
func Diff(a, b string) []string {
	from, to := Lines(a), Lines(b)
	script := []string{}
	if len(from) > maxLines || len(to) > maxLines {
		return append(signed(script, remove, from), signed(script, add, to)...)
	}
	common := commonLines(from, to)
	i, j, kept := 0, 0, 0
	for i < len(from) || j < len(to) {
		if i < len(from) && j < len(to) && from[i] == to[j] {
			i, j, kept = i+1, j+1, kept+1
			continue
		}
		script, kept = flush(script, kept), 0
		if j == len(to) || i < len(from) && common[i+1][j] == common[i][j] {
			script = append(script, remove+from[i])
			i++
		} else {
			script = append(script, add+to[j])
			j++
		}
	}
	return flush(script, kept)
}

// flush returns the script with an element for lines that are kept.
func flush(script []string, kept int) []string {
	if kept == 0 {
		return script
	}
	return append(script, keep+num.Text(kept))
}

// signed returns the script with an element for each line.
func signed(script []string, sign string, lines []string) []string {
	for _, line := range lines {
		script = append(script, sign+line)
	}
	return script
}

// commonLines returns how many lines can be kept at most of the lines from each place of both lists on.
func commonLines(a, b []string) [][]int32 {
	x, y := numbered(a, b)
	common := make([][]int32, len(a)+1)
	common[len(a)] = make([]int32, len(b)+1)
	for i := len(a) - 1; i >= 0; i-- {
		common[i] = make([]int32, len(b)+1)
		for j := len(b) - 1; j >= 0; j-- {
			if x[i] == y[j] {
				common[i][j] = common[i+1][j+1] + 1
			} else {
				common[i][j] = max(common[i+1][j], common[i][j+1])
			}
		}
	}
	return common
}

// numbered returns numbers for the lines of both lists, which are equal exactly if the lines are.
func numbered(a, b []string) ([]int, []int) {
	known := map[string]int{}
	number := func(l []string) []int {
		numbers := make([]int, len(l))
		for i, line := range l {
			n, found := known[line]
			if !found {
				n = len(known)
				known[line] = n
			}
			numbers[i] = n
		}
		return numbers
	}
	return number(a), number(b)
}

// Apply performs a script on the lines of a.
func Apply(a string, d []string) (string, bool) {
	left, result := Lines(a), []string{}
	for _, element := range d {
		sign, rest := element[:min(2, len(element))], element[min(2, len(element)):]
		switch {
		case sign == keep:
			c := &cursor{rest: rest}
			n := c.number()
			if !c.ended() || n < 1 || n > len(left) {
				return "", false
			}
			result, left = append(result, left[:n:n]...), left[n:]
		case sign == remove && len(left) > 0 && left[0] == rest:
			left = left[1:]
		case sign == add && !strings.Contains(rest, "\n"):
			result = append(result, rest)
		default:
			return "", false
		}
	}
	if len(left) > 0 || len(result) == 0 {
		return "", false
	}
	return strings.Join(result, "\n"), true
}
