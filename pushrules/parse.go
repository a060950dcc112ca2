package pushrules

import (
	"strings"

	"fedchat/api"
	"fedchat/ids"
	"fedchat/num"
)

// maxOpen is how many parentheses and words not can be open at a place.
const maxOpen = 100

// kinds are the words for the kinds, from KCreate on.
var kinds = [14]string{"create", "member", "power", "rules", "history", "access", "name", "retain", "policy", "crypt", "message", "react", "edit", "redact"}

// words are the words for the conditions, by their Op; those without one have none of their own.
var words = [api.IsGone + 1]string{
	api.Always: "always", api.KindIs: "kind", api.FromLike: "from", api.RoomLike: "room", api.TextLike: "text", api.HasWord: "word",
	api.LevelFrom: "level", api.MembersFrom: "members", api.TimeFrom: "time", api.MentionsMe: "mention", api.RepliesToMe: "reply",
	api.ThreadOfMine: "thread", api.IsEdit: "edit", api.IsGone: "gone",
}

// The classes of tokens; parentheses and commas are classes of their own.
const (
	wordToken   = 'w'
	stringToken = '"'
	endToken    = 0
)

// token is a part of a line.
type token struct {
	class byte
	text  string
}

// wrongLine is what the parser panics with if a line is not a rule.
type wrongLine struct{ line int }

// parser reads the tokens of a line.
type parser struct {
	line   int
	tokens []token
	open   int
}

func (p *parser) fail() {
	panic(wrongLine{p.line})
}

func isMark(b byte) bool {
	return b == '(' || b == ')' || b == ','
}

// tokenize splits a line into its tokens.
func (p *parser) tokenize(line string) {
	for line != "" {
		switch b := line[0]; {
		case b == ' ':
			line = line[1:]
		case isMark(b):
			p.tokens = append(p.tokens, token{class: b})
			line = line[1:]
		case b == '"':
			line = p.cutString(line[1:])
		default:
			width := 0
			for width < len(line) && line[width] != ' ' && line[width] != '"' && !isMark(line[width]) {
				width++
			}
			p.tokens = append(p.tokens, token{wordToken, line[:width]})
			line = line[width:]
		}
	}
}

// cutString takes a string, whose quote was read, and returns what follows it.
func (p *parser) cutString(rest string) string {
	text := []byte{}
	for i := 0; i < len(rest); i++ {
		switch rest[i] {
		case '"':
			p.tokens = append(p.tokens, token{stringToken, string(text)})
			return rest[i+1:]
		case '\\':
			if i++; i == len(rest) || rest[i] != '"' && rest[i] != '\\' {
				p.fail()
			}
		}
		text = append(text, rest[i])
	}
	p.fail()
	return ""
}

// peek returns the next token.
func (p *parser) peek() token {
	if len(p.tokens) == 0 {
		return token{class: endToken}
	}
	return p.tokens[0]
}

// take returns the text of the next token, which must be of a class.
func (p *parser) take(class byte) string {
	next := p.peek()
	if next.class != class || class == endToken {
		p.fail()
	}
	p.tokens = p.tokens[1:]
	return next.text
}

// isNext takes the next token if it is a certain word.
func (p *parser) isNext(word string) bool {
	if p.peek() != (token{wordToken, word}) {
		return false
	}
	p.take(wordToken)
	return true
}

func (p *parser) expect(word string) {
	if !p.isNext(word) {
		p.fail()
	}
}

func (p *parser) rule() api.PushRule {
	p.expect("rule")
	rule := api.PushRule{Name: p.take(wordToken)}
	p.expect("when")
	rule.When = p.condition()
	p.expect("do")
	rule.Do = []string{p.take(wordToken)}
	for p.peek().class == ',' {
		p.take(',')
		rule.Do = append(rule.Do, p.take(wordToken))
	}
	if p.peek().class != endToken {
		p.fail()
	}
	return rule
}

func (p *parser) condition() api.Cond {
	return p.chain(api.OneOf, "or", p.both)
}

func (p *parser) both() api.Cond {
	return p.chain(api.AllOf, "and", p.one)
}

// chain reads conditions with a word between them.
func (p *parser) chain(op api.CondOp, word string, read func() api.Cond) api.Cond {
	kids := []api.Cond{read()}
	for p.isNext(word) {
		kids = append(kids, read())
	}
	if len(kids) == 1 {
		return kids[0]
	}
	return api.Cond{Op: op, Kids: kids}
}

// nested reads what stands in parentheses, or behind a word not.
func (p *parser) nested(read func() api.Cond) api.Cond {
	if p.open++; p.open > maxOpen {
		p.fail()
	}
	c := read()
	p.open--
	return c
}

func (p *parser) one() api.Cond {
	if p.isNext("not") {
		return api.Cond{Op: api.NotSo, Kids: []api.Cond{p.nested(p.one)}}
	}
	if p.peek().class == '(' {
		return p.nested(func() api.Cond {
			p.take('(')
			c := p.condition()
			p.take(')')
			return c
		})
	}
	return p.simple()
}

// simple reads a condition without Kids.
func (p *parser) simple() api.Cond {
	word := p.take(wordToken)
	op := api.Always
	for op <= api.IsGone && words[op] != word {
		op++
	}
	c := api.Cond{Op: op}
	switch {
	case op > api.IsGone:
		p.fail()
	case op == api.KindIs:
		c.N = p.kind()
	case op == api.HasWord:
		c.Text = p.take(wordToken)
	case usesText(op):
		c.Text = p.take(stringToken)
	case usesNumber(op):
		c.N = p.number()
	}
	return c
}

func (p *parser) kind() int {
	word := p.take(wordToken)
	for i, name := range kinds {
		if name == word {
			return int(api.KCreate) + i
		}
	}
	p.fail()
	return 0
}

func (p *parser) number() int {
	n, ok := num.Parse(p.take(wordToken))
	if !ok {
		p.fail()
	}
	return n
}

func isComment(line string) bool {
	text := strings.TrimLeft(line, " ")
	return text == "" || text[0] == '#'
}

// Parse returns the rules of a text.
func Parse(s string) (rules []api.PushRule, line int, err api.Errno) {
	if len(s) > api.MaxScript {
		return nil, 0, api.ErrLong
	}
	defer func() {
		if wrong, ok := recover().(wrongLine); ok {
			rules, line, err = nil, wrong.line, api.ErrText
		}
	}()
	for i, text := range strings.Split(s, "\n") {
		if isComment(text) {
			continue
		}
		p := &parser{line: i + 1}
		p.tokenize(text)
		rules = append(rules, p.rule())
	}
	if err := Check(rules); err != api.OK {
		return nil, 0, err
	}
	return rules, 0, api.OK
}

// Print returns the text of rules.
func Print(l []api.PushRule) (string, api.Errno) {
	if err := Check(l); err != api.OK {
		return "", err
	}
	text := ""
	for _, rule := range l {
		text += "rule " + rule.Name + " when " + condText(rule.When) + " do " + strings.Join(rule.Do, ", ") + "\n"
	}
	if len(text) > api.MaxScript {
		return "", api.ErrLong
	}
	return text, api.OK
}

// condText returns the text of a condition that Check accepts.
func condText(c api.Cond) string {
	switch c.Op {
	case api.AllOf:
		return chainText(c, " and ", func(kid api.Cond) bool { return kid.Op == api.AllOf || kid.Op == api.OneOf })
	case api.OneOf:
		return chainText(c, " or ", func(kid api.Cond) bool { return kid.Op == api.OneOf })
	case api.NotSo:
		return "not " + chainText(c, "", func(kid api.Cond) bool { return kid.Op == api.AllOf || kid.Op == api.OneOf })
	case api.KindIs:
		return words[c.Op] + " " + kinds[c.N-int(api.KCreate)]
	case api.HasWord:
		return words[c.Op] + " " + c.Text
	}
	if usesText(c.Op) {
		return words[c.Op] + " " + quoted(c.Text)
	}
	if usesNumber(c.Op) {
		return words[c.Op] + " " + num.Text(c.N)
	}
	return words[c.Op]
}

// chainText returns the texts of the Kids of a condition, some of them in parentheses.
func chainText(c api.Cond, between string, grouped func(kid api.Cond) bool) string {
	texts := []string{}
	for _, kid := range c.Kids {
		text := condText(kid)
		if grouped(kid) {
			text = "(" + text + ")"
		}
		texts = append(texts, text)
	}
	return strings.Join(texts, between)
}

func quoted(s string) string {
	b := []byte{'"'}
	for i := range len(s) {
		if s[i] == '"' || s[i] == '\\' {
			b = append(b, '\\')
		}
		b = append(b, s[i])
	}
	return string(append(b, '"'))
}

// Usual returns the rules of a user who has written none.
func Usual(user string) []api.PushRule {
	if ids.User(user) != api.OK {
		return nil
	}
	lines := []string{
		"rule redacted when gone do mute",
		"rule edits when edit do mute",
		"rule mention when mention do notify, highlight, count, sound=ping",
		"rule replies when reply or thread do notify, highlight, count",
		"rule small-rooms when kind message and not members 3 do notify, count, sound=ding",
		"rule at-home when kind message and from " + quoted("*:"+ids.ServerOf(user)) + " do notify, count",
		"rule messages when kind message do count",
		"rule rest when always do mute",
	}
	rules, _, _ := Parse(strings.Join(lines, "\n"))
	return rules
}
