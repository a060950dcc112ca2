package pushrules_test

import (
	"fmt"
	"math"
	"math/rand"
	"slices"
	"strings"
	"testing"

	"fedchat/api"
	"fedchat/glob"
	"fedchat/levels"
	"fedchat/members"
	"fedchat/notify"
	"fedchat/num"
	. "fedchat/pushrules"
	"fedchat/redact"
	"fedchat/relate"
	"fedchat/room"
	"fedchat/sample"
	"fedchat/search"
	"fedchat/statemap"
	"fedchat/store"
	"fedchat/visible"
)

func leaf(op api.CondOp) api.Cond { return api.Cond{Op: op} }

func with(op api.CondOp, kids ...api.Cond) api.Cond { return api.Cond{Op: op, Kids: kids} }

func textOf(op api.CondOp, text string) api.Cond { return api.Cond{Op: op, Text: text} }

func numberOf(op api.CondOp, n int) api.Cond { return api.Cond{Op: op, N: n} }

func rule(name string, when api.Cond, do ...string) api.PushRule {
	return api.PushRule{Name: name, When: when, Do: do}
}

func sameRules(a, b []api.PushRule) bool {
	return slices.EqualFunc(a, b, func(x, y api.PushRule) bool {
		return x.Name == y.Name && Same(x.When, y.When) && slices.Equal(x.Do, y.Do)
	})
}

func TestCheckOfNamesAndActions(t *testing.T) {
	a := leaf(api.Always)
	long := strings.Repeat("x", 33)
	many := []api.PushRule{}
	for i := range 101 {
		many = append(many, rule(fmt.Sprint("r", i), a, "notify"))
	}
	for i, c := range []struct {
		l    []api.PushRule
		want api.Errno
	}{
		{nil, api.OK}, {many[:100], api.OK}, {many, api.ErrLong}, {make([]api.PushRule, 101), api.ErrLong}, {[]api.PushRule{rule("a-1", a, "notify", "highlight", "mute", "count", "sound=a-1")}, api.OK},
		{[]api.PushRule{rule("", leaf(99))}, api.ErrName}, {[]api.PushRule{rule(long, a, "notify")}, api.ErrName}, {[]api.PushRule{rule("A", a, "notify")}, api.ErrName}, {[]api.PushRule{rule("a b", a, "notify")}, api.ErrName}, {[]api.PushRule{rule("a_", a, "notify")}, api.ErrName},
		{[]api.PushRule{rule("a", a, "notify"), rule("b", a, "notify"), rule("a", leaf(99))}, api.ErrTwice}, {[]api.PushRule{rule("a", a), rule("", a)}, api.ErrShort},
		{[]api.PushRule{rule("a", a)}, api.ErrShort}, {[]api.PushRule{rule("a", a, "x", "x", "x", "x", "x", "x")}, api.ErrLong}, {[]api.PushRule{rule("a", a, "Notify")}, api.ErrForm}, {[]api.PushRule{rule("a", a, "sound=")}, api.ErrForm}, {[]api.PushRule{rule("a", a, "sound=A")}, api.ErrForm}, {[]api.PushRule{rule("a", a, "sound="+long)}, api.ErrForm}, {[]api.PushRule{rule("a", a, "sound="+long[:32])}, api.OK}, {[]api.PushRule{rule("a", a, "sound")}, api.ErrForm},
		{[]api.PushRule{rule("a", a, "notify", "notify")}, api.ErrTwice}, {[]api.PushRule{rule("a", a, "sound=a", "count", "sound=b")}, api.ErrTwice}, {[]api.PushRule{rule("a", a, "sound=a", "x", "sound=b")}, api.ErrForm},
	} {
		if got := Check(c.l); got != c.want {
			t.Errorf("%d: %d, want %d", i, got, c.want)
		}
	}
}

// wide is an OneOf with n nodes.
func wide(n int) api.Cond {
	kids := []api.Cond{}
	for range n - 1 {
		kids = append(kids, leaf(api.Always))
	}
	return with(api.OneOf, kids...)
}

func deep(levels int) api.Cond {
	c := leaf(api.IsGone)
	for range levels - 1 {
		c = with(api.NotSo, c)
	}
	return c
}

func TestCheckOfConditions(t *testing.T) {
	a := leaf(api.Always)
	for i, c := range []struct {
		c    api.Cond
		want api.Errno
	}{
		{wide(40), api.OK}, {wide(41), api.ErrFull}, {deep(8), api.OK}, {deep(9), api.ErrFull}, {api.Cond{Op: 99, Kids: deep(9).Kids}, api.ErrFull},
		{leaf(0), api.ErrArg}, {leaf(18), api.ErrArg}, {leaf(-1), api.ErrArg}, {leaf(api.IsGone), api.OK},
		{api.Cond{Op: api.Always, Text: "x"}, api.ErrArg}, {api.Cond{Op: api.Always, N: 1}, api.ErrArg}, {with(api.Always, a), api.ErrArg}, {api.Cond{Op: api.KindIs, N: 1, Text: "x"}, api.ErrArg}, {api.Cond{Op: api.FromLike, N: 1, Text: "x"}, api.ErrArg}, {api.Cond{Op: api.KindIs, N: 99, Kids: []api.Cond{a}}, api.ErrArg}, {api.Cond{Op: api.AllOf, Text: "x"}, api.ErrArg}, {api.Cond{Op: api.NotSo, N: 1, Kids: []api.Cond{a}}, api.ErrArg}, {api.Cond{Op: api.IsEdit, N: -1}, api.ErrArg},
		{with(api.NotSo), api.ErrArg}, {with(api.NotSo, a, a), api.ErrArg}, {with(api.AllOf, a), api.ErrShort}, {with(api.OneOf), api.ErrShort}, {with(api.AllOf, a, a), api.OK}, {with(api.OneOf, leaf(99)), api.ErrShort}, {with(api.OneOf, a, leaf(99)), api.ErrArg}, {with(api.OneOf, numberOf(api.KindIs, 0), leaf(99)), api.ErrRange}, {with(api.OneOf, with(api.AllOf, a), leaf(99)), api.ErrShort},
		{numberOf(api.KindIs, 1), api.OK}, {numberOf(api.KindIs, 14), api.OK}, {numberOf(api.KindIs, 0), api.ErrRange}, {numberOf(api.KindIs, 15), api.ErrRange},
		{textOf(api.FromLike, "@a*"), api.OK}, {textOf(api.FromLike, ""), api.ErrShort}, {textOf(api.RoomLike, "a b"), api.ErrName}, {textOf(api.TextLike, strings.Repeat("x", 65)), api.ErrLong},
		{textOf(api.HasWord, "a1"), api.OK}, {textOf(api.HasWord, ""), api.ErrName}, {textOf(api.HasWord, "A"), api.ErrName}, {textOf(api.HasWord, "a-b"), api.ErrName}, {textOf(api.HasWord, strings.Repeat("x", 33)), api.ErrName},
		{numberOf(api.LevelFrom, -1000), api.OK}, {numberOf(api.LevelFrom, 1001), api.ErrRange}, {numberOf(api.MembersFrom, api.MaxInt), api.OK}, {numberOf(api.MembersFrom, -1), api.ErrRange}, {numberOf(api.MembersFrom, api.MaxInt+1), api.ErrRange}, {numberOf(api.TimeFrom, api.MaxTime), api.OK}, {numberOf(api.TimeFrom, api.MaxTime+1), api.ErrRange}, {numberOf(api.TimeFrom, -1), api.ErrRange},
	} {
		if got := Check([]api.PushRule{rule("a", c.c, "notify")}); got != c.want {
			t.Errorf("%d: %d, want %d", i, got, c.want)
		}
	}
}

func TestExamples(t *testing.T) {
	text := "rule a when kind message and (mention or not level 50) do notify"
	rules, line, err := Parse(text)
	want := with(api.AllOf, numberOf(api.KindIs, 11), with(api.OneOf, leaf(api.MentionsMe), with(api.NotSo, numberOf(api.LevelFrom, 50))))
	if err != api.OK || line != 0 || !sameRules(rules, []api.PushRule{rule("a", want, "notify")}) {
		t.Error("Parse", rules, line, err)
	}
	if got, err := Print(rules); got != text+"\n" || err != api.OK {
		t.Error("Print", got, err)
	}
	rules, _, _ = Parse("rule a when ( (mention)) do notify,count")
	if got, err := Print(rules); got != "rule a when mention do notify, count\n" || err != api.OK {
		t.Error("Print", got, err)
	}
	if rules, line, err := Parse("# x\nrule a when from x do notify"); len(rules) != 0 || line != 2 || err != api.ErrText {
		t.Error("a word is no string", line, err)
	}
	if rules, line, err := Parse("rule A when always do notify"); len(rules) != 0 || line != 0 || err != api.ErrName {
		t.Error("a wrong name", line, err)
	}
}

func TestParse(t *testing.T) {
	m, g, e := leaf(api.MentionsMe), leaf(api.IsGone), leaf(api.IsEdit)
	for s, want := range map[string]api.Cond{
		"always": leaf(api.Always), "reply": leaf(api.RepliesToMe), "thread": leaf(api.ThreadOfMine), "kind create": numberOf(api.KindIs, 1), "kind redact": numberOf(api.KindIs, 14), "kind name": numberOf(api.KindIs, 7),
		`from "@a*"`: textOf(api.FromLike, "@a*"), `room"!r"`: textOf(api.RoomLike, "!r"), `text "\"\\x"`: textOf(api.TextLike, `"\x`), "word when": textOf(api.HasWord, "when"), "level -5": numberOf(api.LevelFrom, -5), "members 3": numberOf(api.MembersFrom, 3), "time 0": numberOf(api.TimeFrom, 0),
		"mention or gone and edit": with(api.OneOf, m, with(api.AllOf, g, e)), "(mention or gone)and edit": with(api.AllOf, with(api.OneOf, m, g), e), "mention or gone or edit": with(api.OneOf, m, g, e), "mention or (gone or edit)": with(api.OneOf, m, with(api.OneOf, g, e)), "(mention and gone) and edit": with(api.AllOf, with(api.AllOf, m, g), e),
		"not mention and gone": with(api.AllOf, with(api.NotSo, m), g), "not (mention and gone)": with(api.NotSo, with(api.AllOf, m, g)), "not not gone": with(api.NotSo, with(api.NotSo, g)), "((gone))": g, `from"a"and(not(gone))`: with(api.AllOf, textOf(api.FromLike, "a"), with(api.NotSo, g)),
	} {
		rules, line, err := Parse("  rule   when when " + s + " do   notify , sound=x  ")
		if err != api.OK || line != 0 || !sameRules(rules, []api.PushRule{rule("when", want, "notify", "sound=x")}) {
			t.Errorf("%s: %v, %d, %d", s, rules, line, err)
		}
	}
	rules, _, err := Parse("\n   \n  # rule\n#\nrule a when gone do mute\nrule do when gone do mute\n")
	if err != api.OK || len(rules) != 2 || rules[1].Name != "do" {
		t.Error("comments", rules, err)
	}
	if rules, line, err := Parse(""); len(rules) != 0 || line != 0 || err != api.OK {
		t.Error("nothing", err)
	}
}

func TestParseErrors(t *testing.T) {
	for _, s := range []string{
		"x", "rule", "rule a", "rule a when", "rule a when gone", "rule a when gone do", "rule a when gone do notify,", "rule a when gone do ,", "rule a when gone do notify notify", "rule a when gone do notify,,mute", "rule a when gone do \"notify\"", "rule \"a\" when gone do notify", "Rule a when gone do notify", "rule a When gone do notify", "rule (a) when gone do notify",
		"rule a when do notify", "rule a when () do notify", "rule a when (gone do notify", "rule a when gone) do notify", "rule a when gone and do notify", "rule a when and gone do notify", "rule a when gone or or gone do notify", "rule a when not do notify", "rule a when gone gone do notify", "rule a when x do notify", "rule a when Gone do notify",
		"rule a when kind do notify", "rule a when kind x do notify", "rule a when kind 11 do notify", "rule a when kind \"message\" do notify", "rule a when from do notify", "rule a when from \"a do notify", `rule a when from "a\x" do notify`, `rule a when from "a\" do notify`, `rule a when from "a\`, "rule a when word \"x\" do notify", "rule a when level x do notify", "rule a when level 01 do notify", "rule a when level \"1\" do notify", "rule a when level - 1 do notify", "rule a when level do notify", "rule a when gone do notify\r,", "rule a when gone # do notify",
	} {
		if rules, line, err := Parse("\nrule x when gone do mute\n" + s + "\nx"); len(rules) != 0 || line != 3 || err != api.ErrText {
			t.Errorf("%q: %d, %d", s, line, err)
		}
	}
	for s, want := range map[string]api.Errno{"rule a when level 1001 do notify": api.ErrRange, "rule a when word A do notify": api.ErrName, "rule a when gone do x": api.ErrForm, "rule a when gone do mute\nrule a when gone do mute": api.ErrTwice, `rule a when from "" do mute`: api.ErrShort, strings.Repeat("#", api.MaxScript+1): api.ErrLong} {
		if rules, line, err := Parse(s); len(rules) != 0 || line != 0 || err != want {
			t.Errorf("%q: %d, %d", s, line, err)
		}
	}
	if _, _, err := Parse(strings.Repeat("#", api.MaxScript)); err != api.OK {
		t.Error("the longest text", err)
	}
}

func TestOpenParentheses(t *testing.T) {
	for n, want := range map[int]api.Errno{100: api.OK, 101: api.ErrText, 5000: api.ErrText} {
		s := "rule a when " + strings.Repeat("(", n) + "gone" + strings.Repeat(")", n) + " do mute"
		if _, line, err := Parse(s); err != want || line != map[api.Errno]int{api.ErrText: 1}[want] {
			t.Error("parentheses", n, err)
		}
	}
	deep := func(nots, parentheses int) string {
		return "rule a when " + strings.Repeat("not ", nots) + strings.Repeat("(", parentheses) + "gone" + strings.Repeat(")", parentheses) + " do mute"
	}
	if _, _, err := Parse(deep(100, 0)); err != api.ErrFull {
		t.Error("100 words not", err)
	}
	if _, _, err := Parse(deep(60, 41)); err != api.ErrText {
		t.Error("both together", err)
	}
	many := "rule a when gone" + strings.Repeat(" or (not gone)", 3) + strings.Repeat(" or gone", 25) + " do mute"
	if _, _, err := Parse(many); err != api.OK {
		t.Error("one after the other", err)
	}
	closed := "rule a when ((gone)" + strings.Repeat(" or (gone)", 30) + ") do mute"
	if _, _, err := Parse(closed); err != api.OK {
		t.Error("closed parentheses do not count", err)
	}
}

func usesKids(op api.CondOp) bool {
	return op == api.AllOf || op == api.OneOf || op == api.NotSo
}

func usesText(op api.CondOp) bool {
	return op == api.FromLike || op == api.RoomLike || op == api.TextLike
}

func usesNumber(op api.CondOp) bool {
	return op == api.LevelFrom || op == api.MembersFrom || op == api.TimeFrom
}

// never is the condition that does not hold for anything.
func never() api.Cond { return with(api.NotSo, leaf(api.Always)) }

func randomCond(source *rand.Rand, levels int, valid bool) api.Cond {
	op := api.CondOp(1 + source.Intn(17))
	if levels > 1 && source.Intn(2) == 0 {
		op = []api.CondOp{api.AllOf, api.OneOf, api.NotSo}[source.Intn(3)]
	}
	if !valid && source.Intn(20) == 0 {
		op = []api.CondOp{0, 99}[source.Intn(2)]
	}
	c := leaf(op)
	switch {
	case usesKids(op) && levels <= 1:
		return leaf([]api.CondOp{api.Always, api.IsGone, api.IsEdit}[source.Intn(3)])
	case op == api.NotSo && (valid || source.Intn(2) == 0):
		c.Kids = []api.Cond{randomCond(source, levels-1, valid)}
	case usesKids(op):
		least := 2
		if !valid {
			least = 0
		}
		for range least + source.Intn(2) {
			c.Kids = append(c.Kids, randomCond(source, levels-1, valid))
		}
	case op == api.HasWord:
		c.Text = []string{"hi", "bob"}[source.Intn(2)]
	case usesText(op):
		c.Text = []string{"@b*", `"\`, "*", "hi*", "!r:a"}[source.Intn(5)]
	case op == api.KindIs:
		c.N = 1 + source.Intn(14)
	case usesNumber(op):
		c.N = source.Intn(4)
	}
	if !valid && source.Intn(10) == 0 {
		c.Text, c.N = "x", 3
	}
	return c
}

func TestParseInvertsPrint(t *testing.T) {
	source := rand.New(rand.NewSource(1))
	printed := 0
	for range 3000 {
		l := []api.PushRule{}
		for i := range source.Intn(4) {
			l = append(l, rule(fmt.Sprint("r-", i), randomCond(source, 1+source.Intn(6), true), []string{"notify", "mute", "sound=x"}[source.Intn(3)], "count"))
		}
		s, err := Print(l)
		if want := Check(l); err != want || err != api.OK && s != "" {
			t.Fatal("Print", err, want)
		}
		if err != api.OK {
			continue
		}
		printed++
		again, line, err := Parse(s)
		if err != api.OK || line != 0 || !sameRules(again, l) {
			t.Fatal("Parse of Print", s, line, err)
		}
		loose := strings.ReplaceAll(strings.ReplaceAll(s, " and ", "  and "), "(", "( ")
		other, _, err := Parse("# x\n" + loose)
		if text, _ := Print(other); err != api.OK || text != s {
			t.Fatal("another text of the rules", loose)
		}
	}
	if printed < 1000 {
		t.Error("few rules were printed", printed)
	}
}

func TestLongPrint(t *testing.T) {
	l := []api.PushRule{}
	for i := range 20 {
		kids := []api.Cond{}
		for range 20 {
			kids = append(kids, textOf(api.TextLike, strings.Repeat("x", 60)))
		}
		l = append(l, rule(fmt.Sprint("r", i), with(api.OneOf, kids...), "mute"))
	}
	if s, err := Print(l); s != "" || err != api.ErrLong {
		t.Error("a long text", len(s), err)
	}
	if s, err := Print(l[:10]); err != api.OK || len(s) > api.MaxScript {
		t.Error("a shorter one", err)
	}
}

// holdsAsWritten follows the table.
func holdsAsWritten(c api.Cond, r api.Room, user string, e api.Event) bool {
	count := 0
	for _, kid := range c.Kids {
		if (c.Op == api.AllOf || c.Op == api.OneOf || c.Op == api.NotSo) && holdsAsWritten(kid, r, user, e) {
			count++
		}
	}
	state := statemap.Events(r.Events, r.State)
	v, _ := levels.Of(state)
	gone := num.Has(redact.Gone(r.Events), e.Id)
	text := e.Content.Text
	if gone {
		text = ""
	}
	rel, target := relate.Of(e)
	referred, known := store.Get(r.Events, target)
	own := known && referred.Sender == user
	return map[api.CondOp]bool{
		api.Always: true, api.AllOf: count == len(c.Kids), api.OneOf: count > 0, api.NotSo: count == 0, api.KindIs: int(e.Kind) == c.N, api.FromLike: glob.Match(c.Text, e.Sender), api.RoomLike: glob.Match(c.Text, e.Room), api.TextLike: glob.Match(c.Text, text), api.HasWord: slices.Contains(search.Words(text), c.Text),
		api.LevelFrom: levels.User(v, e.Sender) >= c.N, api.MembersFrom: len(members.With(state, api.Join)) >= c.N, api.TimeFrom: e.Time >= c.N, api.MentionsMe: notify.Marks(text, user), api.RepliesToMe: rel == api.Reply && own,
		api.ThreadOfMine: rel == api.InThread && (own || slices.ContainsFunc(r.Events, func(x api.Event) bool {
			rel2, target2 := relate.Of(x)
			return x.Id != e.Id && x.Sender == user && rel2 == api.InThread && target2 == target
		})), api.IsEdit: rel == api.EditOf, api.IsGone: gone,
	}[c.Op]
}

// chat is a room with replies, threads and redactions.
func chat(source *rand.Rand) api.Room {
	s := sample.Random(source.Intn, 12)
	for range 8 {
		f := s.Frame(sample.Users()[source.Intn(3)], api.KMessage, "", api.Content{Text: []string{"x", "hi bob"}[source.Intn(2)], Target: s.Events[source.Intn(len(s.Events))].Id, Thread: source.Intn(2) == 0}, source.Intn(9))
		if len(f.Prev) <= api.MaxPrev {
			s.Put(f)
		}
	}
	for _, k := range []api.Kind{api.KEdit, api.KRedact, api.KRedact} {
		f := s.Frame("@ann:a", k, "", api.Content{Text: "again", Target: s.Events[source.Intn(len(s.Events))].Id}, 9)
		if len(f.Prev) <= api.MaxPrev {
			s.Put(f)
		}
	}
	r := sample.Received(s, source.Intn)
	for i := range r.Rows {
		r.Rows[i].Gone = source.Intn(9) == 0
	}
	return r
}

func TestHolds(t *testing.T) {
	source := rand.New(rand.NewSource(2))
	held := map[api.CondOp]int{}
	for range 8 {
		r := chat(source)
		for range 60 {
			user := sample.Users()[source.Intn(3)]
			e := r.Events[source.Intn(len(r.Events))]
			c := randomCond(source, 1+source.Intn(3), false)
			got := Holds(c, r, user, e)
			if want := holdsAsWritten(c, r, user, e); got != want {
				t.Fatal("Holds", c, e, got)
			}
			if got {
				held[c.Op]++
			}
			if simple := Simple(c); Holds(simple, r, user, e) != got {
				t.Fatal("the normal form", c, simple)
			}
		}
		for op := api.Always; op <= api.IsGone; op++ {
			for _, e := range r.Events {
				c := api.Cond{Op: op, Text: "hi", N: 1}
				if op == api.FromLike || op == api.RoomLike || op == api.TextLike {
					c.Text = "*"
				}
				got := Holds(c, r, "@bob:b", e)
				if got != holdsAsWritten(c, r, "@bob:b", e) {
					t.Fatal("Holds", c, e)
				}
				if got {
					held[op]++
				}
			}
		}
	}
	for op := api.Always; op <= api.IsGone; op++ {
		if op != api.OneOf && held[op] == 0 {
			t.Errorf("the condition %d never held", op)
		}
	}
	if Holds(leaf(0), api.Room{}, "", api.Event{}) || Holds(leaf(99), api.Room{}, "", api.Event{}) || !Holds(with(api.AllOf), api.Room{}, "", api.Event{}) || Holds(with(api.OneOf), api.Room{}, "", api.Event{}) || !Holds(with(api.NotSo), api.Room{}, "", api.Event{}) {
		t.Error("odd conditions")
	}
}

func TestFirstDoAndCounts(t *testing.T) {
	source := rand.New(rand.NewSource(3))
	total := 0
	for range 10 {
		r := chat(source)
		user := sample.Users()[source.Intn(3)]
		r.Receipts = []api.Receipt{{User: user, Id: r.Rows[source.Intn(len(r.Rows))].Id}}
		l := []api.PushRule{}
		for i := range 4 {
			l = append(l, rule(fmt.Sprint("r", i), randomCond(source, 2, true), [][]string{{"notify", "sound=x", "count"}, {"mute", "notify", "highlight", "sound=x", "sound=X", "count"}, {"highlight"}}[source.Intn(3)]...))
		}
		place := slices.IndexFunc(r.Rows, func(row api.Row) bool { return row.Id == r.Receipts[0].Id })
		notified, highlighted := 0, 0
		for i, row := range r.Rows {
			e, _ := store.Get(r.Events, row.Id)
			want := -1
			if visible.May(r, e.Id, user) == api.OK && !row.Gone && e.Sender != user {
				want = slices.IndexFunc(l, func(x api.PushRule) bool { return Holds(x.When, r, user, e) })
			}
			first, found := First(l, r, user, e)
			if found != (want >= 0) || found && !sameRules([]api.PushRule{first}, l[want:want+1]) || !found && !sameRules([]api.PushRule{first}, make([]api.PushRule, 1)) {
				t.Fatal("First", first, found, want)
			}
			actions := slices.Clone(first.Do)
			if slices.Contains(actions, "mute") {
				actions = []string{"highlight", "sound=X", "count"}
			}
			if got := Do(l, r, user, e); !slices.Equal(got, actions) {
				t.Fatal("Do", got, actions)
			}
			if i > place && slices.Contains(actions, "notify") {
				notified++
			}
			if i > place && slices.Contains(actions, "highlight") {
				highlighted++
			}
			if found {
				total++
				if slices.Contains(Shadowed(l), first.Name) {
					t.Fatal("a shadowed rule comes first", l)
				}
				first.Do[0] = "changed"
				if l[want].Do[0] == "changed" {
					t.Fatal("the result shares memory with the argument")
				}
			}
		}
		if a, b := Counts(l, r, user); a != notified || b != highlighted {
			t.Fatal("Counts", a, b, notified, highlighted)
		}
		r.Receipts = nil
		if a, _ := Counts(l, r, user); a < notified {
			t.Fatal("Counts without a receipt", a)
		}
	}
	if total == 0 {
		t.Error("no rule held")
	}
	if n, m := Counts(nil, api.Room{}, ""); n+m != 0 || len(Do(nil, api.Room{}, "", api.Event{})) != 0 {
		t.Error("nothing")
	}
	if row, _ := room.Row(api.Room{}, 0); row.Gone {
		t.Error("no row")
	}
}

func TestSimple(t *testing.T) {
	a, m, e, g := leaf(api.Always), leaf(api.MentionsMe), leaf(api.IsEdit), leaf(api.IsGone)
	not := func(c api.Cond) api.Cond { return with(api.NotSo, c) }
	for i, c := range []struct{ c, want api.Cond }{
		{with(api.AllOf, a, with(api.AllOf, m, e), m), with(api.AllOf, m, e)}, {not(not(g)), g}, {with(api.OneOf, g, not(never())), a},
		{leaf(99), never()}, {leaf(0), never()}, {api.Cond{Op: api.Always, Text: "x", N: 3, Kids: []api.Cond{g}}, a}, {api.Cond{Op: api.KindIs, Text: "x", N: 3, Kids: []api.Cond{g}}, numberOf(api.KindIs, 3)}, {api.Cond{Op: api.FromLike, Text: "x", N: 3}, textOf(api.FromLike, "x")}, {api.Cond{Op: api.AllOf, Text: "x", N: 3, Kids: []api.Cond{g, m}}, with(api.AllOf, g, m)},
		{with(api.AllOf), a}, {with(api.OneOf), never()}, {with(api.NotSo), a}, {with(api.AllOf, a, a), a}, {with(api.AllOf, g), g}, {with(api.OneOf, g, g), g}, {with(api.AllOf, g, never(), m), never()}, {with(api.OneOf, g, never(), m), with(api.OneOf, g, m)}, {with(api.OneOf, with(api.OneOf, g, m), with(api.OneOf, m, e)), with(api.OneOf, g, m, e)}, {with(api.OneOf, with(api.AllOf, g, m), with(api.AllOf, m, g)), with(api.OneOf, with(api.AllOf, g, m), with(api.AllOf, m, g))},
		{with(api.NotSo, g, m), not(with(api.OneOf, g, m))}, {with(api.NotSo, g, a), never()}, {not(never()), a}, {not(a), never()}, {not(with(api.OneOf, never(), not(g))), g}, {with(api.AllOf, not(not(with(api.AllOf, g, m))), e), with(api.AllOf, g, m, e)}, {with(api.AllOf, leaf(77), g), never()},
	} {
		if got := Simple(c.c); !Same(got, c.want) {
			t.Errorf("%d: %v, want %v", i, got, c.want)
		}
	}
	source := rand.New(rand.NewSource(4))
	for range 5000 {
		c := randomCond(source, 1+source.Intn(5), source.Intn(2) == 0)
		x := Simple(c)
		if !Same(Simple(x), x) {
			t.Fatal("Simple twice", c, x)
		}
		if Check([]api.PushRule{rule("a", c, "mute")}) == api.OK && Nodes(x) > Nodes(c) {
			t.Fatal("more nodes", c, x)
		}
	}
}

func TestNodesSameAndShadowed(t *testing.T) {
	g, m := leaf(api.IsGone), leaf(api.MentionsMe)
	if Nodes(g) != 1 || Nodes(with(api.AllOf, g, with(api.NotSo, m), g)) != 5 || Nodes(wide(500)) != 500 || Nodes(leaf(99)) != 1 {
		t.Error("Nodes")
	}
	for i, c := range []struct {
		a, b api.Cond
		want bool
	}{{g, g, true}, {g, m, false}, {with(api.AllOf, g, m), with(api.AllOf, g, m), true}, {with(api.AllOf, g, m), with(api.AllOf, m, g), false}, {with(api.AllOf, g), with(api.AllOf), false}, {api.Cond{Kids: []api.Cond{}}, api.Cond{}, true}, {numberOf(4, 1), numberOf(4, 2), false}, {textOf(4, "a"), textOf(4, "b"), false}} {
		if Same(c.a, c.b) != c.want || Same(c.b, c.a) != c.want {
			t.Errorf("Same %d", i)
		}
	}
	for i, c := range []struct {
		l    []api.PushRule
		want string
	}{
		{[]api.PushRule{rule("a", m), rule("b", with(api.NotSo, with(api.NotSo, m)))}, "[b]"}, {[]api.PushRule{rule("a", g), rule("b", leaf(api.Always)), rule("c", m), rule("c", g)}, "[c c]"}, {[]api.PushRule{rule("a", leaf(99)), rule("b", never()), rule("c", g)}, "[b]"}, {nil, "[]"}, {[]api.PushRule{rule("a", with(api.OneOf, g, m)), rule("b", g)}, "[]"},
	} {
		if got := fmt.Sprint(Shadowed(c.l)); got != c.want {
			t.Errorf("Shadowed %d: %s", i, got)
		}
	}
}

func TestUsual(t *testing.T) {
	want := `rule redacted when gone do mute
rule edits when edit do mute
rule mention when mention do notify, highlight, count, sound=ping
rule replies when reply or thread do notify, highlight, count
rule small-rooms when kind message and not members 3 do notify, count, sound=ding
rule at-home when kind message and from "*:b.example" do notify, count
rule messages when kind message do count
rule rest when always do mute
`
	rules := Usual("@bob:b.example")
	if got, err := Print(rules); got != want || err != api.OK || Check(rules) != api.OK || len(Shadowed(rules)) != 0 {
		t.Error(got, err)
	}
	if len(Usual("bob")) != 0 || len(Usual("!r:a")) != 0 || len(Usual("@bob:"+strings.Repeat("b", 32))) != 8 {
		t.Error("other users")
	}
	if Nodes(with(api.NotSo, leaf(math.MaxInt))) != 2 {
		t.Error("Nodes")
	}
}
