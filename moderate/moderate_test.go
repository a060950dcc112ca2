package moderate_test

import (
	"fmt"
	"math/rand"
	"slices"
	"testing"

	"fedchat/access"
	"fedchat/api"
	"fedchat/build"
	"fedchat/clone"
	"fedchat/event"
	"fedchat/glob"
	"fedchat/ids"
	. "fedchat/moderate"
	"fedchat/num"
	"fedchat/redact"
	"fedchat/room"
	"fedchat/sample"
	"fedchat/statemap"
	"fedchat/store"
)

func policyOf(about api.Kind, pattern, reason string) api.Policy {
	return api.Policy{About: about, Pattern: pattern, Reason: reason}
}

func users(pattern, reason string) api.Policy   { return policyOf(api.KMember, pattern, reason) }
func servers(pattern, reason string) api.Policy { return policyOf(api.KAccess, pattern, reason) }

// town is a public room of @u:a with members of other servers.
func town(names ...string) *sample.Room {
	s := sample.New("!r:a", "@u:a", api.Public, api.Shared)
	for _, user := range names {
		s.Add(user, api.KMember, user, api.Content{N: api.Join}, 0)
	}
	return s
}

func text(l []api.Event) string {
	parts := []string{}
	for _, e := range l {
		parts = append(parts, fmt.Sprintf("%d %s %d %q %v %v", e.Kind, e.Key, e.Content.N, e.Content.Text, e.Content.Allow, e.Content.Deny))
	}
	return fmt.Sprint(parts)
}

func TestExamples(t *testing.T) {
	r := sample.InOrder(town("@v:b", "@w:c"))
	l := []api.Policy{users("@v*:*", "spam"), servers("c", "evil")}
	want := `[2 @v:b 4 "spam" [] [] 2 @w:c 4 "evil" [] [] 6  0 "" [*] [c]]`
	plan := Plan(r, "a", l)
	if got := text(plan); got != want {
		t.Error("Plan", got)
	}
	for _, e := range plan {
		if e.Room != "!r:a" || !e.State || e.Sender != "" || e.Id+e.Time+e.Depth+e.Hash+len(e.Prev)+len(e.Auth) != 0 {
			t.Error("other fields", e)
		}
	}
	next, sent, err := Apply(r, "@u:a", l, 7)
	if err != api.OK || text(sent) != want || room.Check(next) != api.OK || fmt.Sprint(Banned(next)) != "[@v:b @w:c]" || access.May(statemap.Events(next.Events, next.State), "c") != api.ErrAccess {
		t.Error("Apply", text(sent), err)
	}
	for _, e := range sent {
		if _, known := store.Get(next.Events, e.Id); !known || e.Sender != "@u:a" || e.Time != 7 || event.Verify(e) != api.OK {
			t.Error("an event that was sent", e)
		}
	}
	if same, sent, err := Apply(r, "@v:b", []api.Policy{users("@w:c", "x")}, 0); err != api.ErrLevel || len(sent) != 0 || !room.Same(same, r) {
		t.Error("a user without power", err)
	}
	if again, sent, err := Apply(next, "@u:a", l, 8); err != api.OK || len(sent) != 0 || !room.Same(again, next) {
		t.Error("nothing is left to do", text(sent), err)
	}
}

func TestPlan(t *testing.T) {
	s := town("@v:b", "@left:b", "@x:a")
	s.Add("@u:a", api.KMember, "@invited:b", api.Content{N: api.Invite}, 0)
	s.Add("@u:a", api.KMember, "@banned:b", api.Content{N: api.Ban}, 0)
	s.Add("@left:b", api.KMember, "@left:b", api.Content{N: api.Leave}, 0)
	s.Add("@u:a", api.KRules, "", api.Content{N: api.ByKnock}, 0)
	s.Add("@knocks:d", api.KMember, "@knocks:d", api.Content{N: api.Knock}, 0)
	r := sample.InOrder(s)
	all := []api.Policy{servers("*", "server"), users("@i*", "user"), users("@never:*", "")}
	if got := text(Plan(r, "a", all)); got != `[2 @invited:b 4 "user" [] [] 2 @knocks:d 4 "server" [] [] 2 @v:b 4 "server" [] []]` {
		t.Error("all servers", got)
	}
	if got := text(Plan(r, "b", []api.Policy{servers("*", "server")})); got != `[2 @knocks:d 4 "server" [] [] 2 @u:a 4 "server" [] [] 2 @x:a 4 "server" [] []]` {
		t.Error("from another server", got)
	}
	if got := text(Plan(r, "a", []api.Policy{policyOf(api.KCreate, "*", ""), users("@x:a", "")})); got != "[]" {
		t.Error("nothing", got)
	}
	s.Add("@u:a", api.KAccess, "", api.Content{Allow: []string{"a", "?"}, Deny: []string{"z", "y"}}, 0)
	r = sample.InOrder(s)
	l := []api.Policy{servers("y", ""), servers("q*", ""), servers("b c", ""), servers("", ""), servers("a", ""), servers("?", ""), servers("p", "")}
	if got := text(Plan(r, "a", l)); got != `[2 @invited:b 4 "" [] [] 2 @knocks:d 4 "" [] [] 2 @v:b 4 "" [] [] 6  0 "" [a ?] [z y p q*]]` {
		t.Error("the access list", got)
	}
	if len(Plan(api.Room{}, "", nil))+len(Plan(r, "a", nil)) != 0 {
		t.Error("no policies")
	}
}

func TestFullAccessList(t *testing.T) {
	s := town()
	deny := []string{}
	for i := range 98 {
		deny = append(deny, fmt.Sprintf("x%02d", i))
	}
	s.Add("@u:a", api.KAccess, "", api.Content{Allow: []string{"*"}, Deny: deny}, 0)
	l := []api.Policy{servers("q1", ""), servers("q2", ""), servers("q3", "")}
	plan := Plan(sample.InOrder(s), "a", l)
	if len(plan) != 1 || !slices.Equal(plan[0].Content.Deny, append(slices.Clone(deny), "q1", "q2")) {
		t.Error("two places are left", plan)
	}
	s.Add("@u:a", api.KAccess, "", api.Content{Allow: []string{"*"}, Deny: append(deny, "q1", "q2")}, 0)
	if got := Plan(sample.InOrder(s), "a", l); len(got) != 0 {
		t.Error("no place is left", got)
	}
}

func TestApplySkipsWhatCannotBeSent(t *testing.T) {
	s := town("@v:b", "@w:c", "@m:a")
	s.Add("@u:a", api.KPower, "", api.Content{Levels: api.Levels{Users: []api.Level{{User: "@m:a", N: 50}, {User: "@u:a", N: 100}, {User: "@v:b", N: 60}}, Ban: 50, Kick: 50}}, 0)
	r := sample.InOrder(s)
	next, sent, err := Apply(r, "@m:a", []api.Policy{servers("?", "all"), users("@w*", "w")}, 3)
	if err != api.OK || text(sent) != `[2 @w:c 4 "w" [] []]` || room.Check(next) != api.OK {
		t.Error("one of two", text(sent), err)
	}
	if _, sent, err := Apply(r, "@m:a", []api.Policy{users("@v*", "v")}, 3); err != api.ErrLevel || len(sent) != 0 {
		t.Error("a better one", err)
	}
	if _, sent, err := Apply(r, "@m:a", []api.Policy{users("@w*", "w")}, -3); err != api.ErrRange || len(sent) != 0 {
		t.Error("a wrong time", err)
	}
}

func TestBan(t *testing.T) {
	r := sample.InOrder(town("@v:b"))
	next, e, err := Ban(r, "@u:a", "@v:b", "rude", 5)
	want, _ := build.Next(r.Events, "@u:a", api.KMember, "@v:b", api.Content{N: api.Ban, Text: "rude"}, 5)
	if err != api.OK || !event.Same(e, want) || !slices.Equal(Banned(next), []string{"@v:b"}) || room.Check(next) != api.OK {
		t.Error("Ban", e, err)
	}
	for name, c := range map[string]struct {
		user, target string
		time         int
		want         api.Errno
	}{"a better one": {"@v:b", "@u:a", 0, api.ErrLevel}, "a stranger": {"@x:x", "@v:b", 0, api.ErrMember}, "no user": {"@u:a", "v", 0, api.ErrName}, "a time": {"@u:a", "@v:b", -1, api.ErrRange}} {
		if same, e, err := Ban(r, c.user, c.target, "", c.time); err != c.want || !room.Same(same, r) || !event.Same(e, api.Event{}) {
			t.Errorf("%s: %d", name, err)
		}
	}
	if same, _, err := Ban(api.Room{Id: "!r:a"}, "@u:a", "@v:b", "", 0); err != api.ErrState || same.Id != "!r:a" {
		t.Error("an empty room", err)
	}
}

func TestClean(t *testing.T) {
	s := town("@v:b", "@w:c")
	first := s.Add("@v:b", api.KMessage, "", api.Content{Text: "gone"}, 0)
	second := s.Add("@v:b", api.KMessage, "", api.Content{Text: "redacted"}, 0)
	s.Add("@v:b", api.KRedact, "", api.Content{Target: second.Id}, 0)
	s.Add("@w:c", api.KMessage, "", api.Content{Text: "other"}, 0)
	s.Add("@v:b", api.KReact, "", api.Content{Text: "+", Target: second.Id}, 0)
	messages := []int{}
	for i := range 22 {
		messages = append(messages, s.Add("@v:b", api.KMessage, "", api.Content{Text: fmt.Sprint(i)}, 0).Id)
	}
	r := sample.InOrder(s)
	for i, row := range r.Rows {
		r.Rows[i].Gone = row.Id == first.Id
	}
	next, sent, err := Clean(r, "@u:a", "@v:b", 9)
	targets := []int{}
	for _, e := range sent {
		targets = append(targets, e.Content.Target)
		if e.Kind != api.KRedact || e.Key != "" || e.Content.Text != "" || e.Time != 9 || e.Sender != "@u:a" {
			t.Error("a redaction", e)
		}
	}
	if err != api.OK || !slices.Equal(targets, messages[:20]) || len(num.Minus(messages[:20], redact.Gone(next.Events))) != 0 || room.Check(next) != api.OK {
		t.Error("Clean", targets, err)
	}
	if _, sent, err := Clean(r, "@v:b", "@v:b", 9); err != api.OK || len(sent) != 20 {
		t.Error("own messages", err)
	}
	for name, c := range map[string]struct {
		user, target string
		time         int
		want         api.Errno
	}{"a level": {"@w:c", "@v:b", -1, api.ErrLevel}, "a time": {"@u:a", "@v:b", -1, api.ErrRange}, "nothing to do": {"@u:a", "@x:x", -1, api.OK}, "a stranger": {"@x:x", "@x:x", 0, api.OK}} {
		if same, sent, err := Clean(r, c.user, c.target, c.time); err != c.want || !room.Same(same, r) || len(sent) != 0 {
			t.Errorf("%s: %d", name, err)
		}
	}
}

func TestCleanOnlyWhatIsVisible(t *testing.T) {
	s := sample.New("!r:a", "@u:a", api.Public, api.Joined)
	s.Add("@v:b", api.KMember, "@v:b", api.Content{N: api.Join}, 0)
	s.Add("@v:b", api.KMessage, "", api.Content{Text: "early"}, 0)
	s.Add("@u:a", api.KPower, "", api.Content{Levels: api.Levels{Users: []api.Level{{User: "@m:a", N: 50}, {User: "@u:a", N: 100}}, Redact: 50}}, 0)
	s.Add("@m:a", api.KMember, "@m:a", api.Content{N: api.Join}, 0)
	late := s.Add("@v:b", api.KMessage, "", api.Content{Text: "late"}, 0)
	_, sent, err := Clean(sample.InOrder(s), "@m:a", "@v:b", 0)
	if err != api.OK || len(sent) != 1 || sent[0].Content.Target != late.Id {
		t.Error("a message that is not visible", sent, err)
	}
}

func TestRandomRooms(t *testing.T) {
	source := rand.New(rand.NewSource(1))
	banned, cleaned := 0, 0
	for range 20 {
		r := sample.Received(sample.Random(source.Intn, 28), source.Intn)
		old := clone.Room(r)
		user, target := sample.Users()[source.Intn(2)], sample.Users()[source.Intn(4)]
		l := []api.Policy{users([]string{"@b*", "*:evil", "*"}[source.Intn(3)], "r"), servers([]string{"evil", "?", "*"}[source.Intn(3)], "s")}
		own := ids.ServerOf(user)
		for _, e := range Plan(r, own, l) {
			if e.Kind == api.KMember && ids.ServerOf(e.Key) == own || slices.ContainsFunc(e.Content.Deny, func(p string) bool { return glob.Match(p, own) }) {
				t.Fatal("the own server", e)
			}
		}
		next, _, _ := Apply(r, user, l, 3)
		if room.Check(next) != api.OK || len(next.Heads) > api.MaxPrev {
			t.Fatal("no room", room.Check(next))
		}
		after, _, err := Ban(r, user, target, "", 3)
		if err == api.OK {
			banned++
			if !slices.Contains(Banned(after), target) {
				t.Fatal("not banned", target)
			}
		} else if !room.Same(after, r) {
			t.Fatal("an error changes the room")
		}
		after, sent, err := Clean(r, user, target, 3)
		if err == api.OK && len(sent) > 0 {
			cleaned++
			for _, e := range sent {
				if !num.Has(redact.Gone(after.Events), e.Content.Target) {
					t.Fatal("not redacted", e)
				}
			}
		}
		if room.Check(after) != api.OK || !room.Same(r, old) {
			t.Fatal("the room afterwards")
		}
		for i := range after.Rows {
			after.Rows[i].Pos = 99
		}
		if !room.Same(r, old) {
			t.Fatal("the result shares memory with the argument")
		}
	}
	if banned == 0 || cleaned == 0 {
		t.Error("little happens", banned, cleaned)
	}
}
