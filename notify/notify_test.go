package notify_test

import (
	"math/rand"
	"slices"
	"testing"

	"fedchat/api"
	. "fedchat/notify"
	"fedchat/num"
	"fedchat/receipts"
	"fedchat/redact"
	"fedchat/relate"
	"fedchat/room"
	"fedchat/sample"
	"fedchat/store"
	"fedchat/visible"
)

func TestMarks(t *testing.T) {
	for _, c := range []struct {
		text, user string
		want       bool
	}{
		{"hi bob!", "@bob:b", true}, {"bobby", "@bob:b", false}, {"hi", "@bob:b", false}, {"bob", "@bob:b", true}, {"", "@bob:b", false}, {"kabob", "@bob:b", false}, {"bob9", "@bob:b", false}, {"Zbob", "@bob:b", false}, {"bob_", "@bob:b", true}, {"\xffbob\xff", "@bob:b", true}, {"bobbob bob", "@bob:b", true}, {"bobbob", "@bob:b", false},
		{"Bob", "@bob:b", false}, {"@bob:b", "@bob:b", true}, {"bob", "bob", false}, {"bob", "!bob:b", false}, {"a-a-b", "@a-b:x", true}, {"xa-a-b", "@a-b:x", true}, {"a=b.c", "@a=b.c:x", true}, {"aa", "@a:x", false}, {"- -", "@-:x", true}, {"x-y", "@-:x", false},
	} {
		if got := Marks(c.text, c.user); got != c.want {
			t.Errorf("Marks(%q, %q) = %t", c.text, c.user, got)
		}
	}
}

// town is a room with @ann:a, @bob:b and @cy:c.
func town() *sample.Room {
	s := sample.New("!r:a", "@ann:a", api.Public, api.Shared)
	for _, user := range []string{"@bob:b", "@cy:c"} {
		s.Add(user, api.KMember, user, api.Content{N: api.Join}, 0)
	}
	return s
}

func say(s *sample.Room, user, text string, target int, thread bool) api.Event {
	return s.Add(user, api.KMessage, "", api.Content{Text: text, Target: target, Thread: thread}, 0)
}

func TestShould(t *testing.T) {
	s := town()
	own := say(s, "@bob:b", "one", 0, false)
	others := say(s, "@ann:a", "two", 0, false)
	mention := say(s, "@ann:a", "hi bob", 0, false)
	reply := say(s, "@ann:a", "x", own.Id, false)
	inThread := say(s, "@ann:a", "x", own.Id, true)
	elsewhere := say(s, "@cy:c", "x", others.Id, true)
	replyToAnn := say(s, "@cy:c", "x", others.Id, false)
	bobs := say(s, "@bob:b", "bob", others.Id, true)
	reaction := s.Add("@ann:a", api.KReact, "", api.Content{Text: "bob", Target: own.Id}, 0)
	r := sample.InOrder(s)
	for name, c := range map[string]struct {
		e    api.Event
		user string
		want bool
	}{
		"no reason": {others, "@bob:b", false}, "a mention": {mention, "@bob:b", true}, "a mention of another": {mention, "@cy:c", false}, "a reply": {reply, "@bob:b", true}, "a thread": {inThread, "@bob:b", true}, "a thread with own events": {elsewhere, "@bob:b", true}, "an own event": {bobs, "@bob:b", false}, "a thread of the sender": {bobs, "@ann:a", true}, "a thread of one event": {inThread, "@cy:c", false}, "a reply to another": {replyToAnn, "@bob:b", false}, "a reply to ann": {replyToAnn, "@ann:a", true}, "no message": {reaction, "@bob:b", false}, "a stranger": {mention, "@bob:x", false}, "the own thread": {elsewhere, "@cy:c", false},
	} {
		if got := Should(r, c.user, c.e); got != c.want {
			t.Errorf("%s: %t", name, got)
		}
	}
	changed := others
	changed.Content.Text = "hi bob"
	unknown := mention
	unknown.Id = 7
	if !Should(r, "@bob:b", changed) || Should(r, "@bob:b", unknown) || Should(api.Room{}, "@bob:b", mention) {
		t.Error("other events or rooms")
	}
	// Only another event of the user in the thread counts.
	twin := bobs
	twin.Sender, twin.Content.Text = "@ann:a", "x"
	if Should(r, "@bob:b", twin) {
		t.Error("the event itself counts as a contribution")
	}
}

func TestGoneMessages(t *testing.T) {
	s := town()
	first := say(s, "@ann:a", "hi bob", 0, false)
	say(s, "@ann:a", "hi bob, too", 0, false)
	s.Add("@ann:a", api.KRedact, "", api.Content{Target: first.Id}, 0)
	r := sample.InOrder(s)
	if Should(r, "@bob:b", first) {
		t.Error("a redacted message")
	}
	third := say(s, "@ann:a", "ho bob", 0, false)
	r = sample.InOrder(s)
	if !Should(r, "@bob:b", third) {
		t.Error("a message")
	}
	r.Rows[len(r.Rows)-1].Gone = true
	if Should(r, "@bob:b", third) {
		t.Error("a row that is gone")
	}
}

// shouldAsWritten follows the definition.
func shouldAsWritten(r api.Room, user string, e api.Event) bool {
	row, _ := room.Row(r, e.Id)
	if e.Kind != api.KMessage || e.Sender == user || visible.May(r, e.Id, user) != api.OK || row.Gone || num.Has(redact.Gone(r.Events), e.Id) {
		return false
	}
	rel, target := relate.Of(e)
	referred, known := store.Get(r.Events, target)
	own := known && referred.Sender == user
	contributed := slices.ContainsFunc(r.Events, func(x api.Event) bool {
		rel2, target2 := relate.Of(x)
		return x.Id != e.Id && x.Sender == user && rel2 == api.InThread && target2 == target
	})
	return Marks(e.Content.Text, user) || rel == api.Reply && own || rel == api.InThread && (own || contributed)
}

func TestFollowsTheDefinitions(t *testing.T) {
	source := rand.New(rand.NewSource(1))
	total := 0
	for range 15 {
		s := sample.Random(source.Intn, 15)
		for range 8 {
			f := s.Frame(sample.Users()[source.Intn(3)], api.KMessage, "", api.Content{Text: []string{"x", "hi bob"}[source.Intn(2)], Target: s.Events[source.Intn(len(s.Events))].Id, Thread: source.Intn(2) == 0}, source.Intn(9))
			if len(f.Prev) <= api.MaxPrev {
				s.Put(f)
			}
		}
		r := sample.Received(s, source.Intn)
		for i := range r.Rows {
			r.Rows[i].Gone = source.Intn(9) == 0
		}
		for _, user := range sample.Users()[:3] {
			l := []api.Receipt{{User: user, Id: r.Rows[source.Intn(len(r.Rows))].Id}}
			should := 0
			place := slices.IndexFunc(r.Rows, func(row api.Row) bool { return row.Id == l[0].Id })
			for i, row := range r.Rows {
				e, _ := store.Get(r.Events, row.Id)
				got := Should(r, user, e)
				if want := shouldAsWritten(r, user, e); got != want {
					t.Fatal("Should", user, e, got)
				}
				if got && i > place {
					should++
				}
			}
			n, unread := Count(r, l, user)
			if n != should || unread != receipts.Unread(r, l, user) || n > unread {
				t.Fatal("Count", n, should, unread)
			}
			total += n
		}
	}
	if total == 0 {
		t.Error("nobody was notified")
	}
}

func TestOrder(t *testing.T) {
	l := []api.Event{{Id: 1, Time: 5, Depth: 1}, {Id: 3, Time: 5}, {Id: 9, Time: 1}, {Id: 1, Time: 5, Depth: 2}, {Id: 2, Time: 7, Prev: []int{4}}}
	got := Order(l)
	if store.Ids(got)[0] != 2 || got[1].Id != 3 || got[2].Depth != 1 || got[3].Depth != 2 || got[4].Id != 9 {
		t.Error(got)
	}
	got[0].Prev[0] = 99
	if l[4].Prev[0] != 4 || l[0].Id != 1 {
		t.Error("the argument was changed")
	}
	if len(Order(nil)) != 0 {
		t.Error("nothing")
	}
}
