package relate_test

import (
	"fmt"
	"math/rand"
	"slices"
	"testing"

	"fedchat/api"
	. "fedchat/relate"
)

func message(id int, sender, text string, target int, thread bool) api.Event {
	return api.Event{Id: id, Kind: api.KMessage, Sender: sender, Content: api.Content{Text: text, Target: target, Thread: thread}}
}

func other(id int, k api.Kind, sender, text string, target int) api.Event {
	return api.Event{Id: id, Kind: k, Sender: sender, Content: api.Content{Text: text, Target: target}}
}

func example() []api.Event {
	return []api.Event{message(1, "@a:s", "one", 0, false), other(2, api.KEdit, "@a:s", "two", 1), other(3, api.KEdit, "@b:s", "three", 1), other(4, api.KReact, "@b:s", "+", 1), other(5, api.KReact, "@c:s", "+", 1)}
}

func TestOf(t *testing.T) {
	for i, c := range []struct {
		e    api.Event
		want string
	}{
		{message(1, "", "", 5, false), "1 5"}, {message(1, "", "", 5, true), "2 5"}, {message(1, "", "", 0, true), "0 0"}, {message(1, "", "", -5, false), "0 0"},
		{other(1, api.KEdit, "", "", 5), "3 5"}, {other(1, api.KReact, "", "", 5), "4 5"}, {other(1, api.KReact, "", "", 0), "0 0"}, {other(1, api.KRedact, "", "", 5), "0 0"}, {other(1, 0, "", "", 5), "0 0"},
	} {
		if rel, id := Of(c.e); fmt.Sprint(int(rel), id) != c.want {
			t.Errorf("%d: %d, %d", i, rel, id)
		}
	}
}

func TestExamples(t *testing.T) {
	l := example()
	if got := fmt.Sprint(Sum(l, 1)); got != "{2 [{+ 2}] 0 0}" {
		t.Error("Sum", got)
	}
	if text, err := Show(l, 1); text != "two" || err != api.OK {
		t.Error("Show", text, err)
	}
	if got := Valid(l, other(9, api.KReact, "@b:s", "+", 1)); got != api.ErrTwice {
		t.Error("a second reaction", got)
	}
	if got := Valid(l, other(9, api.KReact, "@b:s", "+", 2)); got != api.ErrArg {
		t.Error("a reaction to an edit", got)
	}
}

func TestSum(t *testing.T) {
	l := []api.Event{
		message(10, "a", "start", 0, false), message(11, "b", "in", 10, true), message(12, "c", "in", 10, true), message(13, "b", "reply", 10, false), message(14, "b", "in another", 13, true),
		other(20, api.KReact, "b", "z", 10), other(21, api.KReact, "b", "a", 10), other(22, api.KReact, "b", "a", 10), other(23, api.KReact, "c", "a", 10), other(24, api.KReact, "c", "a", 11),
		other(30, api.KEdit, "a", "x", 10), other(31, api.KEdit, "a", "y", 10), other(32, api.KEdit, "b", "w", 10),
	}
	l[1].Time, l[11].Time = 5, -1
	if got := fmt.Sprint(Sum(l, 10)); got != "{30 [{a 2} {z 1}] 2 11}" {
		t.Error("Sum", got)
	}
	for id, want := range map[int]string{13: "{0 [] 1 14}", 11: "{0 [{a 1}] 0 0}", 99: "{0 [] 0 0}", 0: "{0 [] 0 0}"} {
		if got := fmt.Sprint(Sum(l, id)); got != want {
			t.Errorf("Sum of %d: %s", id, got)
		}
	}
	if got := Threads(l); !slices.Equal(got, []int{10, 13}) {
		t.Error("Threads", got)
	}
	if got := Threads([]api.Event{message(1, "", "", 77, true), message(2, "", "", 77, true), message(3, "", "", 5, true)}); !slices.Equal(got, []int{5, 77}) || len(Threads(nil)) != 0 {
		t.Error("Threads of unknown events", got)
	}
}

func TestWhichEventsAreInTheList(t *testing.T) {
	l := []api.Event{message(0, "a", "zero", 0, false), message(-3, "a", "negative", 0, false), message(1, "a", "first", 0, false), message(1, "b", "second", 0, false), other(5, api.KEdit, "b", "no", 1), other(5, api.KEdit, "a", "hidden", 1), other(-6, api.KEdit, "a", "hidden", 1), other(0, api.KReact, "a", "+", 1), message(0, "a", "", 1, true)}
	if got := fmt.Sprint(Sum(l, 1)); got != "{0 [] 0 0}" {
		t.Error("Sum", got)
	}
	if text, err := Show(l, 1); text != "first" || err != api.OK {
		t.Error("Show", text, err)
	}
	for _, id := range []int{0, -3, 7} {
		if text, err := Show(l, id); text != "" || err != api.ErrNone {
			t.Error("Show of", id, text, err)
		}
	}
	if text, err := Show(l, 5); text != "" || err != api.ErrArg {
		t.Error("Show of an edit", text, err)
	}
	if len(Threads(l)) != 0 {
		t.Error("Threads", Threads(l))
	}
}

func TestValid(t *testing.T) {
	l := append(example(), message(6, "@a:s", "in", 1, true), message(7, "@a:s", "reply", 1, false), message(-8, "@a:s", "x", 0, false))
	for i, c := range []struct {
		e    api.Event
		want api.Errno
	}{
		{message(9, "@x:x", "", 0, false), api.OK}, {other(9, api.KRedact, "@x:x", "", 99), api.OK}, {other(9, api.KReact, "@x:x", "", -1), api.OK},
		{message(9, "@x:x", "", 99, false), api.ErrNone}, {other(9, api.KReact, "@x:x", "+", 99), api.ErrNone},
		{message(9, "@x:x", "", 2, false), api.ErrArg}, {message(9, "@x:x", "", 6, true), api.ErrArg}, {message(9, "@x:x", "", 6, false), api.OK}, {message(9, "@x:x", "", 7, true), api.OK}, {message(9, "@x:x", "", 1, true), api.OK},
		{other(9, api.KEdit, "@a:s", "", 1), api.OK}, {other(9, api.KEdit, "@b:s", "", 1), api.ErrMember}, {other(9, api.KEdit, "@b:s", "", 4), api.ErrArg},
		{other(9, api.KReact, "@b:s", "-", 1), api.OK}, {other(9, api.KReact, "@d:s", "+", 1), api.OK}, {other(4, api.KReact, "@b:s", "+", 1), api.OK}, {other(9, api.KReact, "@b:s", "+", 7), api.OK}, {other(5, api.KReact, "@b:s", "+", 1), api.ErrTwice},
	} {
		if got := Valid(l, c.e); got != c.want {
			t.Errorf("%d: %d, want %d", i, got, c.want)
		}
	}
}

func TestOrderDoesNotMatter(t *testing.T) {
	source := rand.New(rand.NewSource(1))
	for range 2000 {
		l := []api.Event{}
		for id := 1; id < 9; id++ {
			e := other(id, []api.Kind{api.KMessage, api.KMessage, api.KReact, api.KEdit}[source.Intn(4)], []string{"a", "b"}[source.Intn(2)], []string{"", "+", "x"}[source.Intn(3)], source.Intn(6))
			e.Content.Thread, e.Time = source.Intn(2) == 0, source.Intn(2)
			l = append(l, e)
		}
		mixed := slices.Clone(l)
		source.Shuffle(len(mixed), func(i, j int) { mixed[i], mixed[j] = mixed[j], mixed[i] })
		e := l[source.Intn(len(l))]
		e.Id = 1 + source.Intn(9)
		if Valid(l, e) != Valid(mixed, e) || !slices.Equal(Threads(l), Threads(mixed)) {
			t.Fatal("Valid or Threads", l)
		}
		for id := range 9 {
			s := Sum(l, id)
			if fmt.Sprint(s) != fmt.Sprint(Sum(mixed, id)) {
				t.Fatal("Sum", l, id)
			}
			text, err := Show(l, id)
			other, err2 := Show(mixed, id)
			if text != other || err != err2 {
				t.Fatal("Show", l, id)
			}
			own := slices.DeleteFunc(slices.Clone(l), func(x api.Event) bool { return x.Kind == api.KEdit && id > 0 && x.Sender != l[max(id, 1)-1].Sender })
			if text2, _ := Show(own, id); err == api.OK && text2 != text {
				t.Fatal("an edit of another sender changes the text", l, id)
			}
		}
	}
}
