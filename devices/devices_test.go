package devices_test

import (
	"fmt"
	"math"
	"math/rand"
	"slices"
	"strings"
	"testing"

	"fedchat/api"
	"fedchat/clone"
	. "fedchat/devices"
)

func device(id string, key int) api.Device {
	return api.Device{Id: id, Key: key}
}

func same(a, b any) bool {
	return fmt.Sprint(a) == fmt.Sprint(b)
}

// must returns the list of a call that must succeed.
func must(t *testing.T) func(l []api.Keys, err api.Errno) []api.Keys {
	return func(l []api.Keys, err api.Errno) []api.Keys {
		t.Helper()
		if err != api.OK || Check(l) != api.OK {
			t.Fatal("an error", err, l)
		}
		return l
	}
}

func TestExample(t *testing.T) {
	ok := must(t)
	l := ok(Add(nil, "@a:s", device("d", 7), 0))
	if _, err := Sign(l, "@a:s", "d", 1); err != api.ErrState {
		t.Error("Sign before Cross", err)
	}
	l = ok(Cross(l, "@a:s", 9, 1))
	l = ok(Sign(l, "@a:s", "d", 2))
	if !same(l, []api.Keys{{User: "@a:s", Master: 9, Pos: 2, Devices: []api.Device{{Id: "d", Key: 7, Signed: true}}}}) {
		t.Error("a signed device", l)
	}
	crossed := ok(Cross(l, "@a:s", 10, 3))
	if !same(crossed, []api.Keys{{User: "@a:s", Master: 10, Pos: 3, Devices: []api.Device{device("d", 7)}}}) {
		t.Error("another key", crossed)
	}
	added := ok(Add(l, "@a:s", api.Device{Id: "d", Key: 7, Signed: true}, 3))
	if added[0].Devices[0].Signed || added[0].Master != 9 {
		t.Error("the device is added again", added)
	}
}

// town has three users, of whom @b:s has two devices.
func town() []api.Keys {
	return []api.Keys{{User: "@a:s", Pos: 4}, {User: "@b:s", Master: 5, Pos: 6, Devices: []api.Device{{Id: "d", Key: 1, Signed: true}, {Id: "f", Key: 2}}}, {User: "@d:s", Master: 1, Pos: 2}}
}

func TestAdd(t *testing.T) {
	ok := must(t)
	l := ok(Add(town(), "@b:s", device("e", 3), 9))
	if got := fmt.Sprint(l[1]); got != "{@b:s 5 9 [{d 1 true} {e 3 false} {f 2 false}]}" || !same(l[0], town()[0]) {
		t.Error("between others", got)
	}
	l = ok(Add(town(), "@c:s", device("\x00", api.MaxInt), 0))
	if len(l) != 4 || fmt.Sprint(l[2].Devices[0].Key, l[2].User, l[2].Master, l[2].Pos) != fmt.Sprint(api.MaxInt, "@c:s", 0, 0) {
		t.Error("a new user", l)
	}
	full, many := []api.Keys{}, []api.Device{}
	for i := range api.MaxUsers {
		full = append(full, api.Keys{User: fmt.Sprintf("@u%03d:s", i)})
	}
	for i := range api.MaxDevices {
		many = append(many, device(fmt.Sprintf("d%d", i), 1))
	}
	full[3].Devices = many
	for name, c := range map[string]struct {
		user string
		d    api.Device
		pos  int
		want api.Errno
	}{
		"no user": {"u", device("", 0), -1, api.ErrName}, "no id": {"@u003:s", device("", 1), 0, api.ErrName}, "a long id": {"@u003:s", device(strings.Repeat("x", 33), 0), 0, api.ErrName}, "a key": {"@u999:s", device("x", 0), 0, api.ErrRange}, "a great key": {"@u001:s", device("x", api.MaxInt+1), 0, api.ErrRange}, "a position": {"@u999:s", device("x", 1), -1, api.ErrRange}, "a great position": {"@u999:s", device("x", 1), api.MaxInt + 1, api.ErrRange},
		"too many users": {"@u999:s", device("x", 1), 0, api.ErrFull}, "too many devices": {"@u003:s", device("x", 1), 0, api.ErrFull}, "a known device": {"@u003:s", device("d3", 5), 0, api.OK}, "a known user": {"@u004:s", device(strings.Repeat("x", 32), 1), api.MaxInt, api.OK},
	} {
		l, err := Add(full, c.user, c.d, c.pos)
		if err != c.want || err != api.OK && len(l) != 0 || err == api.OK && Check(l) != api.OK {
			t.Errorf("%s: %d, want %d", name, err, c.want)
		}
	}
	if _, err := Cross(full, "@u999:s", 1, 0); err != api.ErrFull {
		t.Error("too many users for Cross", err)
	}
}

func TestRemove(t *testing.T) {
	ok := must(t)
	l := ok(Remove(town(), "@b:s", "d", 9))
	if got := fmt.Sprint(l[1]); got != "{@b:s 5 9 [{f 2 false}]}" {
		t.Error("Remove", got)
	}
	l = ok(Remove(l, "@b:s", "f", 0))
	if got := fmt.Sprint(l[1]); got != "{@b:s 5 0 []}" {
		t.Error("the last device", got)
	}
	for name, c := range map[string]struct {
		user, id string
		pos      int
		want     api.Errno
	}{"a position": {"x", "d", -1, api.ErrRange}, "a great position": {"@b:s", "d", api.MaxInt + 1, api.ErrRange}, "no user": {"@x:s", "d", 0, api.ErrNone}, "no device": {"@b:s", "x", 0, api.ErrNone}, "another user's": {"@a:s", "d", 0, api.ErrNone}} {
		if l, err := Remove(town(), c.user, c.id, c.pos); err != c.want || len(l) != 0 {
			t.Errorf("%s: %d", name, err)
		}
		if l, err := Sign(town(), c.user, c.id, c.pos); err != c.want || len(l) != 0 {
			t.Errorf("Sign, %s: %d", name, err)
		}
	}
}

func TestCross(t *testing.T) {
	ok := must(t)
	l := ok(Cross(town(), "@c:s", 3, 8))
	if len(l) != 4 || !same(l[2], api.Keys{User: "@c:s", Master: 3, Pos: 8}) {
		t.Error("a new user", l)
	}
	for name, c := range map[string]struct {
		user        string
		master, pos int
		want        api.Errno
	}{"no user": {"x", 0, -1, api.ErrName}, "no key": {"@b:s", 0, 0, api.ErrRange}, "a great key": {"@b:s", api.MaxInt + 1, 0, api.ErrRange}, "a position": {"@b:s", 1, -1, api.ErrRange}, "the least one": {"@b:s", math.MinInt, 0, api.ErrRange}} {
		if l, err := Cross(town(), c.user, c.master, c.pos); err != c.want || len(l) != 0 {
			t.Errorf("%s: %d", name, err)
		}
	}
}

func TestChangedAndGet(t *testing.T) {
	for from, want := range map[int]string{0: "[@a:s @b:s @d:s]", 3: "[@a:s @b:s]", 6: "[@b:s]", 7: "[]", math.MinInt: "[@a:s @b:s @d:s]"} {
		if got := fmt.Sprint(Changed(town(), from)); got != want {
			t.Errorf("Changed from %d: %s", from, got)
		}
	}
	if k, ok := Get(town(), "@b:s"); !ok || !same(k, town()[1]) {
		t.Error("Get", k)
	}
	if k, ok := Get(town(), "@c:s"); ok || !same(k, api.Keys{}) {
		t.Error("Get of an unknown user", k)
	}
}

func TestCheck(t *testing.T) {
	many := make([]api.Keys, 201)
	for i := range many {
		many[i] = api.Keys{User: fmt.Sprintf("@u%03d:s", i)}
	}
	for name, c := range map[string]struct {
		change func(l []api.Keys) []api.Keys
		want   api.Errno
	}{
		"right":            {func(l []api.Keys) []api.Keys { return l }, api.OK},
		"nothing":          {func(l []api.Keys) []api.Keys { return nil }, api.OK},
		"a user":           {func(l []api.Keys) []api.Keys { l[2].User = "x"; return l }, api.ErrName},
		"a device":         {func(l []api.Keys) []api.Keys { l[1].Devices[1].Id = ""; l[0].Pos = -1; return l }, api.ErrName},
		"a long device":    {func(l []api.Keys) []api.Keys { l[1].Devices[1].Id = strings.Repeat("x", 33); return l }, api.ErrName},
		"users":            {func(l []api.Keys) []api.Keys { slices.Reverse(l); return l }, api.ErrOrder},
		"a user twice":     {func(l []api.Keys) []api.Keys { l[1].User = "@a:s"; l[0].Master = -1; return l }, api.ErrOrder},
		"devices":          {func(l []api.Keys) []api.Keys { slices.Reverse(l[1].Devices); l[0].Pos = -1; return l }, api.ErrOrder},
		"a device twice":   {func(l []api.Keys) []api.Keys { l[1].Devices[1].Id = "d"; return l }, api.ErrOrder},
		"name and order":   {func(l []api.Keys) []api.Keys { l[0].User, l[2].User = "@z:s", "x"; return l }, api.ErrName},
		"master":           {func(l []api.Keys) []api.Keys { l[2].Master = -1; return l }, api.ErrRange},
		"a great master":   {func(l []api.Keys) []api.Keys { l[2].Master = api.MaxInt + 1; return l }, api.ErrRange},
		"pos":              {func(l []api.Keys) []api.Keys { l[2].Pos = -1; return l }, api.ErrRange},
		"a great pos":      {func(l []api.Keys) []api.Keys { l[2].Pos = api.MaxInt + 1; return l }, api.ErrRange},
		"key":              {func(l []api.Keys) []api.Keys { l[1].Devices[0].Key = 0; l[1].Master = 0; return l }, api.ErrRange},
		"a great key":      {func(l []api.Keys) []api.Keys { l[1].Devices[0].Key = api.MaxInt + 1; return l }, api.ErrRange},
		"many users":       {func(l []api.Keys) []api.Keys { return many }, api.ErrFull},
		"not too many":     {func(l []api.Keys) []api.Keys { return many[:200] }, api.OK},
		"many devices":     {func(l []api.Keys) []api.Keys { l[1].Devices = manyDevices(11); l[1].Master = 0; return l }, api.ErrFull},
		"ten devices":      {func(l []api.Keys) []api.Keys { l[1].Devices = manyDevices(10); return l }, api.OK},
		"signed by nobody": {func(l []api.Keys) []api.Keys { l[1].Master = 0; return l }, api.ErrState},
	} {
		if got := Check(c.change(town())); got != c.want {
			t.Errorf("%s: %d, want %d", name, got, c.want)
		}
	}
}

func manyDevices(n int) []api.Device {
	l := []api.Device{}
	for i := range n {
		l = append(l, api.Device{Id: fmt.Sprintf("d%02d", i), Key: 1, Signed: true})
	}
	return l
}

func TestSignedOnlyAfterSign(t *testing.T) {
	source := rand.New(rand.NewSource(1))
	users, names := []string{"@a:s", "@b:s"}, []string{"d", "e", "f"}
	l := []api.Keys{}
	signed := map[string]bool{}
	for pos := range 3000 {
		user, id := users[source.Intn(2)], names[source.Intn(3)]
		old := clone.KeyList(l)
		var next []api.Keys
		var err api.Errno
		switch source.Intn(4) {
		case 0:
			if next, err = Add(l, user, api.Device{Id: id, Key: 1 + source.Intn(3), Signed: true}, pos); err == api.OK {
				signed[user+id] = false
			}
		case 1:
			if next, err = Remove(l, user, id, pos); err == api.OK {
				signed[user+id] = false
			}
		case 2:
			if next, err = Cross(l, user, 1+source.Intn(3), pos); err == api.OK {
				for _, name := range names {
					signed[user+name] = false
				}
			}
		case 3:
			if next, err = Sign(l, user, id, pos); err == api.OK {
				signed[user+id] = true
			}
		}
		if !same(l, old) {
			t.Fatal("the argument was changed")
		}
		if err != api.OK {
			continue
		}
		if Check(next) != api.OK || !slices.Contains(Changed(next, pos), user) {
			t.Fatal("no list", next)
		}
		for _, k := range next {
			before, _ := Get(l, k.User)
			if k.User != user && !same(k, before) {
				t.Fatal("another entry is changed")
			}
			for _, d := range k.Devices {
				if d.Signed != signed[k.User+d.Id] {
					t.Fatal("the signature of", k.User, d)
				}
			}
		}
		for i := range l {
			for j := range l[i].Devices {
				l[i].Devices[j].Key = -1
			}
		}
		if Check(next) != api.OK {
			t.Fatal("the result shares memory with the argument")
		}
		l = next
	}
}
