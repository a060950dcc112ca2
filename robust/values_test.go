package robust

import (
	"math"
	"math/rand"
	"reflect"

	"fedchat/api"
	"fedchat/event"
	"fedchat/room"
	"fedchat/sample"
	"fedchat/server"
	"fedchat/world"
)

// texts are values for parameters and fields that are texts.
var texts = []string{
	"", "a", "b", "evil", "A", "@ann:a", "@bob:b", "@cy:c", "@dan:a", "@admin:a", "@x:", "!r:a", "!q:a", "!r:", "r", "d", "*", "a*", "?", "*:evil", "a b", "\x00\xff", "bob", "hi bob", "two words", "0000000000000005", "3fffffffffffffff", "-5", "1000000000000", "+",
	"notify", "mute", "sound=x", "send", "join", "create", "register", "settle", "evil x", "servers a b\ncreate @u:a r n=1", "rule a when (gone or mention) do mute", "rejected 0000000000000005 auth\n  fits 0000000000000005 ok\n", `"a\n"rest`, "id=5 kind=11", "room \"!r:a\"\nrow 0 5 4\n", "= 1", "+ x", "- a", "@_irc_bob:a", "irc", "/",
}

// numbers are values for parameters and fields that are numbers.
var numbers = []int{math.MinInt, -api.MaxInt - 1, -1000, -1, 0, 0, 0, 1, 1, 2, 3, 4, 5, 6, 7, 8, 11, 12, 13, 14, 20, 50, 99, 100, 101, 1000, 30000, api.MaxTime, api.MaxInt, 1<<62 - 1, math.MaxInt}

// maker makes values by chance.
type maker struct {
	source *rand.Rand
	rooms  []api.Room
	ids    []int
}

func newMaker(seed int64) *maker {
	m := &maker{source: rand.New(rand.NewSource(seed))}
	for range 4 {
		r := sample.Received(sample.Random(m.source.Intn, 8+m.source.Intn(12)), m.source.Intn)
		m.rooms = append(m.rooms, r)
		for _, e := range r.Events {
			m.ids = append(m.ids, e.Id)
		}
	}
	return m
}

// chance is true in one of n cases.
func (m *maker) chance(n int) bool {
	return m.source.Intn(n) == 0
}

func (m *maker) room() api.Room {
	r := m.rooms[m.source.Intn(len(m.rooms))]
	r = deepCopy(reflect.ValueOf(r)).Interface().(api.Room)
	if m.chance(3) {
		extra, _, _ := room.Receive(r, event.Sign(api.Event{Room: r.Id, Sender: "@ann:a", Kind: api.KMessage, Depth: 90, Prev: []int{7}}, "a"))
		r = extra
	}
	return r
}

func (m *maker) server() api.Server {
	s := api.Server{Name: []string{"a", "b", "evil"}[m.source.Intn(3)], Users: []string{"@ann:a", "@dan:a"}, Now: m.source.Intn(50)}
	for range m.source.Intn(2) {
		s = server.Put(s, m.room())
	}
	return s
}

func (m *maker) grid() api.Grid {
	g, _ := world.New([]string{"a", "b", "evil"}, []string{"evil"})
	g, _, _ = world.Step(g, api.Act{Word: "create", Names: []string{"@ann:a", "r"}, N: 1})
	for range m.source.Intn(6) {
		a := []api.Act{{Word: "join", Names: []string{"@bob:b", "!r:a", "a"}}, {Word: "settle", N: 20}, {Word: "send", Names: []string{"@ann:a", "!r:a"}, N: 11}, {Word: "cut", Names: []string{"a", "b"}}, {Word: "sync", Names: []string{"a", "b", "!r:a"}}}[m.source.Intn(5)]
		g, _, _ = world.Step(g, a)
	}
	return g
}

// known returns a value of a type that is mostly a right one, and whether there are such values.
func (m *maker) known(t reflect.Type) (reflect.Value, bool) {
	switch t {
	case reflect.TypeFor[api.Room]():
		return reflect.ValueOf(m.room()), true
	case reflect.TypeFor[api.Server]():
		return reflect.ValueOf(m.server()), true
	case reflect.TypeFor[api.Grid]():
		return reflect.ValueOf(m.grid()), true
	case reflect.TypeFor[[]api.Event]():
		return reflect.ValueOf(m.room().Events), true
	case reflect.TypeFor[api.State]():
		return reflect.ValueOf(m.room().State), true
	case reflect.TypeFor[api.Event]():
		l := m.room().Events
		return reflect.ValueOf(l[m.source.Intn(len(l))]), true
	case reflect.TypeFor[api.Bucket]():
		return reflect.ValueOf(api.Bucket{Left: 1, At: m.source.Intn(9), Most: 3, Every: 2}), true
	case reflect.TypeFor[api.Filter]():
		return reflect.ValueOf(api.Filter{Limit: 1 + m.source.Intn(5)}), true
	}
	return reflect.Value{}, false
}

// value returns a value of a type: a right one, a right one with a change, or any.
func (m *maker) value(t reflect.Type, levels int) reflect.Value {
	if v, ok := m.known(t); ok && !m.chance(4) {
		if m.chance(2) {
			return v
		}
		changed := reflect.New(t).Elem()
		changed.Set(v)
		for range 1 + m.source.Intn(2) {
			m.change(changed)
		}
		return changed
	}
	return m.any(t, levels)
}

func (m *maker) any(t reflect.Type, levels int) reflect.Value {
	v := reflect.New(t).Elem()
	switch t.Kind() {
	case reflect.String:
		v.SetString(texts[m.source.Intn(len(texts))])
	case reflect.Int:
		n := numbers[m.source.Intn(len(numbers))]
		if m.chance(4) {
			n = m.ids[m.source.Intn(len(m.ids))]
		}
		if t != reflect.TypeFor[int]() && !m.chance(8) {
			n = m.source.Intn(19) - 1
		}
		v.SetInt(int64(n))
	case reflect.Uint8:
		v.SetUint(uint64("@!#a\x00\xff"[m.source.Intn(6)]))
	case reflect.Bool:
		v.SetBool(m.chance(2))
	case reflect.Struct:
		for i := range t.NumField() {
			if !m.chance(3) {
				v.Field(i).Set(m.value(t.Field(i).Type, levels))
			}
		}
	case reflect.Array:
		for i := range t.Len() {
			v.Index(i).Set(m.value(t.Elem(), levels))
		}
	case reflect.Slice:
		if levels > 0 {
			for range m.source.Intn(4) {
				v = reflect.Append(v, m.value(t.Elem(), levels-1))
			}
		}
	}
	return v
}

// change puts another value at some place of v.
func (m *maker) change(v reflect.Value) {
	switch v.Kind() {
	case reflect.Struct:
		m.change(v.Field(m.source.Intn(v.NumField())))
		return
	case reflect.Slice:
		if v.Len() > 0 && !m.chance(4) {
			if m.chance(5) {
				v.Set(v.Slice(1, v.Len()))
				return
			}
			m.change(v.Index(m.source.Intn(v.Len())))
			return
		}
	}
	v.Set(m.any(v.Type(), 1))
}

func deepCopy(v reflect.Value) reflect.Value {
	fresh := reflect.New(v.Type()).Elem()
	switch v.Kind() {
	case reflect.Struct:
		for i := range v.NumField() {
			fresh.Field(i).Set(deepCopy(v.Field(i)))
		}
	case reflect.Array:
		for i := range v.Len() {
			fresh.Index(i).Set(deepCopy(v.Index(i)))
		}
	case reflect.Slice:
		if v.IsNil() {
			return fresh
		}
		fresh.Set(reflect.MakeSlice(v.Type(), v.Len(), v.Len()))
		for i := range v.Len() {
			fresh.Index(i).Set(deepCopy(v.Index(i)))
		}
	default:
		fresh.Set(v)
	}
	return fresh
}
