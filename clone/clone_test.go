package clone

import (
	"reflect"
	"testing"
)

// filled returns a value of a type in which every list has one element, down to the given number of levels.
func filled(t reflect.Type, levels int) reflect.Value {
	v := reflect.New(t).Elem()
	switch t.Kind() {
	case reflect.Struct:
		for i := range t.NumField() {
			v.Field(i).Set(filled(t.Field(i).Type, levels))
		}
	case reflect.Slice:
		if levels > 0 {
			v.Set(reflect.Append(v, filled(t.Elem(), levels-1)))
		}
	case reflect.Array:
		for i := range t.Len() {
			v.Index(i).Set(filled(t.Elem(), levels))
		}
	case reflect.Int:
		v.SetInt(7)
	case reflect.String:
		v.SetString("text")
	case reflect.Bool:
		v.SetBool(true)
	}
	return v
}

// spoil changes all numbers and texts in place.
func spoil(v reflect.Value) {
	switch v.Kind() {
	case reflect.Struct:
		for i := range v.NumField() {
			spoil(v.Field(i))
		}
	case reflect.Slice, reflect.Array:
		for i := range v.Len() {
			spoil(v.Index(i))
		}
	case reflect.Int:
		v.SetInt(99)
	case reflect.String:
		v.SetString("spoiled")
	case reflect.Bool:
		v.SetBool(false)
	}
}

func check[T any](t *testing.T, name string, copied func(x T) T) {
	t.Helper()
	typ := reflect.TypeFor[T]()
	x := filled(typ, 6).Interface().(T)
	got := copied(x)
	if !reflect.DeepEqual(got, x) {
		t.Errorf("%s: the copy is not equal", name)
	}
	spoil(reflect.ValueOf(&got).Elem())
	if !reflect.DeepEqual(x, filled(typ, 6).Interface()) {
		t.Errorf("%s: the copy shares memory", name)
	}
	var zero T
	if !reflect.DeepEqual(copied(zero), zero) {
		t.Errorf("%s: the copy of nothing", name)
	}
}

func TestCopies(t *testing.T) {
	check(t, "Levels", Levels)
	check(t, "Content", Content)
	check(t, "Event", Event)
	check(t, "Events", Events)
	check(t, "Room", Room)
	check(t, "Queue", Queue)
	check(t, "Packet", Packet)
	check(t, "Network", Network)
	check(t, "Keys", Keys)
	check(t, "Server", Server)
	check(t, "Packets", Packets)
	check(t, "Grid", Grid)
	check(t, "View", View)
	check(t, "KeyList", KeyList)
}
