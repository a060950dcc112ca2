// Package robust holds no code of the program: its tests call every function that the document lists with arguments of all sorts.
package robust

import (
	"fmt"
	"reflect"
	"strings"
	"testing"
	"time"

	"fedchat/api"
)

// rounds is how often every function is called.
const rounds = 60

// span is the memory of the elements of a slice.
type span struct{ from, to uintptr }

// spans returns the memory of all slices in a value.
func spans(v reflect.Value, found []span) []span {
	switch v.Kind() {
	case reflect.Struct:
		for i := range v.NumField() {
			found = spans(v.Field(i), found)
		}
	case reflect.Array:
		for i := range v.Len() {
			found = spans(v.Index(i), found)
		}
	case reflect.Slice:
		if v.Len() > 0 {
			from := v.Pointer()
			found = append(found, span{from, from + uintptr(v.Len())*v.Type().Elem().Size()})
		}
		for i := range v.Len() {
			found = spans(v.Index(i), found)
		}
	}
	return found
}

func overlap(a, b span) bool {
	return a.from < b.to && b.from < a.to
}

// shared reports whether two slices of the results, or one of them and one of the arguments, share memory.
func shared(results, args []reflect.Value) bool {
	of := func(l []reflect.Value) []span {
		found := []span{}
		for _, v := range l {
			found = spans(v, found)
		}
		return found
	}
	own, others := of(results), of(args)
	for i, x := range own {
		for _, y := range append(own[:i:i], others...) {
			if overlap(x, y) {
				return true
			}
		}
	}
	return false
}

func text(l []reflect.Value) string {
	parts := []string{}
	for _, v := range l {
		parts = append(parts, fmt.Sprint(v.Interface()))
	}
	return strings.Join(parts, "|")
}

// kept are the results, by their indices, that a function returns even with an error, or with false.
var kept = map[string]string{
	"queues.Push": "0", "queues.Open": "0", "server.Local": "0", "world.Step": "0", "home.Act": "0", "room.Receive": "0", "moderate.Apply": "0", "moderate.Ban": "0", "moderate.Clean": "0",
	"script.Run": "01", "script.Parse": "1", "pushrules.Parse": "1", "archive.Read": "1", "explain.Parse": "1", "audit.Rooms": "0", "audit.Views": "0", "audit.Secrets": "0", "audit.Events": "0",
}

// notVerdicts are the functions whose last result is a bool that does not say whether there is a result.
var notVerdicts = map[string]bool{"timeline.Before": true, "filter.Cut": true, "world.Settle": true}

// none reports whether a value is zero; lists may be empty.
func none(v reflect.Value) bool {
	return fmt.Sprint(v.Interface()) == fmt.Sprint(reflect.Zero(v.Type()).Interface())
}

// checkZero checks the results beside an error, or beside false.
func checkZero(t *testing.T, name string, args, results []reflect.Value) {
	t.Helper()
	last := len(results) - 1
	if last < 1 {
		return
	}
	failed := false
	switch x := results[last].Interface().(type) {
	case api.Errno:
		failed = x != api.OK
	case bool:
		failed = !x && !notVerdicts[name]
	}
	for i, v := range results[:last] {
		if failed && !none(v) && !strings.Contains(kept[name], fmt.Sprint(i)) {
			t.Errorf("%s(%s): the result %d is not zero: %v", name, text(args), i, v.Interface())
		}
	}
}

// call calls a function, and reports a panic.
func call(t *testing.T, f function, args []reflect.Value) (results []reflect.Value) {
	t.Helper()
	defer func() {
		if x := recover(); x != nil {
			t.Fatalf("%s(%s) panics: %v", f.name, text(args), x)
		}
	}()
	return reflect.ValueOf(f.call).Call(args)
}

func copies(l []reflect.Value) []reflect.Value {
	fresh := []reflect.Value{}
	for _, v := range l {
		fresh = append(fresh, deepCopy(v))
	}
	return fresh
}

func checkCall(t *testing.T, f function, args []reflect.Value) {
	t.Helper()
	before := text(args)
	again := copies(args)
	start := time.Now()
	results := call(t, f, args)
	if spent := time.Since(start); spent > 20*time.Second {
		t.Errorf("%s(%s) takes %v", f.name, before, spent)
	}
	if text(args) != before {
		t.Errorf("%s(%s) changes an argument", f.name, before)
	}
	if shared(results, args) {
		t.Errorf("%s(%s): a result shares memory", f.name, before)
	}
	checkZero(t, f.name, args, results)
	if got := text(call(t, f, again)); got != text(results) {
		t.Errorf("%s(%s) returns %s, and then %s", f.name, before, text(results), got)
	}
}

func TestAllFunctionsWithAllSortsOfArguments(t *testing.T) {
	for i, f := range functions {
		m := newMaker(int64(i + 1))
		in := reflect.TypeOf(f.call)
		for range rounds {
			args := []reflect.Value{}
			for k := range in.NumIn() {
				args = append(args, m.value(in.In(k), 3))
			}
			checkCall(t, f, args)
			if t.Failed() {
				return
			}
		}
	}
}
