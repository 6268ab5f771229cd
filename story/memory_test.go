package story_test

import (
	"reflect"
	"slices"
	"testing"

	"quayhand/api"
	"quayhand/story"
)

// P2 of the document: what is handed in is only read, what is answered is new memory.

// whole copies v with all that is in it: of each list what stands there, and behind it, if that is asked for; so much room is left spare then.
func whole(v reflect.Value, behind bool, spare int) reflect.Value {
	out := reflect.New(v.Type()).Elem()
	switch v.Kind() {
	case reflect.Struct:
		for i := range v.NumField() {
			out.Field(i).Set(whole(v.Field(i), behind, spare))
		}
	case reflect.Slice:
		if behind {
			v = v.Slice(0, v.Cap())
		}
		out = reflect.MakeSlice(v.Type(), v.Len()+spare, v.Len()+spare)
		for i := range v.Len() {
			out.Index(i).Set(whole(v.Index(i), behind, spare))
		}
		out = out.Slice(0, v.Len())
	default:
		out.Set(v)
	}
	return out
}

// roomy: w, and behind each list of it room to spare, in which something stands.
func roomy(w api.World) api.World {
	w = whole(reflect.ValueOf(w), false, 3).Interface().(api.World)
	for i, l := range listsOf(reflect.ValueOf(w)) {
		for k := l.Len(); k < l.Cap(); k++ {
			overwrite(l.Slice(0, l.Cap()).Index(k), int64(40+i%50))
		}
	}
	return w
}

// shot: a picture of v, with the room behind its lists, that no call can change.
func shot(v any) any { return whole(reflect.ValueOf(v), true, 0).Interface() }

// listsOf: all lists in v, and in what stands in them.
func listsOf(v reflect.Value) []reflect.Value {
	var out []reflect.Value
	switch v.Kind() {
	case reflect.Struct:
		for i := range v.NumField() {
			out = append(out, listsOf(v.Field(i))...)
		}
	case reflect.Slice:
		out = append(out, v)
		for i := range v.Len() {
			out = append(out, listsOf(v.Index(i))...)
		}
	}
	return out
}

// overwrite lets each number of v be n; lists of it are let alone.
func overwrite(v reflect.Value, n int64) {
	switch v.Kind() {
	case reflect.Struct:
		for i := range v.NumField() {
			overwrite(v.Field(i), n)
		}
	case reflect.Int:
		v.SetInt(n)
	case reflect.Uint8:
		v.SetUint(uint64(n))
	}
}

// scribble writes n over all that stands in the lists of v, and behind them.
func scribble(v any, n int64) {
	for _, l := range listsOf(reflect.ValueOf(v)) {
		all := l.Slice(0, l.Cap())
		for i := range all.Len() {
			overwrite(all.Index(i), n)
		}
	}
}

// tangled: do two lists in v share memory? Each is written over by a number of its own, all of which must still stand there at the end. (Nothing of v is left.)
func tangled(v any) bool {
	lists := listsOf(reflect.ValueOf(v))
	for i, l := range lists {
		if data, ok := l.Interface().([]int); ok {
			for k := range data[:cap(data)] {
				data[:cap(data)][k] = -1 - i
			}
		}
	}
	for i, l := range lists {
		if data, ok := l.Interface().([]int); ok && slices.ContainsFunc(data[:cap(data)], func(n int) bool { return n != -1-i }) {
			return true
		}
	}
	return false
}

// handedIn: worlds of all kinds: up and off, wrong ones and right ones.
func handedIn() []api.World {
	l := play()
	again := textOf(l[:3]) + "2 1: read 1 0 1\n1 1: append 1 5\n"
	out := []api.World{baseUp(), baseOff(), up(""), off("", ""), up(textOf(l)), off(textOf(l[:9]), textOf(l[9:])+"0 9"), up(again), off("", again), up(textOf(longPlay())), off("", textOf(longPlay())+"1 1: clear\n"), {}}
	for i, base := range []func() api.World{baseUp, baseOff} {
		for _, c := range slices.Concat([][][]fault{upParts(), offParts()}[i]...) {
			w := base()
			c.spoil(&w)
			if len(w.D.Wait) < 9999 {
				out = append(out, w)
			}
		}
	}
	return out
}

// both calls, as one.
func both(w api.World) (struct {
	Done []api.Rec
	Told []api.Answer
}, [2]api.Errno) {
	done, e := story.Done(w)
	told, f := story.Told(w)
	return struct {
		Done []api.Rec
		Told []api.Answer
	}{done, told}, [2]api.Errno{e, f}
}

func TestHandedInIsOnlyReadAndAnsweredIsNew(t *testing.T) {
	some := 0
	for i, w := range handedIn() {
		w = roomy(w)
		before := shot(w)
		a, errs := both(w)
		was := shot(a)
		b, more := both(w)
		if !reflect.DeepEqual(shot(w), before) {
			t.Errorf("world %d: %v, was %v", i, w, before)
		}
		if !reflect.DeepEqual(shot(b), was) || errs != more {
			t.Errorf("world %d: %v %v, then %v %v", i, was, errs, b, more)
		}
		scribble(w, 33)
		if !reflect.DeepEqual(shot(a), was) {
			t.Errorf("world %d: what was handed in is kept: %v, was %v", i, a, was)
		}
		some += len(a.Done) + len(a.Told)
		if tangled(a) {
			t.Errorf("world %d: two lists share memory", i)
		}
		if !reflect.DeepEqual(shot(b), was) {
			t.Errorf("world %d: two answers share memory: %v, was %v", i, b, was)
		}
	}
	if some < 400 {
		t.Errorf("%d records and answers", some)
	}
}

// What is done with an answer changes no world.
func TestAnsweredIsNotTheWorlds(t *testing.T) {
	for i, w := range handedIn() {
		w = roomy(w)
		before := shot(w)
		a, _ := both(w)
		scribble(a, 77)
		if !reflect.DeepEqual(shot(w), before) {
			t.Errorf("world %d: %v, was %v", i, w, before)
		}
	}
}
