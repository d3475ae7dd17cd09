package alias_test

import (
	"reflect"
	"strconv"
	"strings"
	"testing"
	"unsafe"

	"assayer/alias"
	"assayer/api"
	"assayer/bundle"
)

// walk calls look for a value and for all that is in it, also in the unused ends of
// lists if far.
func walk(v reflect.Value, far bool, look func(reflect.Value)) {
	look(v)
	switch v.Kind() {
	case reflect.Slice:
		if far {
			v = v.Slice(0, v.Cap())
		}
		for i := range v.Len() {
			walk(v.Index(i), far, look)
		}
	case reflect.Struct:
		for i := range v.NumField() {
			walk(v.Field(i), far, look)
		}
	}
}

// copied is a value with all its lists made anew; with far, together with what is in
// their unused ends.
func copied(v reflect.Value, far bool) reflect.Value {
	out := reflect.New(v.Type()).Elem()
	switch v.Kind() {
	case reflect.Slice:
		if far {
			v = v.Slice(0, v.Cap())
		}
		for i := range v.Len() {
			out = reflect.Append(out, copied(v.Index(i), far))
		}
	case reflect.Struct:
		for i := range v.NumField() {
			out.Field(i).Set(copied(v.Field(i), far))
		}
	default:
		out.Set(v)
	}
	return out
}

// whole is a copy of files, with what is in the unused ends of their lists.
func whole(l bundle.Loaded) bundle.Loaded {
	return copied(reflect.ValueOf(l), true).Interface().(bundle.Loaded)
}

// roomy is a copy of files, with a list behind each list's end that is not empty.
func roomy(l bundle.Loaded) bundle.Loaded {
	v := reflect.New(reflect.TypeOf(l)).Elem()
	v.Set(copied(reflect.ValueOf(l), false))
	walk(v, false, func(v reflect.Value) {
		if v.Kind() == reflect.Slice {
			n := v.Len()
			l := reflect.MakeSlice(v.Type(), n+2, n+2)
			reflect.Copy(l, v)
			spoil(l.Index(n))
			spoil(l.Index(n + 1))
			v.Set(l.Slice(0, n))
		}
	})
	return v.Interface().(bundle.Loaded)
}

// spoil changes all texts and numbers of a value, in its place.
func spoil(v reflect.Value) {
	walk(v, true, func(v reflect.Value) {
		switch v.Kind() {
		case reflect.String:
			v.SetString(v.String() + "x")
		case reflect.Int, reflect.Int64:
			v.SetInt(v.Int() + 1)
		}
	})
}

// own is a copy of a text that is no constant's memory.
func own(s string) string { return string([]byte(s)) }

// share tells whether two texts share memory.
func share(s, t string) bool {
	a, b := uintptr(unsafe.Pointer(unsafe.StringData(s))), uintptr(unsafe.Pointer(unsafe.StringData(t)))
	return s != "" && t != "" && a < b+uintptr(len(t)) && b < a+uintptr(len(s))
}

// asks is a file and a type each, of all kinds and errors.
func asks() (l [][2]string) {
	types := []string{"", "i8", "binary", "list<i8>", "map<i8,E>", "set<S>", "list<", deep(api.MaxNest, "D"), deep(api.MaxNest+1, "i8"), "Z", "C", "P", "Q", "R", "E", "S", "U", "X", "K", "L", "NS", "NL", "NM", "D", "F"}
	for _, file := range []string{"aa", "bb", "cc"} {
		for _, s := range types {
			l = append(l, [2]string{file, s}, [2]string{file, "aa." + s}, [2]string{file, "bb." + s}, [2]string{file, "map<K,list<" + s + ">>"})
		}
	}
	return l
}

// great is files with a definition of each sort, whose texts are no constants' memory.
func great(t *testing.T) bundle.Loaded {
	t.Helper()
	l := faulty(t)
	walk(reflect.ValueOf(&l).Elem(), false, func(v reflect.Value) {
		if v.Kind() == reflect.String {
			s := v.String()
			if s == "a" || s == "b" {
				s += s
			}
			v.SetString(own(s))
		}
	})
	return l
}

func TestArgumentsAreNotChanged(t *testing.T) {
	t.Parallel()
	l := roomy(great(t))
	before := whole(l)
	for _, x := range asks() {
		ask(l, x[0], x[1])
		alias.Key(l, x[1])
	}
	if !reflect.DeepEqual(whole(l), before) {
		t.Errorf("an argument was changed: %v", l)
	}
}

func TestUnusedEndsAreNotMinded(t *testing.T) {
	t.Parallel()
	l := great(t)
	for _, x := range asks() {
		wantAnswer(t, roomy(l), x[0], x[1], ask(l, x[0], x[1]))
		wantKey(t, roomy(l), x[1], alias.Key(l, x[1]))
	}
}

func TestAnswersAreNewMemory(t *testing.T) {
	t.Parallel()
	l := great(t)
	answers := 0
	for _, x := range asks() {
		file, text := own(x[0]), own(x[1])
		got, again := ask(l, file, text), ask(l, file, text)
		if got.e != api.OK {
			continue
		}
		answers++
		if share(got.whole, file) || share(got.whole, text) || share(got.whole, again.whole) {
			t.Errorf("the answer for %q shares memory", text)
		}
		walk(reflect.ValueOf(l), false, func(v reflect.Value) {
			if v.Kind() == reflect.String && share(got.whole, v.String()) {
				t.Errorf("the answer for %q shares memory with %q", text, v)
			}
		})
	}
	if answers < 40 {
		t.Errorf("only %d answers", answers)
	}
}

// TestAnswersHangOnTheArgumentsAlone asks for all, after one another, in all orders; the
// same names stand for something else in other files.
func TestAnswersHangOnTheArgumentsAlone(t *testing.T) {
	t.Parallel()
	l, other := great(t), of(t, "aa", "typedef string K typedef K E typedef list<E> S typedef i8 Q typedef Q R typedef K L")
	for _, x := range asks() {
		got := ask(l, x[0], x[1])
		key := alias.Key(l, got.whole)
		for _, y := range asks() {
			ask(l, y[0], y[1])
			alias.Key(other, y[1])
			ask(other, y[0], y[1])
			if ask(l, x[0], x[1]) != got {
				t.Fatalf("%v after %v has another answer", x, y)
			}
		}
		wantKey(t, l, got.whole, key)
	}
}

// TestStrangeLists has names and files that do not go together, as those of Load always
// do.
func TestStrangeLists(t *testing.T) {
	t.Parallel()
	f := api.File{Includes: []string{"b", "z", "a"}, Defs: []api.Def{{Kind: api.DefTypedef, Name: "T", Type: "list<a.S>"}, {Kind: api.DefStruct, Name: "S"}, {Kind: api.DefTypedef, Name: "B", Type: "b.S"}}}
	for _, l := range []bundle.Loaded{{Names: []string{"a", "b"}, Files: []api.File{f}}, {Names: []string{"a"}, Files: []api.File{f, f}}, {Names: []string{"a", "a"}, Files: []api.File{f, {}}}} {
		wantAnswer(t, l, "a", "T", answer{whole: "list<a.S>", kind: api.List})
		wantAnswer(t, l, "a", "a.S", answer{whole: "a.S", kind: api.Struct})
		wantError(t, l, "a", "B", api.ErrName)
		wantError(t, l, "b", "S", api.ErrName)
		wantError(t, l, "z", "T", api.ErrName)
		wantKey(t, l, "a.S", false)
	}
	for _, l := range []bundle.Loaded{{Names: []string{"a"}}, {Files: []api.File{f}}} {
		wantError(t, l, "a", "T", api.ErrName)
		wantError(t, l, "", "T", api.ErrName)
		wantType(t, l, "a", "set<i8>", "set<i8>", api.Set)
	}
	empty := bundle.Loaded{Names: []string{"", "."}, Files: []api.File{{Defs: []api.Def{{}, {Kind: api.DefTypedef}, {Kind: api.DefEnum, Name: "."}}}, {}}}
	for _, s := range []string{"", ".", "..", "a"} {
		if got := ask(empty, "", s); got.e == api.OK || got.whole != "" || got.kind != 0 {
			t.Errorf("Type(%q): %v", s, got)
		}
		wantKey(t, empty, s, false)
	}
}

// TestVeryLongTexts has texts that no file has.
func TestVeryLongTexts(t *testing.T) {
	t.Parallel()
	l := of(t, "a", "typedef list<S> T struct S {}")
	for _, s := range []string{"list<", "set<", "map<i8,", "map<", "<", ">", ",", "T,", "T>", ".", "a.T.", "\xff"} {
		wantError(t, l, "a", strings.Repeat(s, 1<<18), api.ErrForm)
		wantKey(t, l, strings.Repeat(s, 1<<18), false)
	}
	for _, s := range []string{strings.Repeat("T", 1<<20), "a." + strings.Repeat("T", 1<<20), strings.Repeat("a.", 1<<20) + "T"} {
		wantError(t, l, "a", s, api.ErrName)
		wantError(t, l, s, "T", api.ErrName)
		wantKey(t, l, s, false)
	}
	huge := strings.Repeat("n", 1<<20)
	l.Names[0], l.Files[0].Defs[1].Name, l.Files[0].Defs[0].Type = huge, huge, deep(api.MaxNest, huge)
	wantType(t, l, huge, "T", deep(api.MaxNest, huge+"."+huge), api.List)
}

// TestVeryLongWays has typedefs that lead on to each other, far more than a file may
// have, with types that are far too deep. Each whole type is told once, and a text that
// is too deep is not, or there would be no end to it.
func TestVeryLongWays(t *testing.T) {
	t.Parallel()
	const n = 400
	chain := func(around, last string) bundle.Loaded {
		var f api.File
		for i := range n {
			next := "T" + strconv.Itoa(i+1)
			if i == n-1 {
				next = last
			}
			f.Defs = append(f.Defs, api.Def{Kind: api.DefTypedef, Name: "T" + strconv.Itoa(i), Type: strings.ReplaceAll(around, "%", next)})
		}
		return bundle.Loaded{Names: []string{"a"}, Files: []api.File{f}}
	}
	wantAnswer(t, chain("%", "i8"), "a", "T0", answer{whole: "i8", kind: api.I8})
	wantError(t, chain("%", "Z"), "a", "T0", api.ErrName)
	wantError(t, chain("%", "T0"), "a", "T0", api.ErrCycle)
	deepest := deep(api.MaxNest, "%")
	wantError(t, chain(deepest, "i8"), "a", "T0", api.ErrDepth)
	wantError(t, chain(deepest, "Z"), "a", "T0", api.ErrName)
	wantError(t, chain(deepest, "T7"), "a", "T0", api.ErrCycle)
	wantError(t, chain(deepest, "set<T7>"), "a", "list<T0>", api.ErrForm) // the last one, as MaxNest and a set are too deep
	wantError(t, chain("map<list<%>,Z>", "i8"), "a", "T0", api.ErrKey)
	wantError(t, chain("map<T300,%>", "i8"), "a", "T0", api.ErrCycle)
}

// TestKeysThatComeVeryOften has a long way to a key, which many maps have.
func TestKeysThatComeVeryOften(t *testing.T) {
	t.Parallel()
	var f api.File
	for i := range 200 {
		f.Defs = append(f.Defs,
			api.Def{Kind: api.DefTypedef, Name: "K" + strconv.Itoa(i), Type: "K" + strconv.Itoa(i+1)},
			api.Def{Kind: api.DefTypedef, Name: "T" + strconv.Itoa(i), Type: strings.Repeat("map<K0,", api.MaxNest) + "T" + strconv.Itoa(i+1) + strings.Repeat(">", api.MaxNest)})
	}
	f.Defs = append(f.Defs, api.Def{Kind: api.DefTypedef, Name: "K200", Type: "i8"}, api.Def{Kind: api.DefStruct, Name: "T200"})
	l := bundle.Loaded{Names: []string{"a"}, Files: []api.File{f}}
	wantError(t, l, "a", "T0", api.ErrDepth)
	wantType(t, l, "a", "T199", strings.Repeat("map<i8,", api.MaxNest)+"a.T200"+strings.Repeat(">", api.MaxNest), api.Map)
}
