package bundle_test

import (
	"math"
	"reflect"
	"slices"
	"strconv"
	"strings"
	"testing"
	"unsafe"

	"assayer/api"
	"assayer/bundle"
)

// everything has each part of a file.
const everything = "include 'bb' include 'cc' namespace * x.y namespace js zz typedef map<string,list<b.T>> MM const list<i32> LL = [{'aa':[1.5;true 7], b.C.D:{}},-2] enum EE { AA, BB = 0x10; CC } struct SS { 1: required i32 aa = -1, optional byte bb; NN cc = 'dd' } union UU {} exception XX { 2: string mm } service PP extends b.QQ { oneway void ff(), i32 gg(1: SS ss, UU uu = 'text') throws (1: XX xx Y y = {1:[2.5]}) }"

// walk calls look for a value and for all that is in it, also in the unused ends of
// lists if far.
func walk(v reflect.Value, far bool, look func(reflect.Value)) {
	look(v)
	switch v.Kind() {
	case reflect.Slice:
		if far {
			v = v.Slice(0, v.Cap())
		}
		for i := range v.Len() {
			walk(v.Index(i), far, look)
		}
	case reflect.Struct:
		for i := range v.NumField() {
			walk(v.Field(i), far, look)
		}
	}
}

// copied is a value with all its lists made anew, with their unused ends if far;
// lists without elements are nil.
func copied(v reflect.Value, far bool) reflect.Value {
	out := reflect.New(v.Type()).Elem()
	switch v.Kind() {
	case reflect.Slice:
		if far {
			v = v.Slice(0, v.Cap())
		}
		for i := range v.Len() {
			out = reflect.Append(out, copied(v.Index(i), far))
		}
	case reflect.Struct:
		for i := range v.NumField() {
			out.Field(i).Set(copied(v.Field(i), far))
		}
	default:
		out.Set(v)
	}
	return out
}

// plain is a copy of a value, with nil for each list without elements.
func plain[T any](x T) T { return copied(reflect.ValueOf(x), false).Interface().(T) }

// whole is a copy of a value, with what is in the unused ends of its lists.
func whole[T any](x T) T { return copied(reflect.ValueOf(x), true).Interface().(T) }

// equal tells whether two values are equal; a list without elements is as good as nil.
func equal[T any](x, y T) bool { return reflect.DeepEqual(plain(x), plain(y)) }

// roomy is a copy of a value, with a list behind each list's end that is not empty.
func roomy[T any](x T) T {
	v := reflect.New(reflect.TypeOf(x)).Elem()
	v.Set(reflect.ValueOf(plain(x)))
	walk(v, false, func(v reflect.Value) {
		if v.Kind() == reflect.Slice {
			n := v.Len()
			l := reflect.MakeSlice(v.Type(), n+2, n+2)
			reflect.Copy(l, v)
			spoil(l.Index(n))
			spoil(l.Index(n + 1))
			v.Set(l.Slice(0, n))
		}
	})
	return v.Interface().(T)
}

// spoil changes all numbers, texts and bools of a value, in its place.
func spoil(v reflect.Value) {
	walk(v, true, func(v reflect.Value) {
		switch v.Kind() {
		case reflect.String:
			v.SetString(v.String() + "x")
		case reflect.Bool:
			v.SetBool(!v.Bool())
		case reflect.Int, reflect.Int64:
			v.SetInt(v.Int() + 1)
		case reflect.Uint64:
			v.SetUint(v.Uint() + 1)
		}
	})
}

// span is memory: of a list's elements, or of a text's bytes.
type span struct{ from, to uintptr }

// spans is the memory of all lists and, if so asked, of all texts in a value.
func spans(x any, texts bool) (l []span) {
	walk(reflect.ValueOf(x), false, func(v reflect.Value) {
		switch {
		case v.Kind() == reflect.Slice && v.Cap() > 0:
			l = append(l, span{v.Pointer(), v.Pointer() + uintptr(v.Cap())*v.Type().Elem().Size()})
		case v.Kind() == reflect.String && texts && v.Len() > 0:
			from := uintptr(unsafe.Pointer(unsafe.StringData(v.String())))
			l = append(l, span{from, from + uintptr(v.Len())})
		}
	})
	return l
}

// wantApart checks that no memory of l is memory of m.
func wantApart(t *testing.T, what string, l, m []span) {
	t.Helper()
	for _, x := range l {
		for _, y := range m {
			if x.from < y.to && y.from < x.to {
				t.Fatalf("%s share memory", what)
			}
		}
	}
}

// wantListsApart checks that no two lists of an answer share memory.
func wantListsApart(t *testing.T, what string, x any) {
	t.Helper()
	l := spans(x, false)
	for i := range l {
		wantApart(t, what, l[i:i+1], l[i+1:])
	}
}

// own is a copy of a text that is no constant's memory.
func own(s string) string { return string([]byte(s)) }

// great is a bundle with all that a file may have, and more than one file.
func great() api.Bundle {
	return of(own("a"), own("a"), own(everything), own("bb"), own(text("cc")+everything[strings.Index(everything, "typedef"):]), own("cc"), own(text()), own("x"), own("@"))
}

func loaded(t *testing.T, b api.Bundle) bundle.Loaded {
	t.Helper()
	l, e, file, at := bundle.Load(b)
	if e != api.OK {
		t.Fatalf("Load: %d, %q, %d", e, file, at)
	}
	return l
}

func TestArgumentsAreNotChanged(t *testing.T) {
	b := roomy(great())
	for _, b := range []api.Bundle{b, {Root: "z", Files: b.Files}, {Root: "x", Files: b.Files}} {
		before := whole(b)
		bundle.Load(b)
		if !reflect.DeepEqual(whole(b), before) {
			t.Errorf("Load changed its argument: %v", b)
		}
	}
	l := roomy(loaded(t, b))
	before := whole(l)
	for _, name := range []string{"a", "bb", "cc", "x", "z"} {
		bundle.Get(l, name)
	}
	if !reflect.DeepEqual(whole(l), before) {
		t.Errorf("Get changed its argument: %v", l)
	}
}

// TestLoadDoesNotMindUnusedEnds has what is behind the ends of lists.
func TestLoadDoesNotMindUnusedEnds(t *testing.T) {
	if l := loaded(t, roomy(great())); !equal(l, loaded(t, great())) {
		t.Errorf("Load: %v", l)
	}
	l := loaded(t, great())
	for _, name := range append(l.Names, "x") {
		f, is := bundle.Get(roomy(l), name)
		if g, isG := bundle.Get(l, name); is != isG || !equal(f, g) {
			t.Errorf("Get(%q): %v, %t", name, f, is)
		}
	}
}

func TestAnswersAreNewMemory(t *testing.T) {
	b := great()
	l, again := loaded(t, b), loaded(t, b)
	wantApart(t, "a bundle and its files", spans(b, true), spans(l, true))
	wantApart(t, "two answers of Load", spans(l, false), spans(again, false))
	wantListsApart(t, "lists of Load", l)
	for i, name := range l.Names {
		f, _ := bundle.Get(l, name)
		g, _ := bundle.Get(l, name)
		wantApart(t, "Get's argument and answer", spans(l, true), spans(f, true))
		wantApart(t, "two answers of Get", spans(f, true), spans(g, true))
		wantListsApart(t, "lists of Get", f)
		spoil(reflect.ValueOf(&f).Elem())
		if !equal(g, again.Files[i]) || !equal(l, again) {
			t.Errorf("what is done to an answer of Get changes another one")
		}
		if g, _ := bundle.Get(l, name); !equal(g, again.Files[i]) {
			t.Errorf("Get(%q) after a change: %v", name, g)
		}
	}
	spoil(reflect.ValueOf(&l).Elem())
	if !equal(loaded(t, b), again) {
		t.Errorf("what is done to an answer of Load changes another one")
	}
}

func TestNamesOfErrorsAreNewMemory(t *testing.T) {
	for i, b := range []api.Bundle{
		of(own("a"), own("a"), "", own("a"), ""), of(own("aa"), own("9a"), ""), of(own("zz"), own("a"), ""), of(own("a"), own("a"), "@"), of(own("a"), own("a"), own(text("zz"))), of(own("a"), own("a"), own(text("a"))),
	} {
		_, e, file, _ := bundle.Load(b)
		if e == api.OK || file == "" {
			t.Errorf("%d: %d, %q", i, e, file)
		}
		wantApart(t, "a bundle and an error", spans(b, true), spans(file, true))
	}
}

// strangeConstants are constants that no file has: such with themselves in them, and
// very great ones.
func strangeConstants() (l []api.Const) {
	for _, n := range []int{1, 2, 3, 40, 1000} {
		c := api.Const{Kind: api.ConList, S: "text", L: make([]api.Const, n)}
		for i := range c.L {
			c.L[i] = c
		}
		l = append(l, c)
	}
	deep, wide := api.Const{}, api.Const{S: strings.Repeat("a", 1<<20)}
	for range 1 << 17 {
		deep = api.Const{L: []api.Const{deep}}
	}
	for range 200 {
		wide = api.Const{L: []api.Const{wide, wide, wide}}
	}
	bare := api.Const{L: make([]api.Const, 1<<20)}
	for i := range bare.L {
		bare.L[i].L = bare.L
	}
	return append(l, deep, wide, bare, api.Const{S: strings.Repeat("a", 1<<26)})
}

func TestGetOfStrangeConstantsHasAnEnd(t *testing.T) {
	for i, c := range strangeConstants() {
		field := api.Field{Name: "f", Init: c}
		for _, d := range []api.Def{{Init: c}, {Fields: []api.Field{field, field}}, {Methods: []api.Method{{Args: []api.Field{field}, Throws: []api.Field{field}}}}} {
			d.Name = "d"
			f, is := bundle.Get(bundle.Loaded{Names: []string{"a"}, Files: []api.File{{Defs: []api.Def{d, d, d}}}}, "a")
			if !is || len(f.Defs) != 3 || f.Defs[2].Name != "d" || len(f.Defs[2].Fields) != len(d.Fields) || len(f.Defs[2].Methods) != len(d.Methods) {
				t.Errorf("%d: Get: %d definitions, %t", i, len(f.Defs), is)
			}
		}
	}
}

// TestGetOfTooGreatConstants has constants that are not copied whole, and then not at
// all: what is left out is no memory of the argument either.
func TestGetOfTooGreatConstants(t *testing.T) {
	long, wide := api.Const{S: strings.Repeat("a", 1<<20)}, api.Const{L: make([]api.Const, 1<<20)}
	for _, c := range []api.Const{long, wide, {L: []api.Const{long, wide}}} {
		l := bundle.Loaded{Names: []string{"a"}, Files: []api.File{{Defs: []api.Def{{Init: c}}}}}
		f, is := bundle.Get(l, "a")
		if !is || len(f.Defs) != 1 {
			t.Errorf("Get: %d definitions, %t", len(f.Defs), is)
		}
		wantApart(t, "Get's argument and answer", spans(f, true), spans(c, true))
	}
}

// TestGetOfGreatConstants has files with as many constants in them as a text can have,
// and ten times as many.
func TestGetOfGreatConstants(t *testing.T) {
	row := api.Const{Kind: api.ConList}
	for i := range 10 {
		row.L = append(row.L, api.Const{Kind: api.ConText, S: strconv.Itoa(i)})
	}
	f := api.File{Defs: []api.Def{{Kind: api.DefConst, Name: "c"}, {Kind: api.DefStruct, Fields: []api.Field{{HasInit: true}}}}}
	for range api.MaxText / 10 {
		f.Defs[0].Init.L = append(f.Defs[0].Init.L, row)
	}
	f.Defs[1].Fields[0].Init = api.Const{Kind: api.ConText, S: strings.Repeat("a", 10*api.MaxText)}
	got, is := bundle.Get(bundle.Loaded{Names: []string{"a"}, Files: []api.File{f}}, "a")
	if !is || !equal(got, f) {
		t.Errorf("Get of a great file: %d, %t", len(got.Defs[0].Init.L), is)
	}
}

// TestGetOfStrangeLists has names and files that do not go together, as those of Load
// always do.
func TestGetOfStrangeLists(t *testing.T) {
	file := func(name string) api.File { return api.File{Includes: []string{name}} }
	l := bundle.Loaded{Names: []string{"a", "b", "a", ""}, Files: []api.File{file("0"), file("1"), file("2"), file("3")}}
	for name, want := range map[string]string{"a": "0", "b": "1", "": "3"} {
		if f, is := bundle.Get(l, name); !is || !equal(f, file(want)) {
			t.Errorf("Get(%q): %v, %t, want %s", name, f, is, want)
		}
	}
	for _, l := range []bundle.Loaded{{Names: []string{"x", "a"}}, {Names: []string{"x", "a"}, Files: []api.File{file("0")}}, {Files: []api.File{file("0")}}, {Names: []string{"x"}, Files: []api.File{{}, file("0")}}} {
		if f, is := bundle.Get(l, "a"); is || !equal(f, api.File{}) {
			t.Errorf("Get of %v: %v, %t", l, f, is)
		}
	}
}

func TestLoadOfStrangeBundlesHasAnEnd(t *testing.T) {
	huge := strings.Repeat("include 'a' ", 1<<20)
	for _, s := range []string{huge, "\x00", "\xff\xfe", strings.Repeat("[", 1<<20), "include", "include '"} {
		for _, name := range []string{"a", "", "\xff", huge} {
			for n := range 8 {
				b := api.Bundle{Root: name}
				for i := range n {
					b.Files = append(b.Files, api.Source{Name: name[:min(i, len(name))], Text: s}, api.Source{Name: name, Text: s})
				}
				if l, e, _, _ := bundle.Load(b); e == api.OK || len(l.Names)+len(l.Files) != 0 {
					t.Errorf("Load with %d files: %d", len(b.Files), e)
				}
			}
		}
	}
	wantError(t, api.Bundle{Root: "a", Files: slices.Repeat([]api.Source{{Name: "a"}}, math.MaxUint16)}, api.ErrLong, "", 0)
}
