package scope_test

import (
	"reflect"
	"slices"
	"strings"
	"testing"
	"unsafe"

	"assayer/api"
	"assayer/bundle"
	"assayer/scope"
)

// walk calls look for a value and for all that is in it, also in the unused ends of
// lists if far.
func walk(v reflect.Value, far bool, look func(reflect.Value)) {
	look(v)
	switch v.Kind() {
	case reflect.Slice:
		if far {
			v = v.Slice(0, v.Cap())
		}
		for i := range v.Len() {
			walk(v.Index(i), far, look)
		}
	case reflect.Struct:
		for i := range v.NumField() {
			walk(v.Field(i), far, look)
		}
	}
}

// copied is a value with all its lists made anew, with their unused ends if far;
// lists without elements are nil.
func copied(v reflect.Value, far bool) reflect.Value {
	out := reflect.New(v.Type()).Elem()
	switch v.Kind() {
	case reflect.Slice:
		if far {
			v = v.Slice(0, v.Cap())
		}
		for i := range v.Len() {
			out = reflect.Append(out, copied(v.Index(i), far))
		}
	case reflect.Struct:
		for i := range v.NumField() {
			out.Field(i).Set(copied(v.Field(i), far))
		}
	default:
		out.Set(v)
	}
	return out
}

// plain is a copy of a value, with nil for each list without elements.
func plain[T any](x T) T { return copied(reflect.ValueOf(x), false).Interface().(T) }

// whole is a copy of a value, with what is in the unused ends of its lists.
func whole[T any](x T) T { return copied(reflect.ValueOf(x), true).Interface().(T) }

// equal tells whether two answers are equal; a list without elements is as good as nil.
func equal(x, y found) bool {
	same := reflect.DeepEqual(plain(x.d), plain(y.d))
	return same && x.whole == y.whole && x.member == y.member && x.home == y.home && x.e == y.e
}

// roomy is a copy of a value, with a list behind each list's end that is not empty.
func roomy[T any](x T) T {
	v := reflect.New(reflect.TypeOf(x)).Elem()
	v.Set(reflect.ValueOf(plain(x)))
	walk(v, false, func(v reflect.Value) {
		if v.Kind() == reflect.Slice {
			n := v.Len()
			l := reflect.MakeSlice(v.Type(), n+2, n+2)
			reflect.Copy(l, v)
			spoil(l.Index(n))
			spoil(l.Index(n + 1))
			v.Set(l.Slice(0, n))
		}
	})
	return v.Interface().(T)
}

// spoil changes all numbers, texts and bools of a value, in its place.
func spoil(v reflect.Value) {
	walk(v, true, func(v reflect.Value) {
		switch v.Kind() {
		case reflect.String:
			v.SetString(v.String() + "x")
		case reflect.Bool:
			v.SetBool(!v.Bool())
		case reflect.Int, reflect.Int64:
			v.SetInt(v.Int() + 1)
		case reflect.Uint64:
			v.SetUint(v.Uint() + 1)
		}
	})
}

// span is memory: of a list's elements, or of a text's bytes.
type span struct{ from, to uintptr }

// spans is the memory of all lists and texts in a value.
func spans(x any) (l []span) {
	walk(reflect.ValueOf(x), false, func(v reflect.Value) {
		switch {
		case v.Kind() == reflect.Slice && v.Cap() > 0:
			l = append(l, span{v.Pointer(), v.Pointer() + uintptr(v.Cap())*v.Type().Elem().Size()})
		case v.Kind() == reflect.String && v.Len() > 0:
			from := uintptr(unsafe.Pointer(unsafe.StringData(v.String())))
			l = append(l, span{from, from + uintptr(v.Len())})
		}
	})
	return l
}

// memory is the memory of an answer.
func (f found) memory() []span {
	return slices.Concat(spans(f.whole), spans(f.d), spans(f.member), spans(f.home))
}

// wantApart checks that no memory of l is memory of m.
func wantApart(t *testing.T, what string, l, m []span) {
	t.Helper()
	for _, x := range l {
		for _, y := range m {
			if x.from < y.to && y.from < x.to {
				t.Fatalf("%s share memory", what)
			}
		}
	}
}

// wantListsApart checks that no two lists of a definition share memory.
func wantListsApart(t *testing.T, d api.Def) {
	t.Helper()
	var l []span
	walk(reflect.ValueOf(d), false, func(v reflect.Value) {
		if v.Kind() == reflect.Slice && v.Cap() > 0 {
			l = append(l, span{v.Pointer(), v.Pointer() + uintptr(v.Cap())*v.Type().Elem().Size()})
		}
	})
	for i := range l {
		wantApart(t, "lists of a definition", l[i:i+1], l[i+1:])
	}
}

// own is a copy of a text that is no constant's memory.
func own(s string) string { return string([]byte(s)) }

// asks are a file and a name each, of all that can be found in great, and of some that
// can't.
func asks() (l [][2]string) {
	for _, file := range []string{"aa", "bb", "cc"} {
		for _, ref := range []string{"M", "E", "K", "S", "U", "X", "P", "E.X", "E.Y", "E.Z", "Z", "", "K.X"} {
			l = append(l, [2]string{file, ref}, [2]string{file, "aa." + ref}, [2]string{file, "bb." + ref}, [2]string{file, "zz." + ref})
		}
	}
	return l
}

func great(t *testing.T) bundle.Loaded {
	return of(t, own("aa"), own("include 'bb' "+kinds), own("bb"), own(kinds+" struct SS {} struct SS {}"))
}

func TestArgumentsAreNotChanged(t *testing.T) {
	l := roomy(great(t))
	before := whole(l)
	for _, x := range asks() {
		find(l, x[0], x[1])
		constant(l, x[0], x[1])
	}
	scope.Twice(l)
	if !reflect.DeepEqual(whole(l), before) {
		t.Errorf("an argument was changed: %v", l)
	}
}

func TestUnusedEndsAreNotMinded(t *testing.T) {
	l := great(t)
	for _, x := range asks() {
		wantFindAlone(t, roomy(l), x[0], x[1], find(l, x[0], x[1]))
		wantConst(t, roomy(l), x[0], x[1], constant(l, x[0], x[1]))
	}
	wantTwice(t, roomy(l), "bb", "SS", true)
	l = of(t, "a", "struct A {}")
	wantTwice(t, roomy(l), "", "", false)
	l.Files[0].Defs = append(l.Files[0].Defs, l.Files[0].Defs[0])[:1]
	wantTwice(t, l, "", "", false)
}

func TestAnswersAreNewMemory(t *testing.T) {
	l := great(t)
	before := whole(l)
	answers := 0
	for _, x := range asks() {
		x := [2]string{own(x[0]), own(x[1])}
		for _, ask := range []func(bundle.Loaded, string, string) found{find, constant} {
			f, g := ask(l, x[0], x[1]), ask(l, x[0], x[1])
			if f.e != api.OK {
				continue
			}
			answers++
			wantApart(t, "an argument and an answer", slices.Concat(spans(l), spans(x[0]), spans(x[1])), f.memory())
			wantApart(t, "two answers", f.memory(), g.memory())
			wantListsApart(t, f.d)
			spoil(reflect.ValueOf(&f.d).Elem())
			if again := ask(l, x[0], x[1]); !equal(again, g) {
				t.Errorf("what is done to an answer changes another one: %v", again)
			}
		}
	}
	if answers < 40 {
		t.Errorf("only %d answers", answers)
	}
	file, name, is := scope.Twice(l)
	if !is {
		t.Errorf("Twice: %t", is)
	}
	wantApart(t, "an argument and an answer of Twice", spans(l), append(spans(file), spans(name)...))
	if !reflect.DeepEqual(whole(l), before) {
		t.Errorf("an argument was changed: %v", l)
	}
}

// TestAnswersHangOnTheArgumentsAlone asks for all, after one another, in all orders.
func TestAnswersHangOnTheArgumentsAlone(t *testing.T) {
	l, other := great(t), of(t, "aa", "struct M {} struct E {} const i8 S = 1")
	for _, x := range asks() {
		f, g := find(l, x[0], x[1]), constant(l, x[0], x[1])
		for _, y := range asks() {
			find(other, y[0], y[1])
			constant(l, y[0], y[1])
			scope.Twice(other)
			if !equal(find(l, x[0], x[1]), f) || !equal(constant(l, x[0], x[1]), g) {
				t.Fatalf("%v after %v has another answer", x, y)
			}
		}
	}
}

// TestStrangeConstantsHaveAnEnd has constants that no file has: such with themselves in
// them, and very great ones.
func TestStrangeConstantsHaveAnEnd(t *testing.T) {
	circle := api.Const{Kind: api.ConList, S: "text", L: make([]api.Const, 3)}
	for i := range circle.L {
		circle.L[i] = circle
	}
	deep, wide := api.Const{}, api.Const{S: strings.Repeat("a", 1<<20)}
	for range 1 << 17 {
		deep = api.Const{L: []api.Const{deep}}
	}
	for range 200 {
		wide = api.Const{L: []api.Const{wide, wide, wide}}
	}
	for i, c := range []api.Const{circle, deep, wide} {
		field := api.Field{Name: "f", HasInit: true, Init: c}
		d := api.Def{Kind: api.DefConst, Name: "D", Init: c, Fields: []api.Field{field, field}, Methods: []api.Method{{Args: []api.Field{field}, Throws: []api.Field{field}}}}
		l := bundle.Loaded{Names: []string{"a"}, Files: []api.File{{Defs: []api.Def{d, d}}}}
		for _, f := range []found{find(l, "a", "D"), constant(l, "a", "a.D")} {
			if f.e != api.OK || f.whole != "a.D" || f.home != "a" || f.d.Name != "D" || len(f.d.Fields) != 2 || len(f.d.Methods) != 1 {
				t.Errorf("%d: %q, %q, %d", i, f.whole, f.home, f.e)
			}
		}
		wantTwice(t, l, "a", "D", true)
	}
}

// TestAnOtherGreatDefinitionTakesNothingAway has a definition behind one that is greater
// than any of a file.
func TestAnOtherGreatDefinitionTakesNothingAway(t *testing.T) {
	great := api.Def{Kind: api.DefConst, Name: "G", Init: api.Const{Kind: api.ConText, S: strings.Repeat("a", 63000)}}
	d := api.Def{Kind: api.DefConst, Name: "D", Init: api.Const{Kind: api.ConText, S: strings.Repeat("b", 2000)}}
	l := bundle.Loaded{Names: []string{"a"}, Files: []api.File{{Defs: []api.Def{great, d}}}}
	wantFind(t, l, "a", "D", found{whole: "a.D", d: d, home: "a"})
	wantFind(t, l, "a", "G", found{whole: "a.G", d: great, home: "a"})
}

// TestStrangeLists has names and files that do not go together, as those of Load always
// do.
func TestStrangeLists(t *testing.T) {
	file := func(name string, includes ...string) api.File {
		d := api.Def{Kind: api.DefStruct, Name: name}
		return api.File{Includes: includes, Defs: []api.Def{d, {Kind: api.DefEnum, Name: "E", Members: []api.Member{{Name: "X"}}}}}
	}
	at := func(home string, f api.File) found {
		return found{whole: home + "." + f.Defs[0].Name, d: f.Defs[0], home: home}
	}

	f := file("A", "b", "z")
	for _, l := range []bundle.Loaded{{Names: []string{"a", "b"}, Files: []api.File{f}}, {Names: []string{"a"}, Files: []api.File{f, file("B"), file("B")}}} {
		wantFind(t, l, "a", "A", at("a", f))
		wantFind(t, l, "a", "a.A", at("a", f))
		for _, x := range [][2]string{{"a", "b.B"}, {"a", "z.A"}, {"a", "b.A"}, {"a", "b.E.X"}, {"b", "B"}, {"b", "b.B"}, {"b", "E.X"}, {"z", "A"}, {"", "A"}, {"", "B"}, {"", "E.X"}} {
			wantNothing(t, l, x[0], x[1])
		}
		wantTwice(t, l, "", "", false)
	}

	twice := api.File{Defs: []api.Def{{Name: "A"}, {Name: "A"}}}
	wantTwice(t, bundle.Loaded{Names: []string{"a"}, Files: []api.File{f, twice}}, "", "", false)
	wantTwice(t, bundle.Loaded{Names: []string{"a", "b", "c"}, Files: []api.File{f, twice}}, "b", "A", true)
	wantTwice(t, bundle.Loaded{Files: []api.File{twice}}, "", "", false)
	wantTwice(t, bundle.Loaded{Names: []string{"a"}}, "", "", false)

	same := bundle.Loaded{Names: []string{"a", "a"}, Files: []api.File{file("A"), file("B")}}
	wantFind(t, same, "a", "a.A", at("a", same.Files[0]))
	wantNothing(t, same, "a", "B")
	wantTwice(t, same, "", "", false)

	selfish := bundle.Loaded{Names: []string{"a", "b"}, Files: []api.File{file("A", "a", "b"), file("B", "a")}}
	wantFind(t, selfish, "a", "a.A", at("a", selfish.Files[0]))
	wantFind(t, selfish, "b", "a.A", at("a", selfish.Files[0]))
	wantFind(t, selfish, "a", "b.B", at("b", selfish.Files[1]))
}

// TestStrangeTexts has names that no file has, and very long ones.
func TestStrangeTexts(t *testing.T) {
	huge := strings.Repeat("a", 1<<20)
	l := of(t, "a", "struct A {} enum E { X } const i8 K = 1")
	for _, s := range []string{huge, huge + ".A", "a." + huge, "E." + huge, huge + ".E.X", "a." + huge + ".X", strings.Repeat("a.", 1<<20), strings.Repeat(".a", 1<<20), "\x00", "\xff\xfe", "a.\xff", "a\x00.A"} {
		wantNothing(t, l, "a", s)
		wantNothing(t, l, s, "A")
	}
	dots := []api.Def{{Kind: api.DefConst, Name: "A.B"}, {Kind: api.DefConst, Name: "A.B."}, {Kind: api.DefConst, Name: "."}}
	l = bundle.Loaded{Names: []string{"a"}, Files: []api.File{{Defs: dots}}}
	for _, ref := range []string{"A.B", "a.A.B", "a.A.B.", "a..", "."} {
		wantNothing(t, l, "a", ref)
	}
	empty := api.Def{Kind: api.DefEnum, Members: []api.Member{{}, {Name: "X"}}}
	l = bundle.Loaded{Names: []string{"a", ""}, Files: []api.File{{Includes: []string{""}, Defs: []api.Def{empty, {Kind: api.DefEnum, Name: "E", Members: empty.Members}}}, {Defs: []api.Def{empty}}}}
	for _, ref := range []string{"", ".", "..", "a.", ".X", "a..X", "..X", "E.", "a.E.", ".E"} {
		wantNothing(t, l, "a", ref)
	}
}

// TestManyDefinitions has far more of all than a bundle may have.
func TestManyDefinitions(t *testing.T) {
	var l bundle.Loaded
	for range 1000 {
		l.Names = append(l.Names, "f"+strings.Repeat("x", len(l.Names)))
	}
	for i := range l.Names {
		f := api.File{Includes: l.Names}
		for range 20 {
			f.Defs = append(f.Defs, api.Def{Kind: api.DefStruct, Name: l.Names[i] + strings.Repeat("y", len(f.Defs))})
		}
		l.Files = append(l.Files, f)
	}
	last := l.Names[999]
	if f := find(l, "f", last+"."+last+"yyy"); f.e != api.OK || f.home != last || f.d.Name != last+"yyy" {
		t.Errorf("Find: %d", f.e)
	}
	if file, name, is := scope.Twice(l); file+name != "" || is {
		t.Errorf("Twice: %t", is)
	}
	l.Files[999].Defs[19].Name = l.Files[999].Defs[0].Name
	if file, name, is := scope.Twice(l); file != last || name != last || !is {
		t.Errorf("Twice: %t", is)
	}
}
