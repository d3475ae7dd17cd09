package konst_test

import (
	"reflect"
	"slices"
	"strings"
	"testing"
	"unsafe"

	"assayer/api"
	"assayer/bundle"
	"assayer/konst"
)

// walk calls look for a value and for all that is in it, also in the unused ends of
// lists if far.
func walk(v reflect.Value, far bool, look func(reflect.Value)) {
	look(v)
	switch v.Kind() {
	case reflect.Slice:
		if far {
			v = v.Slice(0, v.Cap())
		}
		for i := range v.Len() {
			walk(v.Index(i), far, look)
		}
	case reflect.Struct:
		for i := range v.NumField() {
			walk(v.Field(i), far, look)
		}
	}
}

// copied is a copy of anything, with what is in the unused ends of its lists if far.
func copied[T any](x T, far bool) T { return copyOf(reflect.ValueOf(x), far).Interface().(T) }

func copyOf(v reflect.Value, far bool) reflect.Value {
	out := reflect.New(v.Type()).Elem()
	switch v.Kind() {
	case reflect.Slice:
		if far {
			v = v.Slice(0, v.Cap())
		}
		for i := range v.Len() {
			out = reflect.Append(out, copyOf(v.Index(i), far))
		}
	case reflect.Struct:
		for i := range v.NumField() {
			out.Field(i).Set(copyOf(v.Field(i), far))
		}
	case reflect.String:
		out.SetString(string([]byte(v.String()))) // no constant's memory
	default:
		out.Set(v)
	}
	return out
}

// roomy is a copy of anything, with a list behind each list's end that is not empty.
func roomy[T any](x T) T {
	x = copied(x, false)
	walk(reflect.ValueOf(&x).Elem(), false, func(v reflect.Value) {
		if v.Kind() != reflect.Slice {
			return
		}
		n := v.Len()
		l := reflect.MakeSlice(v.Type(), n+2, n+2)
		reflect.Copy(l, v)
		for i := range 2 {
			walk(l.Index(n+i), true, func(v reflect.Value) {
				switch v.Kind() {
				case reflect.String:
					v.SetString("x")
				case reflect.Int, reflect.Int64:
					v.SetInt(1)
				}
			})
		}
		v.Set(l.Slice(0, n))
	})
	return x
}

// area is a piece of memory.
type area struct{ from, to uintptr }

// areas is the memory of all texts and lists in anything, with the unused ends of lists.
func areas(x any) (l []area) {
	walk(reflect.ValueOf(x), true, func(v reflect.Value) {
		var a area
		switch v.Kind() {
		case reflect.String:
			s := v.String()
			a.from = uintptr(unsafe.Pointer(unsafe.StringData(s)))
			a.to = a.from + uintptr(len(s))
		case reflect.Slice:
			a.from = v.Pointer()
			a.to = a.from + uintptr(v.Cap())*v.Type().Elem().Size()
		}
		if a.from < a.to {
			l = append(l, a)
		}
	})
	return l
}

// apart tells whether no area of one list has a byte of one of another list.
func apart(l, m []area) bool {
	for _, a := range l {
		for _, b := range m {
			if a.from < b.to && b.from < a.to {
				return false
			}
		}
	}
	return true
}

// question is what Eval is asked.
type question struct {
	file, typ string
	c         api.Const
}

// questions is some for each kind of type, and for each error.
func questions(t *testing.T) (l []question) {
	t.Helper()
	types := []string{"bool", "i8", "i64", "double", "string", "binary", "a.E", "a.Empty", "list<i8>", "set<string>", "map<string,string>", "list<list<string>>", "map<i8,list<i8>>", "a.S", "list<a.S>", "a.U", "a.X", "b.S", "a.Z", "list<"}
	for _, s := range []string{
		"true", "1", "200", "5.5", "'xx'", "'\xff'", "K", "N", "T", "L", "E.B", "b.F.G", "Z", "[]", "{}", "[2, K, 2]", "['xx', T, T]", "{'yy': T, 'xx': 'zz'}", "{'yy': T, 'yy': T}", "[['xx', T], [T], []]", "{1: L, 3: L, 2: [1]}",
		"{'x': K, 'z': E.A, 'y': ['yy', T, 'xx', T]}", "[{'y': [T], 'x': 1}, {'x': 2}]", "{'l': [{'x': 1, 'y': ['xx']}]}", "{'p': 1}", "{'x': 1, 'x': 2}", "{'w': 1}", "{'q': T}", "[[1], 2]",
	} {
		for _, typ := range types {
			l = append(l, question{"a", typ, copied(written(t, s), false)}, question{"b", typ, copied(written(t, s), false)})
		}
	}
	return l
}

func TestArgumentsAreNotChanged(t *testing.T) {
	t.Parallel()
	l := roomy(ordinary(t))
	before := copied(l, true)
	for _, q := range questions(t) {
		c := roomy(q.c)
		was := copied(c, true)
		konst.Eval(l, q.file, q.typ, c)
		if !reflect.DeepEqual(copied(c, true), was) {
			t.Errorf("%s as %s: the constant was changed", cut(q.c), q.typ)
		}
	}
	if !reflect.DeepEqual(copied(l, true), before) {
		t.Errorf("files were changed: %s", cut(l))
	}
	for _, l := range enums() {
		d := roomy(enum(l...))
		before := copied(d, true)
		konst.Enum(d)
		if !reflect.DeepEqual(copied(d, true), before) {
			t.Errorf("an enum was changed: %v", l)
		}
	}
}

// enums is the members of some enums without an error, and with one.
func enums() [][]api.Member {
	return [][]api.Member{
		nil, {without("first")}, {with("first", 3), with("second", 2), without("third"), with("fourth", -1)}, {without("first"), without("first")}, {with("first", 1<<31-1), without("second")},
	}
}

func TestUnusedEndsAreNotMinded(t *testing.T) {
	t.Parallel()
	l := ordinary(t)
	full := roomy(l)
	for _, q := range questions(t) {
		v, e := konst.Eval(l, q.file, q.typ, q.c)
		w, f := konst.Eval(full, q.file, q.typ, roomy(q.c))
		if e != f || !same(v, w) {
			t.Errorf("%s as %s: %s, %d, with full ends %s, %d", cut(q.c), q.typ, cut(v), e, cut(w), f)
		}
	}
	for _, l := range enums() {
		m, e := konst.Enum(enum(l...))
		n, f := konst.Enum(roomy(enum(l...)))
		if e != f || !slices.Equal(m, n) {
			t.Errorf("%v: %v, %d, with full ends %v, %d", l, m, e, n, f)
		}
	}
}

// TestAnswersAreNewMemory has answers that share none with the arguments, with each other,
// and with what else is in them.
func TestAnswersAreNewMemory(t *testing.T) {
	t.Parallel()
	l := copied(ordinary(t), false)
	answers := 0
	for _, q := range questions(t) {
		v, e := konst.Eval(l, q.file, q.typ, q.c)
		again, _ := konst.Eval(l, q.file, q.typ, q.c)
		if e == api.OK {
			answers++
		}
		own := areas(v)
		for _, other := range []any{l, q.c, again} {
			if !apart(own, areas(other)) {
				t.Errorf("%s as %s: the answer shares memory", cut(q.c), q.typ)
			}
		}
		for i, a := range own {
			if !apart([]area{a}, own[i+1:]) {
				t.Errorf("%s as %s: parts of the answer share memory", cut(q.c), q.typ)
			}
		}
	}
	if answers < 70 {
		t.Errorf("only %d answers", answers)
	}
	for _, l := range enums() {
		d := copied(enum(l...), false)
		m, _ := konst.Enum(d)
		again, _ := konst.Enum(d)
		if !apart(areas(m), areas(d)) || !apart(areas(m), areas(again)) {
			t.Errorf("the members of %v share memory", l)
		}
	}
}

// TestWhatIsDoneToAnswers has answers that are overwritten, ahead of the same questions.
func TestWhatIsDoneToAnswers(t *testing.T) {
	t.Parallel()
	l := ordinary(t)
	for _, q := range questions(t) {
		v, _ := konst.Eval(l, q.file, q.typ, q.c)
		before := copied(v, false)
		walk(reflect.ValueOf(&v).Elem(), true, func(x reflect.Value) {
			if x.Kind() == reflect.Int || x.Kind() == reflect.Int64 {
				x.SetInt(12345)
			}
		})
		if w, _ := konst.Eval(l, q.file, q.typ, q.c); !same(w, before) {
			t.Errorf("%s as %s: what is done to an answer changes another one", cut(q.c), q.typ)
		}
	}
}

// TestAnswersHangOnTheArgumentsAlone asks for all, after one another and after what the
// same names stand for in other files.
func TestAnswersHangOnTheArgumentsAlone(t *testing.T) {
	t.Parallel()
	l, other := ordinary(t), of(t, "a", "include 'b' enum E { A = 1, B, C } struct S { 1: i16 x, 2: i8 y } const i64 N = 7 const string T = 'r' const list<i8> L = [N] const i8 K = 100", "b", "const i8 Q = 8 struct S {}")
	all := questions(t)
	for i, q := range all {
		v, e := konst.Eval(l, q.file, q.typ, q.c)
		for j := range 20 {
			p := all[(i*31+j*53)%len(all)]
			konst.Eval(l, p.file, p.typ, p.c)
			konst.Eval(other, p.file, q.typ, p.c)
			konst.Eval(other, q.file, q.typ, q.c)
			if w, f := konst.Eval(l, q.file, q.typ, q.c); f != e || !same(w, v) {
				t.Fatalf("%s as %s after %s as %s: %s, %d; not %s, %d", cut(q.c), q.typ, cut(p.c), p.typ, cut(w), f, cut(v), e)
			}
		}
	}
	for i, m := range enums() {
		want, e := konst.Enum(enum(m...))
		for j, n := range enums() {
			konst.Enum(enum(n...))
			if got, f := konst.Enum(enum(m...)); f != e || !slices.Equal(got, want) {
				t.Errorf("enum %d after %d: %v, %d", i, j, got, f)
			}
		}
	}
}

// TestAfterErrors has a computation that breaks off in the middle of each kind of constant,
// ahead of the same names.
func TestAfterErrors(t *testing.T) {
	t.Parallel()
	l := of(t, "a", "const list<i8> A = [1, B] const i8 B = C const i8 C = Z const i8 D = D const i8 G = 1")
	for range 3 {
		wantError(t, l, "list<i8>", api.ErrName, "A", "[G, B, A]")
		wantError(t, l, "i8", api.ErrName, "B", "C")
		wantError(t, l, "i8", api.ErrCycle, "D")
		wantValue(t, l, "list<i8>", "[G, G]", i8s(api.List, 1, 1))
		wantError(t, l, "i8", api.ErrName, "C", "B")
	}
}

// TestStrangeLists has names and files that do not go together, as those of Load always do,
// and definitions that have nothing in them.
func TestStrangeLists(t *testing.T) {
	t.Parallel()
	f := api.File{Includes: []string{"b", "z", "a"}, Defs: []api.Def{{Kind: api.DefConst, Name: "K", Init: whole(4)}, {Kind: api.DefStruct, Name: "S"}, {Kind: api.DefConst, Name: "B", Init: named("b.K")}, enum(with("A", 1))}}
	for _, l := range []bundle.Loaded{{Names: []string{"a", "b"}, Files: []api.File{f}}, {Names: []string{"a"}, Files: []api.File{f, f}}, {Names: []string{"a", "a"}, Files: []api.File{f, {}}}} {
		wantEval(t, l, "a", "i8", named("K"), i8(4), api.OK)
		wantEval(t, l, "a", "a.S", table(), rec(nil), api.OK)
		wantEval(t, l, "a", "a.E", named("E.A"), num(api.Enum, 1), api.OK)
		wantEval(t, l, "a", "i8", named("B"), api.Value{}, api.ErrName)
		wantEval(t, l, "b", "i8", named("K"), api.Value{}, api.ErrName)
		wantEval(t, l, "b", "b.S", table(), api.Value{}, api.ErrValue)
	}
	for _, l := range []bundle.Loaded{{Names: []string{"a"}}, {Files: []api.File{f}}} {
		wantEval(t, l, "a", "i8", named("K"), api.Value{}, api.ErrName)
		wantEval(t, l, "a", "a.S", table(), api.Value{}, api.ErrValue)
	}
	empty := bundle.Loaded{Names: []string{"", "."}, Files: []api.File{{Defs: []api.Def{{}, {Kind: api.DefConst}, {Kind: api.DefEnum, Name: "."}, {Kind: 99, Name: "x"}}}, {}}}
	for _, s := range []string{"", ".", "..", "a", "x", ".x"} {
		wantEval(t, empty, "", "i8", named(s), api.Value{}, api.ErrName)
		wantEval(t, empty, "", s, whole(1), api.Value{}, api.ErrValue)
		wantEval(t, empty, "", s, table(), api.Value{}, api.ErrValue)
	}
	constant := api.File{Defs: []api.Def{{Kind: api.DefConst, Name: "K"}, {Kind: api.DefStruct, Name: "S", Fields: []api.Field{{}, {Req: 9, Name: "x"}}}}}
	l := bundle.Loaded{Names: []string{"a"}, Files: []api.File{constant}}
	wantEval(t, l, "a", "i8", named("K"), api.Value{}, api.ErrValue)
	wantEval(t, l, "a", "a.S", table(), rec(nil), api.OK)
	wantEval(t, l, "a", "a.S", table(quoted(""), whole(1)), api.Value{}, api.ErrForm)
}

// TestVeryLongTexts has names and types that no file has.
func TestVeryLongTexts(t *testing.T) {
	t.Parallel()
	l := ordinary(t)
	for _, s := range []string{"list<", "set<", "map<i8,", "map<", "<", ">", ",", "T,", ".", "a.S.", "\xff", "a"} {
		wantEval(t, l, "a", strings.Repeat(s, 1<<18), whole(1), api.Value{}, api.ErrValue)
		wantEval(t, l, "a", strings.Repeat(s, 1<<18), table(), api.Value{}, api.ErrValue)
	}
	long := strings.Repeat("x", 1<<20)
	wantEval(t, l, "a", "string", quoted(long), word(long), api.OK)
	wantEval(t, l, "a", "string", quoted(long+"\xff"), api.Value{}, api.ErrValue)
	wantEval(t, l, "a", "a.S", table(quoted(long), whole(1)), api.Value{}, api.ErrName)
	wantEval(t, l, long, "i8", named("K"), api.Value{}, api.ErrName)
}
