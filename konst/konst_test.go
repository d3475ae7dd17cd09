package konst_test

import (
	"fmt"
	"math"
	"slices"
	"strings"
	"testing"

	"assayer/alias"
	"assayer/api"
	"assayer/bundle"
	"assayer/field"
	"assayer/konst"
	"assayer/parse"
	"assayer/value"
)

// of is a bundle that is loaded, of names and texts by turns; the first one is the root.
func of(t *testing.T, files ...string) bundle.Loaded {
	t.Helper()
	b := api.Bundle{Root: files[0]}
	for i := 0; i < len(files); i += 2 {
		b.Files = append(b.Files, api.Source{Name: files[i], Text: files[i+1]})
	}
	l, e, file, at := bundle.Load(b)
	if e != api.OK {
		t.Fatalf("Load(%.300v): %d, %q, %d", b, e, file, at)
	}
	return l
}

// written is the constant of a text.
func written(t *testing.T, text string) api.Const {
	t.Helper()
	f, e, at := parse.Parse("const i8 A = " + text)
	if e != api.OK {
		t.Fatalf("%.300s: %d at %d", text, e, at)
	}
	return f.Defs[0].Init
}

func num(k int, n int64) api.Value { return api.Value{Kind: k, N: n} }

func i8(n int64) api.Value { return num(api.I8, n) }

func double(f float64) api.Value { return num(api.Double, int64(math.Float64bits(f))) }

func word(s string) api.Value { return api.Value{Kind: api.String, S: s} }

func list(l ...api.Value) api.Value { return api.Value{Kind: api.List, L: l} }

func set(l ...api.Value) api.Value { return api.Value{Kind: api.Set, L: l} }

func pairs(l ...api.Value) api.Value { return api.Value{Kind: api.Map, L: l} }

// i8s is a value of kind k with numbers in it.
func i8s(k int, l ...int64) api.Value {
	v := api.Value{Kind: k}
	for _, n := range l {
		v.L = append(v.L, i8(n))
	}
	return v
}

func rec(ids []int, l ...api.Value) api.Value {
	return api.Value{Kind: api.Struct, IDs: ids, L: l}
}

// same tells whether two values are the same, also in what their kinds do not use.
func same(v, w api.Value) bool {
	return v.Kind == w.Kind && v.N == w.N && v.S == w.S && slices.Equal(v.IDs, w.IDs) && slices.EqualFunc(v.L, w.L, same)
}

// schemaOf is the types of files, as far as they have no error.
func schemaOf(l bundle.Loaded) (s api.Schema) {
	for i := range min(len(l.Names), len(l.Files)) {
		for _, d := range l.Files[i].Defs {
			name := l.Names[i] + "." + d.Name
			switch d.Kind {
			case api.DefEnum:
				m, _ := konst.Enum(d)
				s.Enums = append(s.Enums, api.SEnum{Name: name, Members: m})
			case api.DefStruct, api.DefUnion, api.DefException:
				x := api.SStruct{Kind: d.Kind, Name: name}
				ids, _ := field.IDs(d.Fields)
				for j := range ids {
					whole, _, e := alias.Type(l, l.Names[i], d.Fields[j].Type)
					if e == api.OK {
						x.Fields = append(x.Fields, api.SField{ID: ids[j], Req: d.Fields[j].Req, Type: whole})
					}
				}
				s.Structs = append(s.Structs, x)
			}
		}
	}
	return s
}

// cut is the beginning of a text of anything.
func cut(x any) string {
	s := fmt.Sprintf("%v", x)
	return s[:min(len(s), 300)]
}

// wantEval checks what Eval answers, twice, and what follows: a value is one of the type.
func wantEval(t *testing.T, l bundle.Loaded, file, whole string, c api.Const, want api.Value, e api.Errno) {
	t.Helper()
	for range 2 {
		if v, got := konst.Eval(l, file, whole, c); got != e || !same(v, want) {
			t.Errorf("Eval in %.20q of %s as %.100q: %s, %d; not %s, %d", file, cut(c), whole, cut(v), got, cut(want), e)
		}
	}
	if e == api.OK && !value.Check(schemaOf(l), whole, want) {
		t.Errorf("%s is no %.100q", cut(want), whole)
	}
}

// wantValue checks that a text, as written in the file a, has this value.
func wantValue(t *testing.T, l bundle.Loaded, whole, text string, want api.Value) {
	t.Helper()
	wantEval(t, l, "a", whole, written(t, text), want, api.OK)
}

// wantError checks that texts, as written in the file a, have this error.
func wantError(t *testing.T, l bundle.Loaded, whole string, e api.Errno, texts ...string) {
	t.Helper()
	for _, text := range texts {
		wantEval(t, l, "a", whole, written(t, text), api.Value{}, e)
	}
}

func whole(n int64) api.Const { return api.Const{Kind: api.ConInt, N: n} }

func quoted(s string) api.Const { return api.Const{Kind: api.ConText, S: s} }

func named(s string) api.Const { return api.Const{Kind: api.ConName, S: s} }

func row(l ...api.Const) api.Const { return api.Const{Kind: api.ConList, L: l} }

func table(l ...api.Const) api.Const { return api.Const{Kind: api.ConMap, L: l} }

// ordinary is files with what most of the tests need.
func ordinary(t *testing.T) bundle.Loaded {
	t.Helper()
	return of(t, "a", "include 'b' enum E { A = 5, B, C = -2 } struct S { 1: required i8 x, set<string> y, 9: E z } union U { 1: i8 p, 2: string q } exception X { 3: optional list<S> l } "+
		"struct None {} enum Empty {} const i64 N = 300 const string T = 'q' const list<i8> L = [K, 1] const i8 K = b.Q const bool Yes = true typedef list<i8> A const binary Bad = '\xff'",
		"b", "const i8 Q = 7 enum F { G = 3, H = 300, I = 70000 } struct S { 1: i8 x } typedef i8 T")
}

func TestTheChaptersExamples(t *testing.T) {
	t.Parallel()
	l := of(t, "a", "const i64 N = 300")
	wantValue(t, l, "i16", "N", num(api.I16, 300))
	wantError(t, l, "i8", api.ErrValue, "N")
	wantMembers(t, []api.Member{without("A"), with("B", -3), without("C"), with("D", 9), without("E")},
		with("B", -3), with("C", -2), with("A", 0), with("D", 9), with("E", 10))
}

// TestEachKindOfConstantForEachType has all of both against each other.
func TestEachKindOfConstantForEachType(t *testing.T) {
	t.Parallel()
	l := ordinary(t)
	values := map[string]map[string]api.Value{
		"5":      {"i8": i8(5), "i16": num(api.I16, 5), "i32": num(api.I32, 5), "i64": num(api.I64, 5), "double": double(5), "a.E": num(api.Enum, 5)},
		"1":      {"bool": num(api.Bool, 1), "i8": i8(1), "i16": num(api.I16, 1), "i32": num(api.I32, 1), "i64": num(api.I64, 1), "double": double(1)},
		"5.0":    {"double": double(5)},
		"true":   {"bool": num(api.Bool, 1)},
		"'x'":    {"string": word("x"), "binary": {Kind: api.Binary, S: "x"}},
		"E.A":    {"i8": i8(5), "i16": num(api.I16, 5), "i32": num(api.I32, 5), "i64": num(api.I64, 5), "a.E": num(api.Enum, 5)},
		"K":      {"i8": i8(7), "i16": num(api.I16, 7), "i32": num(api.I32, 7), "i64": num(api.I64, 7), "double": double(7)},
		"Yes":    {"bool": num(api.Bool, 1)},
		"T":      {"string": word("q"), "binary": {Kind: api.Binary, S: "q"}},
		"[]":     {"list<i8>": list(), "set<i8>": set(), "map<i8,i8>": pairs()},
		"{}":     {"list<i8>": list(), "set<i8>": set(), "map<i8,i8>": pairs(), "a.X": rec(nil), "a.None": rec(nil)},
		"[1]":    {"list<i8>": i8s(api.List, 1), "set<i8>": i8s(api.Set, 1)},
		"L":      {"list<i8>": i8s(api.List, 7, 1), "set<i8>": i8s(api.Set, 1, 7)},
		"{1: 2}": {"map<i8,i8>": i8s(api.Map, 1, 2)},
	}
	errors := map[string]map[string]api.Errno{
		"5":      {"a.Empty": api.ErrEmpty},
		"1":      {"a.Empty": api.ErrEmpty},
		"K":      {"a.Empty": api.ErrEmpty},
		"{}":     {"a.S": api.ErrReq, "a.U": api.ErrReq},
		"{1: 2}": {"a.S": api.ErrValue, "a.U": api.ErrValue, "a.X": api.ErrValue, "a.None": api.ErrValue},
	}
	types := []string{"bool", "i8", "i16", "i32", "i64", "double", "string", "binary", "a.E", "a.Empty", "list<i8>", "set<i8>", "map<i8,i8>", "a.S", "a.U", "a.X", "a.None"}
	for text, byType := range values {
		for _, typ := range types {
			want, ok := byType[typ]
			e := api.ErrValue
			if ok {
				e = api.OK
			} else if other, ok := errors[text][typ]; ok {
				e = other
			}
			wantEval(t, l, "a", typ, written(t, text), want, e)
		}
	}
}

func TestBools(t *testing.T) {
	t.Parallel()
	l := ordinary(t)
	wantValue(t, l, "bool", "0", num(api.Bool, 0))
	wantValue(t, l, "bool", "1", num(api.Bool, 1))
	wantValue(t, l, "bool", "false", num(api.Bool, 0))
	wantValue(t, l, "bool", "true", num(api.Bool, 1))
	for _, n := range []int64{-1, 2, 3, 255, 256, 257, -255, 1 << 32, 1<<32 + 1, math.MaxInt64, math.MinInt64, math.MinInt64 + 1} {
		wantEval(t, l, "a", "bool", whole(n), api.Value{}, api.ErrValue)
	}
	wantError(t, l, "bool", api.ErrValue, "1.0", "0.0", "'true'", "E.A", "[true]", "{}")
}

// TestTrueAndFalseOfOtherTypes has the words for each other type, also in files that have
// definitions of these names, as no parsed file has.
func TestTrueAndFalseOfOtherTypes(t *testing.T) {
	t.Parallel()
	l := ordinary(t)
	other := bundle.Loaded{Names: []string{"a"}, Files: []api.File{{Defs: []api.Def{{Kind: api.DefConst, Name: "true", Init: whole(5)}, {Kind: api.DefConst, Name: "false", Init: named("true")}, {Kind: api.DefEnum, Name: "E", Members: []api.Member{{Name: "true"}, {Name: "false"}}}}}}}
	for _, typ := range []string{"i8", "i16", "i32", "i64", "double", "string", "binary", "a.E", "list<bool>", "set<bool>", "map<bool,bool>", "a.S", "a.U", "a.Z", "", "list<", "true"} {
		wantError(t, l, typ, api.ErrValue, "true", "false")
		wantError(t, other, typ, api.ErrValue, "true", "false")
	}
	wantValue(t, other, "bool", "true", num(api.Bool, 1))
	wantValue(t, other, "bool", "false", num(api.Bool, 0))
	wantEval(t, other, "a", "i8", named("a.true"), i8(5), api.OK)
	wantEval(t, other, "a", "i8", named("E.false"), i8(1), api.OK)
	wantEval(t, l, "z", "bool", named("true"), num(api.Bool, 1), api.OK)
	wantEval(t, l, "a", "bool", named("True"), api.Value{}, api.ErrName)
	wantEval(t, l, "a", "bool", named("true "), api.Value{}, api.ErrName)
}

// integers is each integer type, its kind, and its bounds.
func integers() []struct {
	typ          string
	kind         int
	least, great int64
} {
	return []struct {
		typ          string
		kind         int
		least, great int64
	}{
		{"i8", api.I8, -128, 127}, {"i16", api.I16, -32768, 32767}, {"i32", api.I32, -2147483648, 2147483647}, {"i64", api.I64, math.MinInt64, math.MaxInt64},
	}
}

// near is numbers around each bound of an integer type, and around their multiples.
func near() (l []int64) {
	for _, n := range []int64{0, 1 << 7, 1 << 8, 1 << 15, 1 << 16, 1 << 31, 1 << 32, 3 << 32, 1 << 40, 1<<32 + 1<<31, 1<<32 + 1<<7, 1<<16 + 1<<7, math.MaxInt64 - 2} {
		for d := int64(-2); d <= 2; d++ {
			l = append(l, n+d, -n-d)
		}
	}
	return append(l, math.MinInt64, math.MinInt64+1)
}

func TestIntegers(t *testing.T) {
	t.Parallel()
	l := ordinary(t)
	for _, x := range integers() {
		for _, n := range append(near(), x.least, x.great) {
			want, e := num(x.kind, n), api.OK
			if n < x.least || n > x.great {
				want, e = api.Value{}, api.ErrValue
			}
			wantEval(t, l, "a", x.typ, whole(n), want, e)
		}
		wantError(t, l, x.typ, api.ErrValue, "1.0", "1e0", "'1'", "''", "[1]", "[]", "{}", "true")
	}
}

// TestDoubles has doubles, which are kept by their bits, and integers, which go to the
// nearest double; of two the one whose last bit is 0.
func TestDoubles(t *testing.T) {
	t.Parallel()
	l := ordinary(t)
	wantValue(t, l, "double", "-1.5", double(-1.5))
	wantValue(t, l, "double", "0.1", double(0.1))
	wantValue(t, l, "double", "-0.0", double(math.Copysign(0, -1)))
	wantValue(t, l, "double", "-0", double(0))
	wantValue(t, l, "double", "9007199254740993", double(9007199254740992))
	wantValue(t, l, "double", "9007199254740995", double(9007199254740996))
	wantValue(t, l, "double", "-9007199254740993", double(-9007199254740992))
	wantValue(t, l, "double", "N", double(300))
	for _, n := range near() {
		wantEval(t, l, "a", "double", whole(n), double(float64(n)), api.OK)
	}
	for _, bits := range []uint64{0, 1, 1 << 63, math.MaxUint64, math.Float64bits(math.Inf(-1)), math.Float64bits(math.NaN()), 0x7FEFFFFFFFFFFFFF} {
		wantEval(t, l, "a", "double", api.Const{Kind: api.ConDouble, D: bits}, num(api.Double, int64(bits)), api.OK)
	}
	wantError(t, l, "double", api.ErrValue, "'1.5'", "true", "E.A", "b.F.G", "[1.5]", "{}")
}

func TestStringsAndBinaries(t *testing.T) {
	t.Parallel()
	l := ordinary(t)
	for _, s := range []string{"", "a", "\x00", "ä", "\u2028x", "\U0010ffff", strings.Repeat("long ", 1000)} {
		wantEval(t, l, "a", "string", quoted(s), word(s), api.OK)
		wantEval(t, l, "a", "binary", quoted(s), api.Value{Kind: api.Binary, S: s}, api.OK)
	}
	for _, s := range []string{"\xff", "a\x80", "\xed\xa0\x80", "\xc0\x80", "\xf4\x90\x80\x80", "\xe2\x82"} {
		wantEval(t, l, "a", "string", quoted(s), api.Value{}, api.ErrValue)
		wantEval(t, l, "a", "binary", quoted(s), api.Value{Kind: api.Binary, S: s}, api.OK)
	}
	wantError(t, l, "string", api.ErrValue, "Bad", "1", "1.5", "true", "E.A", "['a']", "{'a': 'a'}", "[]", "{}")
	wantValue(t, l, "binary", "Bad", api.Value{Kind: api.Binary, S: "\xff"})
	wantError(t, l, "binary", api.ErrValue, "1", "1.5", "true", "E.A", "['a']", "{'a': 'a'}", "[]", "{}")
}

func TestEnumsByNumber(t *testing.T) {
	t.Parallel()
	l := ordinary(t)
	for n := int64(-10); n <= 10; n++ {
		if n == 5 || n == 6 || n == -2 {
			wantEval(t, l, "a", "a.E", whole(n), num(api.Enum, n), api.OK)
		} else {
			wantEval(t, l, "a", "a.E", whole(n), api.Value{}, api.ErrValue)
		}
	}
	for _, n := range []int64{1<<32 + 5, 1<<32 - 2, 1<<8 + 5, -5, math.MinInt64, math.MaxInt64} {
		wantEval(t, l, "a", "a.E", whole(n), api.Value{}, api.ErrValue)
	}
	wantValue(t, l, "b.F", "300", num(api.Enum, 300))
	wantError(t, l, "b.F", api.ErrValue, "5", "0", "3.0", "'G'", "[]", "{}", "true")
	l = of(t, "a", "enum E { A = -2147483648, B = 2147483647 }")
	wantValue(t, l, "a.E", "-2147483648", num(api.Enum, math.MinInt32))
	wantValue(t, l, "a.E", "2147483647", num(api.Enum, math.MaxInt32))
	wantError(t, l, "a.E", api.ErrValue, "2147483648", "-2147483649", "0")
}

func TestLists(t *testing.T) {
	t.Parallel()
	l := ordinary(t)
	wantValue(t, l, "list<i8>", "[3, 1, 3, 2]", i8s(api.List, 3, 1, 3, 2))
	wantValue(t, l, "list<list<i8>>", "[[2], [], {}, [1, K], L]", list(i8s(api.List, 2), list(), list(), i8s(api.List, 1, 7), i8s(api.List, 7, 1)))
	wantValue(t, l, "list<string>", "['b', T, 'a']", list(word("b"), word("q"), word("a")))
	wantValue(t, l, "list<a.E>", "[E.C, 6, a.E.A]", list(num(api.Enum, -2), num(api.Enum, 6), num(api.Enum, 5)))
	wantValue(t, l, "list<bool>", "[true, 0, 1, false]", list(num(api.Bool, 1), num(api.Bool, 0), num(api.Bool, 1), num(api.Bool, 0)))
	wantValue(t, l, "list<set<i8>>", "[[2, 1], L]", list(i8s(api.Set, 1, 2), i8s(api.Set, 1, 7)))
	wantValue(t, l, "list<a.None>", "[{}, {}]", list(rec(nil), rec(nil)))
	wantError(t, l, "list<i8>", api.ErrValue, "{1: 2}", "{1: 2, 3: 4}", "[1, [2]]", "[1, 200]", "[[]]", "[true]", "{[]: []}")
	wantError(t, l, "list<a.None>", api.ErrValue, "[[]]")
	deepest := strings.Repeat("list<", api.MaxNest) + "i8" + strings.Repeat(">", api.MaxNest)
	want := i8(4)
	for range api.MaxNest {
		want = list(want)
	}
	wantValue(t, l, deepest, strings.Repeat("[", api.MaxNest)+"4"+strings.Repeat("]", api.MaxNest), want)
}

func TestSets(t *testing.T) {
	t.Parallel()
	l := ordinary(t)
	wantValue(t, l, "set<i8>", "[3, 1, 3, -2, 1]", i8s(api.Set, -2, 1, 3))
	wantValue(t, l, "set<i8>", "[7, K]", i8s(api.Set, 7))
	wantValue(t, l, "set<a.E>", "[E.B, E.C, 6, 5]", set(num(api.Enum, -2), num(api.Enum, 5), num(api.Enum, 6)))
	wantValue(t, l, "set<bool>", "[true, false, 1]", set(num(api.Bool, 0), num(api.Bool, 1)))
	wantValue(t, l, "set<string>", "['b', 'a', '', 'ab']", set(word(""), word("a"), word("ab"), word("b")))
	wantValue(t, l, "set<double>", "[-1.0, 0.0, -0.0, 1, 0]", set(double(0), double(1), double(math.Copysign(0, -1)), double(-1)))
	wantError(t, l, "set<i8>", api.ErrValue, "{1: 2}", "{1: 1}", "[1, '1']", "[1, [2]]", "[1, 1, 200]")
}

func TestMaps(t *testing.T) {
	t.Parallel()
	l := ordinary(t)
	wantValue(t, l, "map<i8,i8>", "{3: 1, -2: 3, 1: 3}", i8s(api.Map, -2, 3, 1, 3, 3, 1))
	wantValue(t, l, "map<i8,i8>", "{K: K, 2: b.Q}", i8s(api.Map, 2, 7, 7, 7))
	wantValue(t, l, "map<string,list<i8>>", "{'b': [2, 1], 'a': L, T: {}}", pairs(word("a"), i8s(api.List, 7, 1), word("b"), i8s(api.List, 2, 1), word("q"), list()))
	wantValue(t, l, "map<double,bool>", "{0.0: true, -0.0: 0}", pairs(double(0), num(api.Bool, 1), double(math.Copysign(0, -1)), num(api.Bool, 0)))
	wantValue(t, l, "map<i8,map<i8,i8>>", "{2: {3: 3, 1: 1}, 1: []}", pairs(i8(1), pairs(), i8(2), i8s(api.Map, 1, 1, 3, 3)))
	wantValue(t, l, "map<i8,set<i8>>", "{2: [3, 1], 1: L}", pairs(i8(1), i8s(api.Set, 1, 7), i8(2), i8s(api.Set, 1, 3)))
	wantValue(t, l, "map<bool,string>", "{true: 'x'}", pairs(num(api.Bool, 1), word("x")))
	wantError(t, l, "map<i8,i8>", api.ErrTwice, "{1: 2, 1: 2}", "{1: 2, 1: 3}", "{K: 1, 3: 2, 7: 1}", "{7: 1, 3: 2, 4: 3, K: 1}", "{E.A: 1, 5: 1}")
	wantError(t, l, "map<a.E,i8>", api.ErrTwice, "{E.A: 1, 5: 1}")
	wantError(t, l, "map<double,i8>", api.ErrTwice, "{1: 1, 1.0: 1}")
	wantError(t, l, "map<i8,map<i8,i8>>", api.ErrTwice, "{1: {2: 2, 2: 2}}", "{1: {}, 2: {}, 1: []}")
	wantError(t, l, "map<i8,i8>", api.ErrValue, "[1]", "[1, 2]", "[{1: 2}]", "{'1': 2}", "{1: '2'}", "{200: 1}", "{1: 200}", "{1: {}}")
}

// TestTwiceBehindAllPairs has errors in pairs behind two with equal keys.
func TestTwiceBehindAllPairs(t *testing.T) {
	t.Parallel()
	l := ordinary(t)
	wantError(t, l, "map<i8,i8>", api.ErrValue, "{1: 2, 1: 200}", "{1: 2, 1: 2, 3: 200}", "{1: 2, 1: 2, 300: 1}", "{1: 2, 1: 2, 3: '2'}")
	wantError(t, l, "map<i8,i8>", api.ErrName, "{1: 2, 1: 2, Z: 1}", "{1: 2, 1: 2, 3: Z}", "{Z: 200, 1: 1, 1: 1}")
	wantError(t, l, "map<i8,i8>", api.ErrValue, "{200: Z}", "{1: 200, Z: 1}")
	wantError(t, l, "map<i8,i8>", api.ErrName, "{Z: 200}", "{1: Z, 200: 1}")
}

// TestStrangeConstants has constants that no file has: of no kind, with half a pair, or
// with something in what their kinds do not use.
func TestStrangeConstants(t *testing.T) {
	t.Parallel()
	l := ordinary(t)
	types := []string{"bool", "i8", "i16", "i32", "i64", "double", "string", "binary", "a.E", "a.Empty", "list<i8>", "set<i8>", "map<i8,i8>", "a.S", "a.U", "a.X", "a.None", "", "a.Z"}
	for _, k := range []int{0, -1, 7, 8, 100, api.List, api.Struct, math.MaxInt, math.MinInt, 1<<32 + api.ConInt, -api.ConMap, 256 + api.ConText} {
		for _, typ := range types {
			for _, c := range []api.Const{{Kind: k}, {Kind: k, N: 1, D: 1, S: "K"}, {Kind: k, S: "true", L: []api.Const{whole(1), whole(1)}}} {
				wantEval(t, l, "a", typ, c, api.Value{}, api.ErrValue)
			}
		}
	}
	for _, typ := range types {
		wantEval(t, l, "a", typ, table(whole(1)), api.Value{}, api.ErrValue)
		wantEval(t, l, "a", typ, table(quoted("x"), whole(1), quoted("y")), api.Value{}, api.ErrValue)
	}
	odd := api.Const{N: 1, D: 1 << 62, S: "K", L: []api.Const{whole(2), whole(3)}}
	for _, x := range []struct {
		kind int
		typ  string
		v    api.Value
	}{
		{api.ConInt, "i8", i8(1)}, {api.ConInt, "double", double(1)}, {api.ConDouble, "double", double(2)}, {api.ConText, "string", word("K")}, {api.ConName, "i8", i8(7)}, {api.ConList, "list<i8>", i8s(api.List, 2, 3)}, {api.ConMap, "map<i8,i8>", i8s(api.Map, 2, 3)},
	} {
		c := odd
		c.Kind = x.kind
		wantEval(t, l, "a", x.typ, c, x.v, api.OK)
	}
}

// TestTypesThatAreNone has texts that are no whole types: nothing has a value of them.
func TestTypesThatAreNone(t *testing.T) {
	t.Parallel()
	l := of(t, "a", "include 'b' typedef i8 T typedef S V const i8 K = 1 service P {} enum E { A } struct S {} struct a {}", "b", "struct S {} enum E { A }")
	for _, typ := range []string{"", " ", "list<", "list<i8", "i8 ", "Z", "a.Z", "c.S", "a.T", "a.V", "a.K", "a.P", "T", "S", "E", "a", "b", "a.", ".S", "a.b.S", "a.E.A", "void", "byte", strings.Repeat("list<", api.MaxNest+1) + "i8" + strings.Repeat(">", api.MaxNest+1)} {
		wantError(t, l, typ, api.ErrValue, "1", "0", "1.5", "'a'", "[]", "{}", "[1]", "{'x': 1}", "true", "E.A", "b.E.A", "K")
		wantError(t, l, typ, api.ErrName, "Z")
		wantError(t, l, "list<"+typ+">", api.ErrValue, "1", "[1]", "[{}]", "[E.A]", "[K]")
	}
	wantValue(t, l, "a.a", "{}", rec(nil))
	wantEval(t, l, "z", "b.S", table(), rec(nil), api.OK)
	wantEval(t, bundle.Loaded{}, "a", "a.S", table(), api.Value{}, api.ErrValue)
	wantEval(t, bundle.Loaded{}, "", "list<i8>", row(whole(1)), i8s(api.List, 1), api.OK)
}

// evaluated is what Eval answers for a list of elements of a type.
func evaluated(l bundle.Loaded, element string, c api.Const) (api.Value, api.Errno) {
	return konst.Eval(l, "a", "list<"+element+">", c)
}

// wantValueOf checks what follows: what is answered without an error is a value of the type.
func wantValueOf(t *testing.T, s api.Schema, typ string, v api.Value) {
	t.Helper()
	if v.Kind != 0 && !value.Check(s, typ, v) {
		t.Errorf("%s is no %s", cut(v), typ)
	}
}
