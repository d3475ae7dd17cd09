package konst_test

import (
	"math"
	"strings"
	"testing"

	"assayer/api"
	"assayer/bundle"
)

// TestNamesOfConstants has constants of the file itself and of those that it includes,
// with all names that they have.
func TestNamesOfConstants(t *testing.T) {
	t.Parallel()
	l := of(t, "a", "include 'b' const i8 K = 1 const i8 Via = b.K", "b", "include 'c' const i8 K = 2 const i8 Via = c.K const i8 Own = K", "c", "const i8 K = 3")
	for name, n := range map[string]int64{"K": 1, "a.K": 1, "b.K": 2, "Via": 2, "a.Via": 2, "b.Via": 3, "b.Own": 2} {
		wantValue(t, l, "i8", name, i8(n))
	}
	wantError(t, l, "i8", api.ErrName, "c.K", "b.c.K", "Own", "d.K", "K.K", "a.b.K", "k")
	for file, n := range map[string]int64{"a": 1, "b": 2, "c": 3} {
		wantEval(t, l, file, "i8", named("K"), i8(n), api.OK)
		wantEval(t, l, file, "list<i8>", row(named("K"), named(file+".K")), i8s(api.List, n, n), api.OK)
	}
	wantEval(t, l, "c", "i8", named("b.K"), api.Value{}, api.ErrName)
	wantEval(t, l, "d", "i8", named("K"), api.Value{}, api.ErrName)
	for _, s := range []string{"", ".", ".K", "K.", "a..K", "a.K ", "\xff", strings.Repeat("K", 1<<20), strings.Repeat("a.", 1<<20) + "K"} {
		wantEval(t, l, "a", "i8", named(s), api.Value{}, api.ErrName)
		wantEval(t, bundle.Loaded{}, "a", "i8", named(s), api.Value{}, api.ErrName)
	}
}

// TestTheDeclaredTypeHasNoEffect has constants whose own types do not have their values,
// or are none.
func TestTheDeclaredTypeHasNoEffect(t *testing.T) {
	t.Parallel()
	l := of(t, "a", "const string A = 7 const i8 B = 300 const Z C = 'x' const set<i8> D = [2, 1, 2] const i8 E = {1: 2} const bool F = E.x const a.b.c G = H const double H = 5")
	wantValue(t, l, "i8", "A", i8(7))
	wantError(t, l, "string", api.ErrValue, "A")
	wantValue(t, l, "i16", "B", num(api.I16, 300))
	wantError(t, l, "i8", api.ErrValue, "B")
	wantValue(t, l, "string", "C", word("x"))
	wantValue(t, l, "list<i8>", "D", i8s(api.List, 2, 1, 2))
	wantValue(t, l, "set<i8>", "D", i8s(api.Set, 1, 2))
	wantValue(t, l, "map<i8,i8>", "E", i8s(api.Map, 1, 2))
	wantError(t, l, "bool", api.ErrName, "F")
	wantValue(t, l, "i8", "G", i8(5))
	wantValue(t, l, "double", "H", double(5))
	wantError(t, l, "map<i8,i8>", api.ErrValue, "D")
	l = of(t, "a", "const i8 T = true const bool One = 1")
	wantValue(t, l, "bool", "T", num(api.Bool, 1))
	wantError(t, l, "i8", api.ErrValue, "T")
	wantValue(t, l, "i8", "One", i8(1))
}

// TestNamesAreOfTheConstantsFile has names that denote something else in another file:
// what a constant is made of is written in its own file.
func TestNamesAreOfTheConstantsFile(t *testing.T) {
	t.Parallel()
	l := of(t, "a", "include 'b' const i8 K = 1 const i8 Only = 4 enum E { A = 10 } struct S { 1: list<i8> x }", "b", "include 'c' const i8 K = 2 const list<i8> L = [K, c.K, E.A, b.K] const i8 Z = Only enum E { A = 20 }", "c", "const i8 K = 3")
	wantValue(t, l, "list<i8>", "b.L", i8s(api.List, 2, 3, 20, 2))
	wantValue(t, l, "list<list<i8>>", "[[K, E.A], b.L, [K, E.A]]", list(i8s(api.List, 1, 10), i8s(api.List, 2, 3, 20, 2), i8s(api.List, 1, 10)))
	wantValue(t, l, "a.S", "{'x': [b.K, K]}", rec([]int{1}, i8s(api.List, 2, 1)))
	wantValue(t, l, "a.S", "{'x': b.L}", rec([]int{1}, i8s(api.List, 2, 3, 20, 2)))
	wantError(t, l, "i8", api.ErrName, "b.Z")
}

func TestMembers(t *testing.T) {
	t.Parallel()
	l := ordinary(t)
	wantValue(t, l, "a.E", "E.A", num(api.Enum, 5))
	wantValue(t, l, "a.E", "a.E.C", num(api.Enum, -2))
	wantValue(t, l, "b.F", "b.F.H", num(api.Enum, 300))
	wantEval(t, l, "b", "b.F", named("F.I"), num(api.Enum, 70000), api.OK)
	wantError(t, l, "a.E", api.ErrValue, "b.F.G")
	wantError(t, l, "b.F", api.ErrValue, "E.A")
	wantError(t, l, "bool", api.ErrValue, "E.A", "b.F.G")
	wantError(t, l, "a.Empty", api.ErrValue, "E.A")
	wantError(t, l, "i8", api.ErrName, "E.D", "E", "a.E", "F.G", "b.E.A", "Empty.A", "E.A.A", "S.x", "b.F", "E.a")
	wantError(t, l, "a.E", api.ErrName, "A", "E.D", "a.A")
	for _, typ := range []string{"double", "string", "binary", "list<i8>", "set<i8>", "map<i8,i8>", "a.S", "a.U", "a.None", "list<a.E>"} {
		wantError(t, l, typ, api.ErrValue, "E.A", "a.E.C", "b.F.G")
	}
	wantValue(t, l, "i8", "b.F.G", i8(3))
	wantError(t, l, "i8", api.ErrValue, "b.F.H", "b.F.I")
	wantValue(t, l, "i16", "b.F.H", num(api.I16, 300))
	wantError(t, l, "i16", api.ErrValue, "b.F.I")
	wantValue(t, l, "i32", "b.F.I", num(api.I32, 70000))
	wantValue(t, l, "i64", "b.F.I", num(api.I64, 70000))
}

func TestBoundsOfMembersAsIntegers(t *testing.T) {
	t.Parallel()
	for _, x := range integers() {
		for _, n := range near() {
			if n < math.MinInt32 || n > math.MaxInt32 {
				continue
			}
			l := bundle.Loaded{Names: []string{"a"}, Files: []api.File{{Defs: []api.Def{enum(with("A", n))}}}}
			want, e := num(x.kind, n), api.OK
			if n < x.least || n > x.great {
				want, e = api.Value{}, api.ErrValue
			}
			wantEval(t, l, "a", x.typ, named("E.A"), want, e)
			wantEval(t, l, "a", "a.E", named("E.A"), num(api.Enum, n), api.OK)
			wantEval(t, l, "a", "a.E", whole(n), num(api.Enum, n), api.OK)
		}
	}
	l := bundle.Loaded{Names: []string{"a"}, Files: []api.File{{Defs: []api.Def{enum(with("A", 0), with("B", 1))}}}}
	wantError(t, l, "bool", api.ErrValue, "E.A", "E.B")
}

// TestConstantsAheadOfMembers has a name that could be of both: a file e has a constant A,
// and the file a an enum e with a member A.
func TestConstantsAheadOfMembers(t *testing.T) {
	t.Parallel()
	l := of(t, "a", "include 'e' enum e { A = 5, B = 6, C = 7 }", "e", "const i8 A = 1 struct B {}")
	wantValue(t, l, "i8", "e.A", i8(1))
	wantError(t, l, "a.e", api.ErrValue, "e.A")
	wantValue(t, l, "i8", "e.B", i8(6))
	wantValue(t, l, "a.e", "e.C", num(api.Enum, 7))
	wantValue(t, l, "a.e", "a.e.A", num(api.Enum, 5))
}

// faultyEnums is enums with each error, of which a member is named, and a good one.
func faultyEnums(t *testing.T) bundle.Loaded {
	t.Helper()
	return of(t, "a", "enum Empty {} enum Range { A = 1, B = 2147483648 } enum Twice { A = 1, B = 1 } enum Names { A = 1, A = 2 } enum Good { A = 1 } struct S { 1: Range r, 2: Empty e }")
}

// TestErrorsOfEnums has them ahead of what a type has to do with a member, and behind what
// kinds of constants an enum has.
func TestErrorsOfEnums(t *testing.T) {
	t.Parallel()
	l := faultyEnums(t)
	for name, e := range map[string]api.Errno{"Range": api.ErrRange, "Twice": api.ErrTwice, "Names": api.ErrTwice} {
		for _, typ := range []string{"a." + name, "i8", "i64", "bool", "double", "string", "list<i8>", "a.S", "a.Good", "a.Z", ""} {
			wantError(t, l, typ, e, name+".A", "a."+name+".A")
		}
		wantError(t, l, "list<a."+name+">", e, "[1]", "[99]", "["+name+".A, 'x']")
		wantError(t, l, "a."+name, e, "1", "99")
		wantError(t, l, "a."+name, api.ErrValue, "1.0", "'A'", "[]", "{}", "true", "Good.A")
		wantError(t, l, "a."+name, api.ErrName, name+".C", "A")
	}
	wantError(t, l, "a.Empty", api.ErrEmpty, "0", "1")
	wantError(t, l, "a.Empty", api.ErrValue, "''", "0.0", "[]", "false", "Good.A")
	wantError(t, l, "a.Empty", api.ErrName, "Empty.A")
	wantError(t, l, "a.S", api.ErrRange, "{'r': 1}", "{'r': Range.A, 'z': 1}")
	wantError(t, l, "a.S", api.ErrEmpty, "{'e': 1}")
	wantValue(t, l, "a.S", "{}", rec(nil))
	wantError(t, l, "a.Good", api.ErrRange, "Range.A")
	wantValue(t, l, "a.Good", "Good.A", num(api.Enum, 1))
}

// TestCycles has constants that lead back to themselves, from each place of a constant.
func TestCycles(t *testing.T) {
	t.Parallel()
	l := of(t, "a", "include 'b' const i8 A = A const i8 B = C const i8 C = D const i8 D = a.B const i8 E = [1, E] const i8 F = {1: F} const i8 G = {G: 1} const i8 H = {'x': H} const i8 I = [[], [J]] const i8 J = {1: I} struct S { 1: S x 2: i8 y } const i8 K = [1, 2, D] const i8 L = b.A const i8 M = {'y': 1, 'x': M}",
		"b", "const i8 A = B const i8 B = b.A const i8 C = C")
	wantError(t, l, "i8", api.ErrCycle, "A", "a.A", "B", "C", "D", "b.A", "b.B", "b.C", "L")
	for _, typ := range []string{"string", "list<i8>", "a.S", "a.Z", ""} {
		wantError(t, l, typ, api.ErrCycle, "A", "B", "b.A")
	}
	wantError(t, l, "list<list<i8>>", api.ErrValue, "E", "I")
	wantError(t, l, "list<i8>", api.ErrCycle, "E", "[A]", "[1, C, 'x', Z]", "K")
	wantError(t, l, "list<i8>", api.ErrValue, "[1, 'x', C]")
	wantError(t, l, "map<i8,i8>", api.ErrCycle, "F", "G", "{A: Z}", "{1: D}", "{1: 1, 1: D}")
	wantError(t, l, "a.S", api.ErrCycle, "H", "M", "{'x': H}", "{'y': A, 'y': 1}", "{'x': {'x': {'x': M}}}")
	wantError(t, l, "list<list<map<i8,list<list<map<i8,i8>>>>>>", api.ErrCycle, "I", "[[J]]", "[[{1: I}]]")
}

// TestTheSameConstantAgain has constants that are named more than once, but never while
// they are being evaluated.
func TestTheSameConstantAgain(t *testing.T) {
	t.Parallel()
	l := of(t, "a", "include 'b' const i8 K = 1 const i8 L = [K, K, M, K] const i8 M = K const i8 N = [L, L] struct S { 1: i8 x 2: i8 y 3: S z } const i8 A = b.A const i8 B = [b.B]", "b", "const i8 A = 4 const i8 B = {'x': A, 'z': {'x': A, 'y': A}}")
	wantValue(t, l, "list<i8>", "[K, K, M, K, M, b.A, A]", i8s(api.List, 1, 1, 1, 1, 1, 4, 4))
	wantValue(t, l, "list<i8>", "L", i8s(api.List, 1, 1, 1, 1))
	wantValue(t, l, "list<list<i8>>", "N", list(i8s(api.List, 1, 1, 1, 1), i8s(api.List, 1, 1, 1, 1)))
	wantValue(t, l, "map<i8,i8>", "{K: K}", i8s(api.Map, 1, 1))
	wantValue(t, l, "i8", "A", i8(4)) // two constants of one name, in two files
	s := rec([]int{1, 3}, i8(4), rec([]int{1, 2}, i8(4), i8(4)))
	wantValue(t, l, "list<a.S>", "B", list(s))
	wantValue(t, l, "a.S", "{'z': b.B, 'x': b.A}", rec([]int{1, 3}, i8(4), s))
}

// TestOfTwoDefinitionsTheFirst has files with two definitions of one name.
func TestOfTwoDefinitionsTheFirst(t *testing.T) {
	t.Parallel()
	l := of(t, "a", "const i8 K = 1 const i8 K = K struct S {} struct S { 1: required i8 x } enum E { A = 1 } enum E { B = 2 }")
	wantValue(t, l, "i8", "K", i8(1))
	wantValue(t, l, "a.S", "{}", rec(nil))
	wantValue(t, l, "a.E", "1", num(api.Enum, 1))
	wantError(t, l, "a.E", api.ErrName, "E.B")
	wantError(t, l, "a.E", api.ErrValue, "2")
}
