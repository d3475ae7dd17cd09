package konst_test

import (
	"testing"

	"assayer/api"
	"assayer/bundle"
)

// records is files with structs of all kinds, whose types are written in two files.
func records(t *testing.T) bundle.Loaded {
	t.Helper()
	return of(t, "a", "include 'b' typedef i8 T const i8 K = 1 enum E { A = 1 } struct None {} "+
		"struct S { 5: i8 five, T minus, 1: string one, i16 least } "+
		"struct Must { 1: required i8 a, 2: optional i8 b, 3: i8 c, 4: required list<i8> d } "+
		"union U { 1: i8 p, 2: string q, U r } union Hard { 1: required i8 p, 2: i8 q } union Never {} exception X { 1: required string why 2: optional E what } "+
		"struct Init { 1: required i8 x = 5, 2: i8 y = 6 } struct Deep { 1: Deep d, 2: list<Deep> l, 3: map<i8,Deep> m, 4: S s, 5: b.S t, 6: U u }",
		"b", "include 'c' typedef string T const i8 K = 2 struct S { 1: T t, 2: c.T u, 3: list<c.E> v, 4: b.T w, 5: S x }",
		"c", "typedef set<E> T enum E { A = 3, B = 4 }")
}

func TestFieldsOfStructs(t *testing.T) {
	t.Parallel()
	l := records(t)
	wantValue(t, l, "a.None", "{}", rec(nil))
	wantValue(t, l, "a.S", "{}", rec(nil))
	wantValue(t, l, "a.S", "{'five': 3}", rec([]int{5}, i8(3)))
	wantValue(t, l, "a.S", "{'minus': 3}", rec([]int{-1}, i8(3)))
	wantValue(t, l, "a.S", "{'five': 1, 'least': 2, 'one': 'x', 'minus': 4}", rec([]int{-2, -1, 1, 5}, num(api.I16, 2), i8(4), word("x"), i8(1)))
	wantValue(t, l, "a.S", "{'minus': 4, 'least': 300}", rec([]int{-2, -1}, num(api.I16, 300), i8(4)))
	wantValue(t, l, "a.X", "{'what': E.A, 'why': 'y'}", rec([]int{1, 2}, word("y"), num(api.Enum, 1)))
	wantValue(t, l, "a.Deep", "{'u': {'q': ''}, 'd': {'d': {}}, 'm': {2: {}, 1: {'l': []}}, 'l': [{}, {'d': {}}]}",
		rec([]int{1, 2, 3, 6}, rec([]int{1}, rec(nil)), list(rec(nil), rec([]int{1}, rec(nil))), pairs(i8(1), rec([]int{2}, list()), i8(2), rec(nil)), rec([]int{2}, word(""))))
}

// TestTypesAreOfTheStructsFile has types that are another one in the file of the constant,
// and values whose names are of that file.
func TestTypesAreOfTheStructsFile(t *testing.T) {
	t.Parallel()
	l := records(t)
	wantValue(t, l, "b.S", "{'t': 'x', 'w': 'y'}", rec([]int{1, 4}, word("x"), word("y")))
	wantValue(t, l, "b.S", "{'u': [4, 3, 4], 'v': [4, 3]}", rec([]int{2, 3}, set(num(api.Enum, 3), num(api.Enum, 4)), list(num(api.Enum, 4), num(api.Enum, 3))))
	wantValue(t, l, "b.S", "{'x': {'x': {'t': ''}}}", rec([]int{5}, rec([]int{5}, rec([]int{1}, word("")))))
	wantError(t, l, "b.S", api.ErrValue, "{'t': 1}", "{'u': [1]}", "{'u': 'x'}", "{'u': [E.A]}")
	wantError(t, l, "b.S", api.ErrName, "{'u': [c.E.A]}", "{'five': 1}")
	wantValue(t, l, "a.Deep", "{'s': {'five': K}, 't': {'t': 'x'}}", rec([]int{4, 5}, rec([]int{5}, i8(1)), rec([]int{1}, word("x"))))
	wantEval(t, l, "b", "a.S", table(quoted("five"), named("K")), rec([]int{5}, i8(2)), api.OK)
	wantEval(t, l, "c", "b.S", table(quoted("v"), row(named("E.A"))), rec([]int{3}, list(num(api.Enum, 3))), api.OK)
	wantEval(t, l, "c", "a.S", table(quoted("five"), named("K")), api.Value{}, api.ErrName)
	wantEval(t, l, "z", "a.S", table(quoted("five"), whole(1)), rec([]int{5}, i8(1)), api.OK)
}

func TestRequiredFields(t *testing.T) {
	t.Parallel()
	l := records(t)
	wantValue(t, l, "a.Must", "{'a': 1, 'd': []}", rec([]int{1, 4}, i8(1), list()))
	wantValue(t, l, "a.Must", "{'d': [1], 'c': 2, 'b': 3, 'a': 4}", rec([]int{1, 2, 3, 4}, i8(4), i8(3), i8(2), i8s(api.List, 1)))
	wantError(t, l, "a.Must", api.ErrReq, "{}", "{'a': 1}", "{'d': []}", "{'b': 1, 'c': 1}", "{'a': 1, 'b': 1, 'c': 1}", "{'d': [], 'b': 1, 'c': 1}")
	wantError(t, l, "a.X", api.ErrReq, "{}", "{'what': 1}")
	wantError(t, l, "list<a.X>", api.ErrReq, "[{'why': ''}, {}]")
	wantError(t, l, "map<i8,a.X>", api.ErrReq, "{1: {}, 1: {'why': ''}}")
	wantError(t, l, "a.Init", api.ErrReq, "{}", "{'y': 1}") // a default does not stand for it
	wantValue(t, l, "a.Init", "{'x': 1}", rec([]int{1}, i8(1)))
}

func TestUnions(t *testing.T) {
	t.Parallel()
	l := records(t)
	wantValue(t, l, "a.U", "{'p': 1}", rec([]int{1}, i8(1)))
	wantValue(t, l, "a.U", "{'q': ''}", rec([]int{2}, word("")))
	wantValue(t, l, "a.U", "{'r': {'r': {'p': K}}}", rec([]int{-1}, rec([]int{-1}, rec([]int{1}, i8(1)))))
	wantError(t, l, "a.U", api.ErrReq, "{}", "{'p': 1, 'q': 'a'}", "{'q': 'a', 'p': 1, 'r': {'p': 1}}", "{'r': {}}", "{'r': {'p': 1, 'q': 'a'}}")
	wantError(t, l, "a.U", api.ErrTwice, "{'p': 1, 'p': 1}")
	wantValue(t, l, "a.Hard", "{'p': 1}", rec([]int{1}, i8(1)))
	wantError(t, l, "a.Hard", api.ErrReq, "{}", "{'q': 1}", "{'q': 1, 'p': 1}")
	wantError(t, l, "a.Never", api.ErrReq, "{}")
	wantError(t, l, "a.Never", api.ErrName, "{'p': 1}")
}

func TestOtherConstantsOfStructs(t *testing.T) {
	t.Parallel()
	l := records(t)
	for _, typ := range []string{"a.None", "a.S", "a.Must", "a.U", "a.X", "a.Never", "b.S"} {
		wantError(t, l, typ, api.ErrValue, "[]", "[1]", "1", "0", "1.0", "'x'", "''", "true", "E.A", "K", "[['one', 'x']]", "[{}]")
		wantError(t, l, typ, api.ErrName, "Z", "S", "None")
	}
}

func TestKeysOfStructs(t *testing.T) {
	t.Parallel()
	l := records(t)
	wantError(t, l, "a.S", api.ErrValue, "{1: 1}", "{5: 1}", "{one: 'x'}", "{K: 1}", "{1.5: 1}", "{['one']: 'x'}", "{{}: 1}", "{true: 1}", "{E.A: 1}", "{Z: Z}")
	wantError(t, l, "a.S", api.ErrName, "{'z': 1}", "{'': 1}", "{'One': 'x'}", "{'one ': 'x'}", "{'on': 'x'}", "{'1': 'x'}", "{'a.one': 'x'}", "{'\xff': 1}")
	wantError(t, l, "a.S", api.ErrTwice, "{'one': 'x', 'one': 'x'}", "{'one': 'x', 'five': 1, 'minus': 1, 'one': 'y'}", "{'minus': 1, 'minus': 1}")
}

// faultyRecords is structs whose fields have errors, of their numbers, their names or their
// types.
func faultyRecords(t *testing.T) bundle.Loaded {
	t.Helper()
	l := of(t, "a", "struct Range { 1: required i8 a, 32768: i8 b } union Twice { 1: i8 a, 1: i8 b } exception Names { 1: i8 a, 2: i8 a } struct Zero { 0: i8 a } "+
		"struct T { 1: i8 ok, 2: Z name, 3: list<P> kind, 4: C cycle, 5: set<T> key, 6: D deep, 7: i8 form, 8: required i8 must } service P {} typedef list<C> C typedef "+
		"list<list<list<list<list<list<list<list<list<list<list<list<i8>>>>>>>>>>>> E typedef list<E> D")
	l.Files[0].Defs[4].Fields[6].Type = "list<"
	return l
}

// TestErrorsOfFieldNumbers has them ahead of all errors of the pairs, and behind that of a
// constant that is no map.
func TestErrorsOfFieldNumbers(t *testing.T) {
	t.Parallel()
	l := faultyRecords(t)
	for name, e := range map[string]api.Errno{"Range": api.ErrRange, "Twice": api.ErrTwice, "Names": api.ErrTwice, "Zero": api.ErrRange} {
		wantError(t, l, "a."+name, e, "{}", "{'a': 1}", "{1: 1}", "{'z': 1}", "{'a': 200}", "{'a': 1, 'a': 1}", "{'a': Z}")
		wantError(t, l, "a."+name, api.ErrValue, "[]", "1", "'a'", "true")
		wantError(t, l, "a."+name, api.ErrName, "Z")
		wantError(t, l, "list<a."+name+">", e, "[{}]", "[{}, 1]")
	}
}

// faultyFields is the fields of faultyRecords with an error of alias.Type.
func faultyFields() map[string]api.Errno {
	return map[string]api.Errno{"name": api.ErrName, "kind": api.ErrKind, "cycle": api.ErrCycle, "key": api.ErrKey, "deep": api.ErrDepth, "form": api.ErrForm}
}

// TestErrorsOfFieldTypes has those of fields that are there alone.
func TestErrorsOfFieldTypes(t *testing.T) {
	t.Parallel()
	l := faultyRecords(t)
	wantValue(t, l, "a.T", "{'must': 1, 'ok': 2}", rec([]int{1, 8}, i8(2), i8(1)))
	for name, e := range faultyFields() {
		wantError(t, l, "a.T", e, "{'"+name+"': 1}", "{'must': 1, '"+name+"': Z}", "{'must': 1, '"+name+"': [], '"+name+"': []}", "{'"+name+"': 1, 'z': 1}", "{'"+name+"': 1, 1: 1}")
		wantError(t, l, "a.T", api.ErrValue, "{1: 1, '"+name+"': 1}", "{'ok': 200, '"+name+"': 1}")
		wantError(t, l, "a.T", api.ErrName, "{'z': 1, '"+name+"': 1}", "{'ok': Z, '"+name+"': 1}")
		wantError(t, l, "a.T", api.ErrTwice, "{'ok': 1, 'ok': 1, '"+name+"': 1}")
	}
}

// TestTheFirstErrorOfAStruct has two errors each: those of an earlier pair count, of one
// pair the first one that the chapter names, and a missing field at the end.
func TestTheFirstErrorOfAStruct(t *testing.T) {
	t.Parallel()
	l := records(t)
	faults := map[string]api.Errno{"1: 1": api.ErrValue, "'z': 1": api.ErrName, "'one': 'y'": api.ErrTwice, "'five': 200": api.ErrValue, "'five': Z": api.ErrName, "'five': 'x'": api.ErrValue}
	for first, e := range faults {
		for second := range faults {
			wantError(t, l, "a.S", e, "{'one': 'x', "+first+", "+second+"}", "{'minus': 1, 'one': 'x', "+first+", 'least': 1, "+second+"}")
		}
	}
	wantError(t, l, "a.S", api.ErrTwice, "{'five': 1, 'five': 200}", "{'five': 1, 'five': Z}", "{'five': 1, 'five': 'x'}")
	wantError(t, l, "a.S", api.ErrName, "{'z': Z}", "{'z': 200, 'z': 1}")
	wantError(t, l, "a.S", api.ErrValue, "{1: Z}", "{five: 1, five: 1}")
	wantError(t, l, "a.Must", api.ErrValue, "{'a': 200}", "{1: 1}", "{'a': 1, 'b': 200}")
	wantError(t, l, "a.Must", api.ErrName, "{'z': 1}", "{'a': Z}")
	wantError(t, l, "a.Must", api.ErrTwice, "{'a': 1, 'a': 1}")
	wantError(t, l, "a.U", api.ErrValue, "{'p': 1, 'q': 2}", "{'p': 200}")
	wantError(t, l, "a.U", api.ErrName, "{'p': 1, 'z': 2}")
}
