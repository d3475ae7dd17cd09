package value_test

import (
	"fmt"
	"reflect"
	"strings"
	"testing"

	"assayer/api"
	"assayer/value"
)

// named is a schema with structs and enums of those names, each with something of its own.
func named(structs, enums []string) (s api.Schema) {
	for i, name := range structs {
		s.Structs = append(s.Structs, api.SStruct{Kind: api.DefStruct + i%3, Name: name, Fields: []api.SField{field(i, i%3, "i8", "f"+name)}})
	}
	for i, name := range enums {
		s.Enums = append(s.Enums, api.SEnum{Name: name, Members: []api.Member{member("M"+name, int64(i))}})
	}
	return s
}

// wantStruct checks Struct, and that what it tells is the struct at that place; none if it is -1.
func wantStruct(t *testing.T, s api.Schema, name string, at int) {
	t.Helper()
	var want api.SStruct
	if at >= 0 {
		want = s.Structs[at]
	}
	x, ok := value.Struct(s, name)
	if ok != (at >= 0) || !reflect.DeepEqual(plain(x), plain(want)) {
		t.Errorf("Struct of %.50q among %d: %.200s, %t", name, len(s.Structs), fmt.Sprint(x), ok)
	}
}

func wantEnum(t *testing.T, s api.Schema, name string, at int) {
	t.Helper()
	var want api.SEnum
	if at >= 0 {
		want = s.Enums[at]
	}
	x, ok := value.Enum(s, name)
	if ok != (at >= 0) || !reflect.DeepEqual(plain(x), plain(want)) {
		t.Errorf("Enum of %.50q among %d: %.200s, %t", name, len(s.Enums), fmt.Sprint(x), ok)
	}
}

func wantKind(t *testing.T, s api.Schema, typ string, want int) {
	t.Helper()
	if k := value.Kind(s, typ); k != want {
		t.Errorf("Kind of %.50q: %d, not %d", typ, k, want)
	}
}

// TestNamesOfEachLength has schemas of none to some names: each name, and those between
// them, ahead of all and behind all.
func TestNamesOfEachLength(t *testing.T) {
	for n := range 40 {
		var names []string
		for i := range n {
			names = append(names, fmt.Sprintf("a.n%02d", 2*i+1))
		}
		structs, enums := named(names, nil), named(nil, names)
		for i := range 2*n + 3 {
			name, at := fmt.Sprintf("a.n%02d", i), -1
			if i%2 == 1 && i/2 < n {
				at = i / 2
			}
			wantStruct(t, structs, name, at)
			wantEnum(t, structs, name, -1)
			wantStruct(t, enums, name, -1)
			wantEnum(t, enums, name, at)
			wantKind(t, structs, name, map[bool]int{true: api.Struct}[at >= 0])
			wantKind(t, enums, name, map[bool]int{true: api.Enum}[at >= 0])
		}
		for _, name := range []string{"", "a", "a.", "A", "a.n", "a.n0", "a.n011", "a.n 1", "b.n01", "a.m99", "a.o00", "\x00", "\xff", "z", "n01"} {
			wantStruct(t, structs, name, -1)
			wantEnum(t, enums, name, -1)
			wantKind(t, structs, name, 0)
			wantKind(t, enums, name, 0)
		}
	}
}

// TestAlikeNames has names of which one is the beginning of another.
func TestAlikeNames(t *testing.T) {
	names := []string{"A", "A.", "A.A", "AA", "B", "a", "a.", "a.A", "a.AA", "a.B", "a.a", "a.b", "aa", "b"}
	s := named(names, names)
	for i, name := range names {
		wantStruct(t, s, name, i)
		wantEnum(t, s, name, i)
		for _, other := range []string{name + "x", name + ".x", "x" + name, name + "\x00", name[:len(name)-1] + "\x01"} {
			wantStruct(t, s, other, -1)
			wantEnum(t, s, other, -1)
		}
	}
}

func TestOneOfEach(t *testing.T) {
	s := schema()
	for i, x := range s.Structs {
		wantStruct(t, s, x.Name, i)
		if x.Name != "a.Both" {
			wantEnum(t, s, x.Name, -1)
		}
		wantKind(t, s, x.Name, api.Struct)
	}
	for i, x := range s.Enums {
		wantEnum(t, s, x.Name, i)
		if x.Name != "a.Both" {
			wantStruct(t, s, x.Name, -1)
			wantKind(t, s, x.Name, api.Enum)
		}
	}
	wantStruct(t, s, "", -1)
	wantEnum(t, s, "", -1)
	// The names that services, methods, fields and members have are no types.
	s.Services = []api.SService{{Name: "a.S", Methods: []api.SMethod{{Name: "m", Ret: "void"}}}}
	for _, name := range []string{"a.S", "m", "b", "A", "a.E.A", "a.All.b"} {
		wantStruct(t, s, name, -1)
		wantEnum(t, s, name, -1)
		wantKind(t, s, name, 0)
	}
	wantStruct(t, api.Schema{}, "a.All", -1)
	wantEnum(t, api.Schema{}, "a.E", -1)
}

// TestWholeStructs has each part of a struct and of an enum in the answer, with defaults.
func TestWholeStructs(t *testing.T) {
	d := rec([]int{-1, 1}, i8(3), list(word("x"), pairs(i8(1), set(word("y")))))
	s := api.Schema{
		Enums:   []api.SEnum{{Name: "a.E", Members: []api.Member{{Name: "A", N: -3}, {Name: "B", Has: true, N: 5}}}, {Name: "a.F"}},
		Structs: []api.SStruct{{Kind: api.DefMaybe, Name: "a.S", Fields: []api.SField{{ID: -7, Req: 2, Type: "map<i8,a.E>", Name: "n", HasInit: true, Init: d}, {ID: 7, Req: 1, Type: "", Name: "o", Init: word("not said")}}}, {Kind: 99, Name: "a.T"}},
	}
	for i, x := range s.Structs {
		wantStruct(t, s, x.Name, i)
	}
	for i, x := range s.Enums {
		wantEnum(t, s, x.Name, i)
	}
}

func TestKinds(t *testing.T) {
	s := schema()
	for typ, v := range simple {
		wantKind(t, s, typ, v.Kind)
		wantKind(t, api.Schema{}, typ, v.Kind)
	}
	for typ, want := range map[string]int{
		"a.E": api.Enum, "a.None": api.Enum, "b.Wide": api.Enum, "a.All": api.Struct, "a.U": api.Struct, "b.X": api.Struct, "c.Never": api.Struct, "a.Both": api.Struct,
		"list<a.E>": api.List, "list<a.Z>": api.List, "set<z>": api.Set, "map<z,a.Z>": api.Map, "map<a.U,list<Z>>": api.Map, "list<list<set<map<q,r.s>>>>": api.List,
		"": 0, "a.Z": 0, "E": 0, "All": 0, "a.e": 0, "a.E.A": 0, "a": 0, "a.": 0, "void": 0, "true": 0, "Bool": 0, "byte": 0,
		"list": 0, "list<": 0, "list<>": 0, "list<i8": 0, "list<i8>>": 0, "list<i8> ": 0, " i8": 0, "set<i8,i8>": 0, "map<i8>": 0, "map<i8,>": 0, "map<i8,i8,i8>": 0, "list< i8>": 0, "list<a.>": 0, "list<list<>>": 0, "bool.a": 0, "list.a": 0,
		"a.E>": 0, "a.E ": 0, "a.E\x00": 0, "\xff": 0,
	} {
		wantKind(t, s, typ, want)
	}
	deep := func(n int) string { return strings.Repeat("set<", n) + "i8" + strings.Repeat(">", n) }
	wantKind(t, s, deep(api.MaxNest), api.Set)
	wantKind(t, s, deep(api.MaxNest+1), 0)
	wantKind(t, s, "list<"+deep(api.MaxNest)+">", 0)
}

// TestNamesThatAreNoTypes has a schema made by hand with names that no type has: Struct
// and Enum find them, but no text of a type does.
func TestNamesThatAreNoTypes(t *testing.T) {
	names := []string{"", " ", "a b", "a.", "i8", "list", "list<i8>", "\xff"}
	for _, s := range []api.Schema{named(names, nil), named(nil, names), named(names, names)} {
		for i, name := range names {
			if len(s.Structs) > 0 {
				wantStruct(t, s, name, i)
			}
			if len(s.Enums) > 0 {
				wantEnum(t, s, name, i)
			}
			want := simple[name].Kind
			wantKind(t, s, name, want)
			if value.Check(s, name, rec(nil)) || value.Check(s, name, num(api.Enum, int64(i))) || value.Check(s, name, num(0, int64(i))) {
				t.Errorf("Check of a value as %q: true", name)
			}
		}
	}
}

// TestKindIsThatOfEachType has what follows: a value has the kind of each type it is of.
func TestKindIsThatOfEachType(t *testing.T) {
	s := schema()
	types := []string{"a.All", "a.Both", "a.E", "a.Empty", "a.Must", "a.None", "a.U", "b.Wide", "b.X", "c.Deep", "a.Z", "", "list<a.Z>", "set<a.Z>", "map<a.Z,i8>", "list<"}
	values := []api.Value{{}, num(1, 1), num(api.Enum, 1), num(api.Enum, 7), rec(nil), rec([]int{2}, word("")), list(), set(), pairs()}
	for typ, v := range simple {
		types, values = append(types, typ), append(values, v)
	}
	held := 0
	for _, typ := range types {
		for _, v := range values {
			if value.Check(s, typ, v) {
				held++
				wantKind(t, s, typ, v.Kind)
			}
		}
	}
	if held < 20 {
		t.Errorf("%d values are of a type", held)
	}
}
