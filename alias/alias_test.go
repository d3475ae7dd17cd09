package alias_test

import (
	"slices"
	"strconv"
	"strings"
	"testing"

	"assayer/alias"
	"assayer/api"
	"assayer/bundle"
	"assayer/kind"
)

const longName = "nnnnnnnnnnnnnnnnnnnnnnnnnnnnnnnnnnnnnnnn" // MaxName bytes

// of is a bundle that is loaded, of names and texts by turns; the first one is the root.
func of(t *testing.T, files ...string) bundle.Loaded {
	t.Helper()
	b := api.Bundle{Root: files[0]}
	for i := 0; i < len(files); i += 2 {
		b.Files = append(b.Files, api.Source{Name: files[i], Text: files[i+1]})
	}
	l, e, file, at := bundle.Load(b)
	if e != api.OK {
		t.Fatalf("Load(%.300v): %d, %q, %d", b, e, file, at)
	}
	return l
}

// answer is what Type answers.
type answer struct {
	whole string
	kind  int
	e     api.Errno
}

func ask(l bundle.Loaded, file, text string) (a answer) {
	a.whole, a.kind, a.e = alias.Type(l, file, text)
	return a
}

// wantAnswer checks what Type answers, twice.
func wantAnswer(t *testing.T, l bundle.Loaded, file, text string, want answer) {
	t.Helper()
	for range 2 {
		if got := ask(l, file, text); got != want {
			t.Errorf("Type in %.50q, %.50q, %.100q: %.100q, %d, %d, want %.100q, %d, %d", l.Names, file, text, got.whole, got.kind, got.e, want.whole, want.kind, want.e)
		}
	}
}

func wantError(t *testing.T, l bundle.Loaded, file, text string, e api.Errno) {
	t.Helper()
	wantAnswer(t, l, file, text, answer{e: e})
}

// keyKinds is the kinds of key types.
func keyKinds() []int {
	return []int{api.Bool, api.I8, api.I16, api.I32, api.I64, api.Double, api.String, api.Binary, api.Enum}
}

// wantType checks that Type answers a whole type, and what follows of it: Key is as its
// kind is, and its whole type is itself in each file from which its names can be found.
func wantType(t *testing.T, l bundle.Loaded, file, text, whole string, k int) {
	t.Helper()
	want := answer{whole: whole, kind: k}
	wantAnswer(t, l, file, text, want)
	if got := alias.Key(l, whole); got != slices.Contains(keyKinds(), k) {
		t.Errorf("Key in %.50q, %.100q: %t", l.Names, whole, got)
	}
	for i, from := range l.Names {
		if i < len(l.Files) && seesAll(from, l.Files[i], whole) {
			wantAnswer(t, l, from, whole, want)
		}
	}
}

// seesAll tells whether a file is or includes each one whose name is in a whole type.
func seesAll(name string, f api.File, whole string) bool {
	for _, n := range kind.Names(whole) {
		home, _, _ := strings.Cut(n, ".")
		if home != name && !slices.Contains(f.Includes, home) {
			return false
		}
	}
	return true
}

// word is the word of a base type, and its kind.
type word struct {
	text string
	kind int
}

func baseTypes() []word {
	return []word{{"bool", api.Bool}, {"i8", api.I8}, {"i16", api.I16}, {"i32", api.I32}, {"i64", api.I64}, {"double", api.Double}, {"string", api.String}, {"binary", api.Binary}}
}

func TestTheChaptersExample(t *testing.T) {
	t.Parallel()
	l := of(t, "a", "include 'b' typedef list<b.L> T", "b", "typedef set<string> L")
	wantType(t, l, "a", "T", "list<set<string>>", api.List)
	wantType(t, l, "a", "b.L", "set<string>", api.Set)
}

// TestBaseTypes has types without a name: they are the same in each file, even in one
// that is not there.
func TestBaseTypes(t *testing.T) {
	t.Parallel()
	loaded := of(t, "a", "include 'b' enum E { X }", "b", "")
	for _, l := range []bundle.Loaded{loaded, {}} {
		for _, file := range []string{"a", "b", "z", "", "i8", "a.b", longName} {
			for _, w := range baseTypes() {
				wantType(t, l, file, w.text, w.text, w.kind)
				wantType(t, l, file, "list<"+w.text+">", "list<"+w.text+">", api.List)
				wantType(t, l, file, "set<"+w.text+">", "set<"+w.text+">", api.Set)
				for _, v := range baseTypes() {
					text := "map<" + w.text + "," + v.text + ">"
					wantType(t, l, file, text, text, api.Map)
				}
			}
			for _, text := range []string{"list<list<i8>>", "list<set<i8>>", "list<map<i8,i16>>", "map<i8,list<i16>>", "map<i8,set<i16>>", "map<i8,map<i16,map<i32,double>>>"} {
				wantType(t, l, file, text, text, kindOf(text))
			}
		}
	}
}

// kindOf is the kind of the list, set or map whose text this is.
func kindOf(text string) int {
	k, _, _, _, _ := kind.Head(text)
	return k
}

// definitions is an enum, a struct, a union and an exception.
const definitions = "enum E { X } struct S { 1: i8 f } union U { 1: i8 f } exception X { 1: i8 f } "

// TestNamesOfEachKind has the whole names of what is no typedef, in all places of a type.
func TestNamesOfEachKind(t *testing.T) {
	t.Parallel()
	l := of(t, "a", "include 'b' "+definitions, "b", definitions)
	for _, x := range []struct{ file, name, whole string }{
		{"a", "E", "a.E"}, {"a", "a.E", "a.E"}, {"a", "b.E", "b.E"}, {"b", "E", "b.E"}, {"b", "b.E", "b.E"},
	} {
		wantType(t, l, x.file, x.name, x.whole, api.Enum)
		wantType(t, l, x.file, "set<"+x.name+">", "set<"+x.whole+">", api.Set)
		wantType(t, l, x.file, "map<"+x.name+","+x.name+">", "map<"+x.whole+","+x.whole+">", api.Map)
		for _, other := range []string{"S", "U", "X"} {
			name, whole := strings.Replace(x.name, "E", other, 1), strings.Replace(x.whole, "E", other, 1)
			wantType(t, l, x.file, name, whole, api.Struct)
			wantType(t, l, x.file, "list<"+name+">", "list<"+whole+">", api.List)
			wantType(t, l, x.file, "map<"+x.name+","+name+">", "map<"+x.whole+","+whole+">", api.Map)
			wantType(t, l, x.file, "map<i8,list<map<"+x.name+","+name+">>>", "map<i8,list<map<"+x.whole+","+whole+">>>", api.Map)
		}
	}
}

// TestKindsOfTypedefs has a typedef of each kind of type.
func TestKindsOfTypedefs(t *testing.T) {
	t.Parallel()
	types := []answer{
		{"list<i8>", api.List, 0}, {"set<a.E>", api.Set, 0}, {"map<string,a.S>", api.Map, 0},
		{"a.E", api.Enum, 0}, {"a.S", api.Struct, 0}, {"a.U", api.Struct, 0}, {"a.X", api.Struct, 0},
	}
	for _, w := range baseTypes() {
		types = append(types, answer{w.text, w.kind, 0})
	}
	for _, x := range types {
		for _, written := range []string{x.whole, strings.ReplaceAll(x.whole, "a.", "")} {
			l := of(t, "r", "include 'a' typedef a.T R", "a", definitions+"typedef "+written+" T typedef T V")
			for _, name := range []string{"T", "a.T", "V", "a.V"} {
				wantType(t, l, "a", name, x.whole, x.kind)
				wantType(t, l, "a", "list<"+name+">", "list<"+x.whole+">", api.List)
				wantType(t, l, "a", "map<i8,"+name+">", "map<i8,"+x.whole+">", api.Map)
				if slices.Contains(keyKinds(), x.kind) {
					wantType(t, l, "a", "set<"+name+">", "set<"+x.whole+">", api.Set)
					wantType(t, l, "a", "map<"+name+","+name+">", "map<"+x.whole+","+x.whole+">", api.Map)
				} else {
					wantError(t, l, "a", "set<"+name+">", api.ErrKey)
					wantError(t, l, "a", "map<"+name+","+name+">", api.ErrKey)
				}
			}
			wantType(t, l, "r", "a.V", x.whole, x.kind)
			wantType(t, l, "r", "R", x.whole, x.kind)
		}
	}
}

func TestNamesOfOneAndTwoParts(t *testing.T) {
	t.Parallel()
	l := of(t, "a", "include 'b' struct A {} typedef i8 T typedef i16 b", "b", "include 'c' struct B {} typedef string T typedef i64 a", "c", "struct C {} typedef binary T")
	for _, x := range []struct {
		file, name, whole string
		kind              int
	}{
		{"a", "A", "a.A", api.Struct}, {"a", "a.A", "a.A", api.Struct}, {"a", "b.B", "b.B", api.Struct}, {"b", "c.C", "c.C", api.Struct},
		{"a", "T", "i8", api.I8}, {"a", "a.T", "i8", api.I8}, {"a", "b.T", "string", api.String}, {"b", "T", "string", api.String}, {"b", "c.T", "binary", api.Binary}, {"c", "T", "binary", api.Binary},
		{"a", "b", "i16", api.I16}, {"a", "a.b", "i16", api.I16}, {"a", "b.a", "i64", api.I64}, {"b", "a", "i64", api.I64},
	} {
		wantType(t, l, x.file, x.name, x.whole, x.kind)
	}
	for _, x := range [][2]string{{"a", "B"}, {"a", "C"}, {"a", "c.C"}, {"a", "c.T"}, {"b", "A"}, {"b", "a.A"}, {"b", "a.T"}, {"c", "b.B"}, {"c", "a.A"}, {"c", "B"}, {"a", "b.A"}, {"a", "a.B"}, {"a", "z.A"}, {"a", "a"}, {"c", "c"}, {"z", "A"}, {"z", "a.A"}, {"", "A"}, {"", "T"}} {
		wantError(t, l, x[0], x[1], api.ErrName)
	}
}

// TestNamesOfMoreParts has names that no definition has, whatever their parts are.
func TestNamesOfMoreParts(t *testing.T) {
	t.Parallel()
	l := of(t, "a", "include 'b' enum E { X } struct S { 1: i8 f } typedef S T typedef b.a.S V", "b", "struct S {} typedef S T")
	for _, name := range []string{"a.a.S", "a.b.S", "b.a.S", "a.b.T", "a.T.S", "a.E.X", "b.S.S", "a.S.f", "a.T.f", "a.b.a.S", "a.a.a.a.a.a.T", "a.i8", "a.list", "b.i8.S", "a.S.i8"} {
		wantError(t, l, "a", name, api.ErrName)
		wantError(t, l, "a", "list<"+name+">", api.ErrName)
	}
	wantError(t, l, "a", "E.X", api.ErrName)
	wantError(t, l, "a", "S.f", api.ErrName)
	wantError(t, l, "a", "V", api.ErrName)
}

func TestTypedefsWithinOneFile(t *testing.T) {
	t.Parallel()
	// Each is told by ones that stand before it and behind it.
	l := of(t, "a", "typedef V T typedef list<W> V typedef map<K,Y> W typedef i8 K0 typedef K0 K typedef set<K> Y typedef map<K,T> Z typedef a.Z ZZ")
	y, w := "set<i8>", "map<i8,set<i8>>"
	for name, whole := range map[string]string{"K": "i8", "K0": "i8", "Y": y, "W": w, "V": "list<" + w + ">", "T": "list<" + w + ">", "Z": "map<i8,list<" + w + ">>", "ZZ": "map<i8,list<" + w + ">>"} {
		wantType(t, l, "a", name, whole, kindOf(whole))
		wantType(t, l, "a", "a."+name, whole, kindOf(whole))
		wantType(t, l, "a", "list<"+name+">", "list<"+whole+">", api.List)
		wantType(t, l, "a", "map<K,map<K0,"+name+">>", "map<i8,map<i8,"+whole+">>", api.Map)
	}
}

// TestTypedefsAcrossFiles has the same names in all files, for other types.
func TestTypedefsAcrossFiles(t *testing.T) {
	t.Parallel()
	l := of(t,
		"a", "include 'b' include 'c' typedef i8 K typedef list<b.V> T typedef map<b.K,c.V> V typedef map<K,T> W struct S {} typedef S B typedef b.B Q",
		"b", "include 'c' typedef i16 K typedef map<K,c.V> V typedef map<c.K,T> W typedef S T struct S {} typedef c.B B",
		"c", "typedef E K typedef list<map<K,S>> V enum E { X } struct S {} typedef S B")
	cv := "list<map<c.E,c.S>>"
	for _, x := range []struct{ file, name, whole string }{
		{"c", "V", cv}, {"b", "c.V", cv}, {"a", "c.V", cv},
		{"b", "V", "map<i16," + cv + ">"}, {"a", "b.V", "map<i16," + cv + ">"},
		{"b", "W", "map<c.E,b.S>"}, {"a", "b.W", "map<c.E,b.S>"},
		{"a", "T", "list<map<i16," + cv + ">>"}, {"a", "V", "map<i16," + cv + ">"}, {"a", "W", "map<i8,list<map<i16," + cv + ">>>"},
		{"a", "map<K,map<b.K,map<c.K,S>>>", "map<i8,map<i16,map<c.E,a.S>>>"},
		{"a", "map<c.K,map<b.K,map<K,b.S>>>", "map<c.E,map<i16,map<i8,b.S>>>"},
		{"b", "map<K,map<c.K,map<b.K,c.S>>>", "map<i16,map<c.E,map<i16,c.S>>>"},
		{"a", "list<list<b.T>>", "list<list<b.S>>"},
	} {
		wantType(t, l, x.file, x.name, x.whole, kindOf(x.whole))
	}
	for _, x := range []struct{ file, name, whole string }{{"a", "B", "a.S"}, {"a", "b.B", "c.S"}, {"a", "c.B", "c.S"}, {"b", "B", "c.S"}, {"b", "c.B", "c.S"}, {"c", "B", "c.S"}, {"a", "Q", "c.S"}} {
		wantType(t, l, x.file, x.name, x.whole, api.Struct)
	}
}

// TestTypedefsOfFilesThatAreNotIncluded has a typedef whose names can be found in its own
// file alone: its whole type then has names that can't be found where it is written.
func TestTypedefsOfFilesThatAreNotIncluded(t *testing.T) {
	t.Parallel()
	l := of(t, "a", "include 'b' typedef c.S Bad struct c {} typedef map<b.K,b.T> M", "b", "include 'c' typedef list<c.S> T typedef c.E K typedef a.c Bad typedef d.S Gone", "c", "include 'd' struct S {} enum E { X } typedef d.S D", "d", "struct S {}")
	wantType(t, l, "a", "b.T", "list<c.S>", api.List)
	wantType(t, l, "a", "b.K", "c.E", api.Enum)
	wantType(t, l, "a", "M", "map<c.E,list<c.S>>", api.Map)
	wantType(t, l, "a", "set<b.K>", "set<c.E>", api.Set)
	wantType(t, l, "b", "c.D", "d.S", api.Struct)
	for _, x := range [][2]string{{"a", "c.S"}, {"a", "c.E"}, {"a", "list<c.S>"}, {"a", "Bad"}, {"a", "b.Bad"}, {"b", "Bad"}, {"b", "Gone"}, {"b", "d.S"}, {"a", "c.D"}, {"a", "b.Gone"}} {
		wantError(t, l, x[0], x[1], api.ErrName)
	}
}

// TestTypedefsThatComeSeveralTimes has typedefs that a type leads to more than once, but
// not within themselves.
func TestTypedefsThatComeSeveralTimes(t *testing.T) {
	t.Parallel()
	l := of(t, "a", "typedef i8 K typedef K L typedef K M typedef map<K,map<L,map<M,map<K,W>>>> V typedef map<M,S> W struct S { 1: V v 2: W w } typedef S R")
	w := "map<i8,a.S>"
	v := "map<i8,map<i8,map<i8,map<i8," + w + ">>>>"
	wantType(t, l, "a", "V", v, api.Map)
	wantType(t, l, "a", "map<L,map<K,map<K,V>>>", "map<i8,map<i8,map<i8,"+v+">>>", api.Map)
	wantType(t, l, "a", "map<K,R>", w, api.Map)
	wantType(t, l, "a", "R", "a.S", api.Struct)
}

// TestStructsMayLeadToThemselves has structs whose fields lead back to them: that is no
// cycle of typedefs.
func TestStructsMayLeadToThemselves(t *testing.T) {
	t.Parallel()
	l := of(t, "a", "typedef list<S> T struct S { 1: T t 2: S s 3: U u } typedef map<i8,U> V union U { 1: V v }")
	wantType(t, l, "a", "T", "list<a.S>", api.List)
	wantType(t, l, "a", "V", "map<i8,a.U>", api.Map)
	wantType(t, l, "a", "S", "a.S", api.Struct)
}

// TestNamesThatAreThereTwice has the first definition of a name stand for it.
func TestNamesThatAreThereTwice(t *testing.T) {
	t.Parallel()
	l := of(t, "a", "typedef i8 A typedef A A struct B {} typedef B B typedef list<C> C typedef i8 C const i8 D = 1 typedef i8 D typedef B E enum E { X }")
	wantType(t, l, "a", "A", "i8", api.I8)
	wantType(t, l, "a", "B", "a.B", api.Struct)
	wantType(t, l, "a", "E", "a.B", api.Struct)
	wantError(t, l, "a", "C", api.ErrCycle)
	wantError(t, l, "a", "D", api.ErrKind)
}

// TestLongNamesAndManyDefinitions has the limits of names and of definitions.
func TestLongNamesAndManyDefinitions(t *testing.T) {
	t.Parallel()
	text := "struct " + longName + " {} typedef " + longName + " T0 "
	for n := range api.MaxDefs - 2 {
		text += "typedef T" + strconv.Itoa(n) + " T" + strconv.Itoa(n+1) + " "
	}
	l := of(t, "a", "include '"+longName+"' typedef list<"+longName+"."+longName+"> T", longName, text)
	wantType(t, l, "a", "T", "list<"+longName+"."+longName+">", api.List)
	for n := range api.MaxDefs - 1 {
		wantType(t, l, "a", longName+".T"+strconv.Itoa(n), longName+"."+longName, api.Struct)
		wantType(t, l, longName, "T"+strconv.Itoa(n), longName+"."+longName, api.Struct)
	}
	wantError(t, l, longName, "T"+strconv.Itoa(api.MaxDefs-1), api.ErrName)
}

// TestTheLongestWay has a typedef that leads through all definitions that all files may
// have.
func TestTheLongestWay(t *testing.T) {
	t.Parallel()
	var files []string
	for i := range api.MaxFiles {
		text := "struct S {} "
		next := "S"
		if i+1 < api.MaxFiles {
			name := "f" + strconv.Itoa(i+1)
			text = "include '" + name + "' "
			next = name + ".T"
		}
		for n := range api.MaxDefs - 2 {
			text += "typedef " + next + " T" + strconv.Itoa(n) + " "
			next = "T" + strconv.Itoa(n)
		}
		files = append(files, "f"+strconv.Itoa(i), text+"typedef "+next+" T")
	}
	l := of(t, files...)
	wantType(t, l, "f0", "T", "f4.S", api.Struct)
	wantType(t, l, "f0", "list<f1.T>", "list<f4.S>", api.List)
	wantError(t, l, "f0", "set<T>", api.ErrKey)
}

func TestKeyOfEachKind(t *testing.T) {
	t.Parallel()
	text := definitions + "const i8 C = 1 typedef i8 K typedef E V service P {}"
	l := of(t, "a", "include 'b' "+text, "b", "include 'c' "+text+" enum F { X } typedef list<c.E> L", "c", text)
	for _, w := range baseTypes() {
		wantKey(t, l, w.text, true)
		wantKey(t, bundle.Loaded{}, w.text, true)
		for _, s := range []string{"list<" + w.text + ">", "set<" + w.text + ">", "map<" + w.text + ",i8>", "map<i8," + w.text + ">"} {
			wantKey(t, l, s, false)
		}
	}
	for _, home := range []string{"a.", "b.", "c."} {
		wantKey(t, l, home+"E", true)
		for _, name := range []string{"S", "U", "X", "C", "K", "V", "P", "Z", "E.X", "e", "EE", "", "E ", " E"} {
			wantKey(t, l, home+name, false)
		}
	}
	wantKey(t, l, "b.F", true)
	for _, s := range []string{"a.F", "c.F", "a.b.E", "a.a.E", "b.c.E", "z.E", "list<a.E>", "set<a.E>", "map<a.E,a.E>", "map<a.E,i8>", "map<i8,a.E>"} {
		wantKey(t, l, s, false)
	}
}

// TestKeyOfWhatIsNoWholeType has texts that are none, or stand for a type in a file alone.
func TestKeyOfWhatIsNoWholeType(t *testing.T) {
	t.Parallel()
	l := of(t, "E", "enum E { X } typedef E K typedef i8 T typedef E i7 enum bytes { Y }")
	wantKey(t, l, "E.E", true)
	wantKey(t, l, "E.bytes", true)
	for _, s := range []string{"E", "K", "T", "X", "E.K", "E.T", "E.i7", "E.X", "E.E.X", "E.E.E", "", ".", "E.", ".E", "..", "byte", "void", "i7", "I8", "Bool", "i8 ", " i8", "i8.", "i8.E", "list", "list<", "list<i8", "map<i8>", "E..E", "E.E.", "E.E ", " E.E", "E .E", "E. E", "E.E\x00", "\xff", "*"} {
		wantKey(t, l, s, false)
	}
	for _, s := range []string{"E.E", "E", "a.E", "", "z"} {
		wantKey(t, bundle.Loaded{}, s, false)
	}
}

func wantKey(t *testing.T, l bundle.Loaded, whole string, want bool) {
	t.Helper()
	for range 2 {
		if got := alias.Key(l, whole); got != want {
			t.Errorf("Key in %.50q, %.100q: %t", l.Names, whole, got)
		}
	}
}
