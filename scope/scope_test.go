package scope_test

import (
	"strconv"
	"strings"
	"testing"

	"assayer/api"
	"assayer/bundle"
	"assayer/scope"
)

const longName = "nnnnnnnnnnnnnnnnnnnnnnnnnnnnnnnnnnnnnnnn" // MaxName bytes

// of is a bundle that is loaded, of names and texts by turns; the first one is the root.
func of(t *testing.T, files ...string) bundle.Loaded {
	t.Helper()
	b := api.Bundle{Root: files[0]}
	for i := 0; i < len(files); i += 2 {
		b.Files = append(b.Files, api.Source{Name: files[i], Text: files[i+1]})
	}
	l, e, file, at := bundle.Load(b)
	if e != api.OK {
		t.Fatalf("Load(%.300v): %d, %q, %d", b, e, file, at)
	}
	return l
}

// found is what Find and Const answer; member is Const's alone.
type found struct {
	whole  string
	d      api.Def
	member string
	home   string
	e      api.Errno
}

func find(l bundle.Loaded, file, ref string) (f found) {
	f.whole, f.d, f.home, f.e = scope.Find(l, file, ref)
	return f
}

func constant(l bundle.Loaded, file, ref string) (f found) {
	f.whole, f.d, f.member, f.home, f.e = scope.Const(l, file, ref)
	return f
}

// nothing is the answer for a name that stands for nothing.
func nothing() found { return found{e: api.ErrName} }

// defined is the n-th definition of a file, from 0 on, and where it is, as Find is to
// tell it.
func defined(t *testing.T, l bundle.Loaded, file string, n int) found {
	t.Helper()
	f, is := bundle.Get(l, file)
	if !is || n >= len(f.Defs) {
		t.Fatalf("%q has no definition %d", file, n)
	}
	return found{whole: file + "." + f.Defs[n].Name, d: f.Defs[n], home: file}
}

// wantFind checks what Find answers, twice, and that Const answers it for a constant,
// and otherwise nothing.
func wantFind(t *testing.T, l bundle.Loaded, file, ref string, want found) {
	t.Helper()
	wantFindAlone(t, l, file, ref, want)
	if want.d.Kind != api.DefConst {
		want = nothing()
	}
	wantConst(t, l, file, ref, want)
}

func wantFindAlone(t *testing.T, l bundle.Loaded, file, ref string, want found) {
	t.Helper()
	for range 2 {
		if got := find(l, file, ref); !equal(got, want) {
			t.Errorf("Find in %.50q, %.50q, %.50q: %.50v, want %.50v", l.Names, file, ref, got, want)
		}
	}
}

func wantConst(t *testing.T, l bundle.Loaded, file, ref string, want found) {
	t.Helper()
	for range 2 {
		if got := constant(l, file, ref); !equal(got, want) {
			t.Errorf("Const in %.50q, %.50q, %.50q: %.50v, want %.50v", l.Names, file, ref, got, want)
		}
	}
}

// wantMember checks that Const answers a member of an enum, which is the n-th definition
// of a file; and Find answers nothing.
func wantMember(t *testing.T, l bundle.Loaded, file, ref, home string, n int, member string) {
	t.Helper()
	want := defined(t, l, home, n)
	want.member = member
	wantConst(t, l, file, ref, want)
	wantFindAlone(t, l, file, ref, nothing())
}

// wantNothing checks that a name stands for nothing, for both.
func wantNothing(t *testing.T, l bundle.Loaded, file, ref string) {
	t.Helper()
	wantFind(t, l, file, ref, nothing())
}

func wantTwice(t *testing.T, l bundle.Loaded, file, name string, is bool) {
	t.Helper()
	for range 2 {
		if gotFile, gotName, gotIs := scope.Twice(l); gotFile != file || gotName != name || gotIs != is {
			t.Errorf("Twice of %.50q: %.50q, %.50q, %t, want %.50q, %.50q, %t", l.Names, gotFile, gotName, gotIs, file, name, is)
		}
	}
}

// kinds has a definition of each kind, with all its parts.
const kinds = "typedef map<string,list<b.T>> M enum E { X, Y = 7 } const list<i8> K = [1, {'a': Y}] struct S { 1: required i32 a = -1, optional M m } union U { 1: i8 a } exception X { 2: string a } service P extends b.Q { oneway void f(), i32 g(1: S s = 1) throws (1: X x) }"

func TestFindOfEachKind(t *testing.T) {
	l := of(t, "a", "include 'b' "+kinds, "b", kinds)
	for n, name := range []string{"M", "E", "K", "S", "U", "X", "P"} {
		if d := defined(t, l, "a", n); d.d.Kind != n+1 || d.d.Name != name {
			t.Fatalf("definition %d is %v", n, d)
		}
		wantFind(t, l, "a", name, defined(t, l, "a", n))
		wantFind(t, l, "a", "a."+name, defined(t, l, "a", n))
		wantFind(t, l, "a", "b."+name, defined(t, l, "b", n))
		wantFind(t, l, "b", name, defined(t, l, "b", n))
		wantFind(t, l, "b", "b."+name, defined(t, l, "b", n))
		wantNothing(t, l, "b", "a."+name)
	}
}

func TestFindOfTheChaptersExample(t *testing.T) {
	l := of(t, "a", "include 'b' enum E { X, Y }", "b", "struct B {}")
	whole, d, home, e := scope.Find(l, "a", "b.B")
	if whole != "b.B" || d.Kind != api.DefStruct || d.Name != "B" || home != "b" || e != api.OK {
		t.Errorf("Find: %q, %v, %q, %d", whole, d, home, e)
	}
	whole, d, member, home, e := scope.Const(l, "a", "a.E.Y")
	if whole != "a.E" || d.Kind != api.DefEnum || len(d.Members) != 2 || member != "Y" || home != "a" || e != api.OK {
		t.Errorf("Const: %q, %v, %q, %q, %d", whole, d, member, home, e)
	}
}

// TestFindOfOnePart has names of the file's own alone, and one name in several files.
func TestFindOfOnePart(t *testing.T) {
	l := of(t, "a", "include 'b' struct A {} struct Z {}", "b", "include 'c' struct B {} union Z {}", "c", "struct C {} exception Y {} exception Z {}")
	wantFind(t, l, "a", "A", defined(t, l, "a", 0))
	wantFind(t, l, "a", "Z", defined(t, l, "a", 1))
	wantFind(t, l, "b", "B", defined(t, l, "b", 0))
	wantFind(t, l, "b", "Z", defined(t, l, "b", 1))
	wantFind(t, l, "c", "C", defined(t, l, "c", 0))
	wantFind(t, l, "c", "Z", defined(t, l, "c", 2))
	for _, x := range [][2]string{{"a", "B"}, {"a", "C"}, {"a", "Y"}, {"b", "A"}, {"b", "C"}, {"b", "Y"}, {"c", "A"}, {"c", "B"}} {
		wantNothing(t, l, x[0], x[1])
	}
}

func TestFindOfTwoParts(t *testing.T) {
	l := of(t, "a", "include 'b' include 'd' struct A {} struct Z {}", "b", "include 'c' struct B {} union Z {}", "c", "struct C {} exception Z {}", "d", "include 'b' struct D {} struct E {} struct Z {}")
	wantFind(t, l, "a", "a.A", defined(t, l, "a", 0))
	wantFind(t, l, "a", "a.Z", defined(t, l, "a", 1))
	wantFind(t, l, "a", "b.B", defined(t, l, "b", 0))
	wantFind(t, l, "a", "b.Z", defined(t, l, "b", 1))
	wantFind(t, l, "a", "d.D", defined(t, l, "d", 0))
	wantFind(t, l, "a", "d.Z", defined(t, l, "d", 2))
	wantFind(t, l, "b", "c.C", defined(t, l, "c", 0))
	wantFind(t, l, "b", "c.Z", defined(t, l, "c", 1))
	wantFind(t, l, "d", "b.Z", defined(t, l, "b", 1))
	wantFind(t, l, "c", "c.Z", defined(t, l, "c", 1))
	for _, x := range [][2]string{{"a", "b.A"}, {"a", "a.B"}, {"a", "b.D"}, {"a", "d.B"}, {"b", "c.B"}, {"b", "b.C"}, {"d", "b.D"}, {"c", "c.A"}} {
		wantNothing(t, l, x[0], x[1])
	}
}

// TestFindInFilesThatAreNotIncluded has files that are there, but included by another
// one alone, or that include the file themselves.
func TestFindInFilesThatAreNotIncluded(t *testing.T) {
	l := of(t, "a", "include 'b' include 'd' struct Z {} enum E { X } const i8 K = 1", "b", "include 'c' struct Z {} enum E { X } const i8 K = 1", "c", "struct Z {} enum E { X } const i8 K = 1", "d", "struct Z {} enum E { X } const i8 K = 1")
	for _, x := range [][2]string{{"a", "c"}, {"b", "a"}, {"b", "d"}, {"c", "a"}, {"c", "b"}, {"c", "d"}, {"d", "a"}, {"d", "b"}, {"d", "c"}} {
		for _, name := range []string{"Z", "E", "K", "E.X"} {
			wantNothing(t, l, x[0], x[1]+"."+name)
		}
	}
}

func TestFindWithSeveralIncludes(t *testing.T) {
	for _, includes := range []string{"include 'b' include 'c' include 'd'", "include 'd' include 'c' include 'b'", "include 'b' include 'b' include 'd' include 'b' include 'c'"} {
		l := of(t, "a", includes+" struct Z {}", "b", "union Z {}", "c", "struct Y {} struct Z {}", "d", "exception Z {}")
		wantFind(t, l, "a", "Z", defined(t, l, "a", 0))
		wantFind(t, l, "a", "b.Z", defined(t, l, "b", 0))
		wantFind(t, l, "a", "c.Z", defined(t, l, "c", 1))
		wantFind(t, l, "a", "d.Z", defined(t, l, "d", 0))
	}
}

// TestFindOfNamesOfFiles has definitions that are named as files are.
func TestFindOfNamesOfFiles(t *testing.T) {
	l := of(t, "a", "include 'b' struct a {} struct b {} struct c {}", "b", "include 'c' struct a {} struct b {}", "c", "struct c {}")
	wantFind(t, l, "a", "a", defined(t, l, "a", 0))
	wantFind(t, l, "a", "b", defined(t, l, "a", 1))
	wantFind(t, l, "a", "c", defined(t, l, "a", 2))
	wantFind(t, l, "a", "a.b", defined(t, l, "a", 1))
	wantFind(t, l, "a", "b.a", defined(t, l, "b", 0))
	wantFind(t, l, "a", "b.b", defined(t, l, "b", 1))
	wantFind(t, l, "b", "b", defined(t, l, "b", 1))
	wantFind(t, l, "b", "c.c", defined(t, l, "c", 0))
	for _, x := range [][2]string{{"b", "c"}, {"a", "c.c"}, {"a", "b.c"}, {"b", "a.a"}, {"c", "a"}, {"c", "b.b"}} {
		wantNothing(t, l, x[0], x[1])
	}
}

func TestFindOfNamesThatStandForNothing(t *testing.T) {
	l := of(t, "a", "include 'b' namespace n m struct A { 1: i8 f } enum E { X } service P { void g() }", "b", "struct B {}")
	for _, name := range []string{"Z", "a", "b", "AA", "A ", " A", "n", "m", "f", "X", "g", "i8", "struct", "A\x00", "é", "\xff", "*", "S", longName, longName + "n"} {
		for _, ref := range []string{name, "a." + name, "b." + name, "z." + name, name + ".A", name + ".B"} {
			switch ref {
			case "a.A", "b.B":
			default:
				wantNothing(t, l, "a", ref)
			}
		}
	}
	for _, ref := range []string{"e", "E.x", "b.b", "B.B", "A.B", "aa.A", "A.a", " a.A", "a. A", "a .A", "a.A ", "a:A", "a/A", "a.A\n", "A.f", "P.g", "a.A.f", "a.P.g", "n.A", "m.A", "n.m"} {
		wantNothing(t, l, "a", ref)
	}
}

// TestNamesOfOtherCase has names that differ by their letters' case alone.
func TestNamesOfOtherCase(t *testing.T) {
	l := of(t, "a", "include 'A' struct s {} struct S {} enum e { x, X } enum E { x, X }", "A", "struct t {}")
	wantFind(t, l, "a", "s", defined(t, l, "a", 0))
	wantFind(t, l, "a", "S", defined(t, l, "a", 1))
	wantFind(t, l, "a", "A.t", defined(t, l, "A", 0))
	wantNothing(t, l, "a", "A.T")
	wantNothing(t, l, "a", "a.t")
	wantNothing(t, l, "A", "a.s")
	wantMember(t, l, "a", "e.X", "a", 2, "X")
	wantMember(t, l, "a", "E.x", "a", 3, "x")
	wantTwice(t, l, "", "", false)
}

// TestTextsThatAreNoNames has texts without a part, with an empty one, and with too many.
func TestTextsThatAreNoNames(t *testing.T) {
	l := of(t, "a", "include 'b' struct A {} enum E { X, E, a } const i8 K = 1 enum b { E }", "b", "enum E { X, E } const i8 K = 1")
	for _, ref := range []string{"", ".", "..", "...", "....", ".A", "A.", ".A.", "a..A", "..A", "a.A.", ".a.A", "a.", "a..", "b.", ".b", ".K", "K.", "a..K", "b..K", "b.K.", ".b.K"} {
		wantNothing(t, l, "a", ref)
		wantNothing(t, l, "b", ref)
	}
	for _, ref := range []string{"E.", "E..X", ".E.X", "E.X.", "a.E.", "a..E.X", ".a.E.X", "a.E.X.", "a.E..X", "b.E.", ".b.E.X", "b.E.X.", "b.E..X", "b..E", "b.E..", "E..", "..E", "..X"} {
		wantNothing(t, l, "a", ref)
		wantNothing(t, l, "b", ref)
	}
	for _, ref := range []string{"a.a.A", "a.b.B", "a.b.K", "a.a.K", "a.a.E.X", "a.b.E.X", "b.a.E.X", "b.b.E.X", "a.E.X.X", "a.E.E.E", "a.E.E.X", "E.E.E", "E.E.X", "a.K.K", "K.K", "K.X", "A.X", "b.K.X", "a.A.X", "a.A.A.A.A.A", strings.Repeat("a.", 1<<20) + "A", strings.Repeat(".", 1<<20)} {
		wantNothing(t, l, "a", ref)
	}
}

func TestNamesInFilesThatAreNotThere(t *testing.T) {
	l := of(t, "a", "include 'b' struct A {} const i8 K = 1 enum E { X }", "b", "struct B {}")
	for _, file := range []string{"", "z", "A", "aa", "a ", " a", "a.b", "a.", ".a", "E", longName} {
		for _, ref := range []string{"A", "a.A", "b.B", "K", "a.K", "E.X", "a.E.X", "", ".", file, file + ".A", file + ".K", file + ".E.X", "E." + file} {
			wantNothing(t, l, file, ref)
		}
	}
	for _, l := range []bundle.Loaded{{}, {Names: []string{}, Files: []api.File{}}, of(t, "a", "")} {
		for _, ref := range []string{"", ".", "A", "a.A", "a", "a.A.A"} {
			wantNothing(t, l, "a", ref)
		}
	}
	l = of(t, "a", "struct A {} const i8 K = 1", "b", "struct B {}") // b is not included, and so not there
	for _, x := range [][2]string{{"a", "b.B"}, {"b", "B"}, {"b", "b.B"}, {"b", "a.A"}, {"b", "A"}, {"b", "K"}} {
		wantNothing(t, l, x[0], x[1])
	}
}

func TestConstOfAConstant(t *testing.T) {
	l := of(t, "a", "include 'b' struct S {} const i8 K = 1 const list<i8> L = [K, b.K]", "b", "const string K = 'b' const E F = E.X")
	wantFind(t, l, "a", "K", defined(t, l, "a", 1))
	wantFind(t, l, "a", "L", defined(t, l, "a", 2))
	wantFind(t, l, "a", "a.L", defined(t, l, "a", 2))
	wantFind(t, l, "a", "b.K", defined(t, l, "b", 0))
	wantFind(t, l, "a", "b.F", defined(t, l, "b", 1))
	wantFind(t, l, "b", "K", defined(t, l, "b", 0))
	for _, x := range [][2]string{{"a", "F"}, {"a", "b.L"}, {"b", "L"}, {"b", "a.K"}, {"b", "a.L"}} {
		wantNothing(t, l, x[0], x[1])
	}
}

func TestConstOfAMember(t *testing.T) {
	l := of(t, "a", "include 'b' struct S {} enum E { X, Y = 0x10, Z } enum F { X }", "b", "include 'c' enum E { W, X } enum G { V }", "c", "enum H { U }")
	for _, member := range []string{"X", "Y", "Z"} {
		wantMember(t, l, "a", "E."+member, "a", 1, member)
		wantMember(t, l, "a", "a.E."+member, "a", 1, member)
	}
	wantMember(t, l, "a", "F.X", "a", 2, "X")
	wantMember(t, l, "a", "b.E.X", "b", 0, "X")
	wantMember(t, l, "a", "b.E.W", "b", 0, "W")
	wantMember(t, l, "a", "b.G.V", "b", 1, "V")
	wantMember(t, l, "b", "E.W", "b", 0, "W")
	wantMember(t, l, "b", "b.E.X", "b", 0, "X")
	wantMember(t, l, "b", "c.H.U", "c", 0, "U")
	for _, x := range [][2]string{{"a", "c.H.U"}, {"a", "H.U"}, {"a", "G.V"}, {"b", "a.E.X"}, {"b", "F.X"}, {"b", "a.F.X"}, {"c", "b.G.V"}, {"a", "X"}, {"a", "a.X"}, {"a", "b.X"}, {"a", "W"}} {
		wantNothing(t, l, x[0], x[1])
	}
}

func TestConstOfMembersThatAreNotThere(t *testing.T) {
	l := of(t, "a", "include 'b' enum E { X, Y } enum N {}", "b", "enum E { Z } enum F { X }")
	for _, ref := range []string{"E.Z", "E.x", "E.XX", "E.E", "E.X ", "E. X", "E.F", "a.E.Z", "a.E.E", "b.E.X", "b.E.E", "b.F.Z", "N.X", "N.N", "a.N.X", "b.N.X", "F.X", "a.F.X", "X.E", "X.X", "Y.X"} {
		wantNothing(t, l, "a", ref)
	}
}

// TestConstOfNoConstants has definitions of all other kinds, and what might be taken for
// a member of them.
func TestConstOfNoConstants(t *testing.T) {
	l := of(t, "a", "include 'b' "+kinds, "b", kinds)
	for _, name := range []string{"M", "E", "S", "U", "X", "P"} {
		for _, file := range []string{"", "a.", "b."} {
			wantConst(t, l, "a", file+name, nothing())
			for _, member := range []string{"a", "m", "f", "g", "s", "x", "M", "K", "Z", name} {
				wantNothing(t, l, "a", file+name+"."+member)
			}
			if name != "E" {
				wantNothing(t, l, "a", file+name+".X")
			}
		}
	}
	for _, ref := range []string{"K.X", "K.K", "a.K.X", "b.K.Y", "b.K.K"} {
		wantNothing(t, l, "a", ref)
	}
}

// TestMembersOfWhatIsNoEnum has definitions with members that are none by their kind.
func TestMembersOfWhatIsNoEnum(t *testing.T) {
	for kind := range 20 {
		d := api.Def{Kind: kind, Name: "D", Members: []api.Member{{Name: "X"}}}
		l := bundle.Loaded{Names: []string{"a"}, Files: []api.File{{Defs: []api.Def{d}}}}
		for _, ref := range []string{"D.X", "a.D.X"} {
			switch kind {
			case api.DefEnum:
				wantMember(t, l, "a", ref, "a", 0, "X")
			default:
				wantNothing(t, l, "a", ref)
			}
		}
		wantFind(t, l, "a", "D", found{whole: "a.D", d: d, home: "a"})
	}
}

// TestConstantsPrecedeMembers has names that are both, and such that would be if the
// constant were of another kind, or elsewhere.
func TestConstantsPrecedeMembers(t *testing.T) {
	both := "include 'b' enum b { M, N, S, E } enum a { K, L, E } const i8 K = 1 struct L {}"
	l := of(t, "a", both, "b", "include 'c' const i8 M = 1 struct S {} enum E { M }", "c", "const i8 N = 1")
	wantFind(t, l, "a", "b.M", defined(t, l, "b", 0))
	wantFind(t, l, "a", "a.K", defined(t, l, "a", 2))
	wantMember(t, l, "a", "a.b.M", "a", 0, "M")
	wantMember(t, l, "a", "a.a.K", "a", 1, "K")
	wantMember(t, l, "a", "b.N", "a", 0, "N")
	wantMember(t, l, "a", "a.E", "a", 1, "E")
	wantMember(t, l, "a", "b.E.M", "b", 2, "M")

	member := func(home string, n int, name string) found {
		f := defined(t, l, home, n)
		f.member = name
		return f
	}
	wantFindAlone(t, l, "a", "b.S", defined(t, l, "b", 1))
	wantConst(t, l, "a", "b.S", member("a", 0, "S"))
	wantFindAlone(t, l, "a", "b.E", defined(t, l, "b", 2))
	wantConst(t, l, "a", "b.E", member("a", 0, "E"))
	wantFindAlone(t, l, "a", "a.L", defined(t, l, "a", 3))
	wantConst(t, l, "a", "a.L", member("a", 1, "L"))
}

func TestFindAtTheLimits(t *testing.T) {
	files := []string{"a", "b", "c", "d", longName}
	if len(files) != api.MaxFiles {
		t.Fatalf("%d files", len(files))
	}
	member := strings.Repeat("m", api.MaxName)
	var sources []string
	for i, file := range files {
		text := ""
		for _, included := range files[i+1:] {
			text += "include '" + included + "' "
		}
		for n := range api.MaxDefs - 1 {
			text += "const i8 D" + strconv.Itoa(n) + " = 1 "
		}
		sources = append(sources, file, text+"enum "+longName+" { "+member+" }")
	}
	l := of(t, sources...)
	for i, file := range files {
		for j, other := range files {
			for n := range api.MaxDefs - 1 {
				name := "D" + strconv.Itoa(n)
				want := nothing()
				if j >= i {
					want = defined(t, l, other, n)
				}
				wantFind(t, l, file, other+"."+name, want)
			}
			if j >= i {
				wantFind(t, l, file, other+"."+longName, defined(t, l, other, api.MaxDefs-1))
				wantMember(t, l, file, other+"."+longName+"."+member, other, api.MaxDefs-1, member)
			}
		}
		wantMember(t, l, file, longName+"."+longName+"."+member, longName, api.MaxDefs-1, member)
		wantNothing(t, l, file, "D"+strconv.Itoa(api.MaxDefs-1))
	}
	wantTwice(t, l, "", "", false)
}

func TestTwiceWithoutAny(t *testing.T) {
	for _, text := range []string{"", "struct A {}", "struct A {} struct B {} struct a {} struct AA {}", kinds, "enum E { X, X } enum X { E } struct X2 { 1: i8 a, 1: i8 a }", "struct a {} struct b {}"} {
		wantTwice(t, of(t, "a", text), "", "", false)
		wantTwice(t, of(t, "a", "include 'b' "+text, "b", text), "", "", false)
		wantTwice(t, of(t, "a", "include 'b' include 'c' "+text, "b", text, "c", "include 'b' "+text), "", "", false)
	}
	wantTwice(t, of(t, "a", "struct A {}", "b", "struct A {} struct A {}"), "", "", false) // b is not included
	wantTwice(t, bundle.Loaded{}, "", "", false)
	wantTwice(t, bundle.Loaded{Names: []string{}, Files: []api.File{}}, "", "", false)
}

func TestTwiceOfEachPairOfKinds(t *testing.T) {
	all := []string{"typedef i8 A ", "enum A {} ", "const i8 A = 1 ", "struct A {} ", "union A {} ", "exception A {} ", "service A {} "}
	for _, first := range all {
		for _, second := range all {
			wantTwice(t, of(t, "a", first+second), "a", "A", true)
			wantTwice(t, of(t, "a", "struct B {} "+first+"struct C {} "+second+"struct D {}"), "a", "A", true)
			wantTwice(t, of(t, "a", "include 'b' "+first, "b", second), "", "", false)
		}
	}
}

// TestTwiceOfSeveral tells the one whose second definition comes first, in the file that
// comes first.
func TestTwiceOfSeveral(t *testing.T) {
	wantTwice(t, of(t, "a", "struct A {} struct B {} struct B {} struct A {}"), "a", "B", true)
	wantTwice(t, of(t, "a", "struct B {} struct A {} struct B {} struct A {}"), "a", "B", true)
	wantTwice(t, of(t, "a", "struct A {} struct A {} struct A {} struct B {} struct B {}"), "a", "A", true)
	wantTwice(t, of(t, "a", "struct Z {} struct Y {} struct X {} struct X {} struct Y {} struct Z {}"), "a", "X", true)
	wantTwice(t, of(t, "a", "struct X {} struct Y {} struct Z {} struct Z {} struct Y {} struct X {}"), "a", "Z", true)

	once, twice := "struct A {} struct B {}", "struct A {} struct B {} union B {}"
	wantTwice(t, of(t, "a", "include 'b' "+twice, "b", once), "a", "B", true)
	wantTwice(t, of(t, "a", "include 'b' "+once, "b", twice), "b", "B", true)
	wantTwice(t, of(t, "a", "include 'b' struct A {} struct A {}", "b", twice), "b", "B", true)
	wantTwice(t, of(t, "a", "include 'b' "+twice, "b", "struct A {} struct A {}"), "b", "A", true)
	wantTwice(t, of(t, "a", "include 'b' include 'c' "+twice, "b", once, "c", "union C {} union C {}"), "c", "C", true)
	wantTwice(t, of(t, "a", "include 'c' include 'b' "+once, "b", twice, "c", "union C {} union C {}"), "c", "C", true)
	wantTwice(t, of(t, "a", "include 'b' include 'c' "+once, "b", twice, "c", "union C {} union C {}"), "b", "B", true)
	wantTwice(t, of(t, longName, "struct A {} struct "+longName+" {} struct "+longName+" {}"), longName, longName, true)
}

// TestTwiceAtTheLimit has as many definitions as a file may have.
func TestTwiceAtTheLimit(t *testing.T) {
	text := ""
	for n := range api.MaxDefs - 1 {
		text += "struct D" + strconv.Itoa(n) + " {} "
	}
	wantTwice(t, of(t, "a", text+"struct D {}"), "", "", false)
	for n := range api.MaxDefs - 1 {
		name := "D" + strconv.Itoa(n)
		wantTwice(t, of(t, "a", text+"struct "+name+" {}"), "a", name, true)
		wantTwice(t, of(t, "a", "struct "+name+" {} "+text), "a", name, true)
	}
}

// TestNamesThatAreThereTwice has the first definition of a name stand for it.
func TestNamesThatAreThereTwice(t *testing.T) {
	l := of(t, "a", "include 'b' struct A {} union A {} enum E { X } const i8 E = 1 const i8 K = 1 enum K { X } enum F { X, X } enum F { Y }", "b", "union B {} struct B {}")
	wantFind(t, l, "a", "A", defined(t, l, "a", 0))
	wantFind(t, l, "a", "a.A", defined(t, l, "a", 0))
	wantFind(t, l, "a", "b.B", defined(t, l, "b", 0))
	wantFind(t, l, "a", "E", defined(t, l, "a", 2))
	wantFind(t, l, "a", "K", defined(t, l, "a", 4))
	wantMember(t, l, "a", "E.X", "a", 2, "X")
	wantMember(t, l, "a", "F.X", "a", 6, "X")
	wantNothing(t, l, "a", "K.X")
	wantNothing(t, l, "a", "F.Y")
	wantTwice(t, l, "b", "B", true)
}
