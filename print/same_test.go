package print_test

import (
	"reflect"
	"slices"
	"testing"

	"assayer/api"
	"assayer/parse"
	"assayer/print"
)

// copied is a value with all its lists made anew, of the elements that pick answers;
// lists without elements are nil.
func copied(v reflect.Value, pick func(list reflect.Value) reflect.Value) reflect.Value {
	out := reflect.New(v.Type()).Elem()
	switch v.Kind() {
	case reflect.Slice:
		l := pick(v)
		for i := range l.Len() {
			out = reflect.Append(out, copied(l.Index(i), pick))
		}
	case reflect.Struct:
		for i := range v.NumField() {
			out.Field(i).Set(copied(v.Field(i), pick))
		}
	default:
		out.Set(v)
	}
	return out
}

// plain is a copy of a file, with nil for each list without elements.
func plain(f api.File) api.File {
	elements := func(l reflect.Value) reflect.Value { return l }
	return copied(reflect.ValueOf(f), elements).Interface().(api.File)
}

// whole is a copy of a file, with what is in the unused ends of its lists.
func whole(f api.File) api.File {
	elements := func(l reflect.Value) reflect.Value { return l.Slice(0, l.Cap()) }
	return copied(reflect.ValueOf(f), elements).Interface().(api.File)
}

// equal tells whether two files are equal; a list without elements is as good as nil.
func equal(f, g api.File) bool { return reflect.DeepEqual(plain(f), plain(g)) }

// fill gives each part of a value that is no list something.
func fill(v reflect.Value) {
	switch v.Kind() {
	case reflect.String:
		v.SetString("unused")
	case reflect.Bool:
		v.SetBool(true)
	case reflect.Int, reflect.Int64:
		v.SetInt(1)
	case reflect.Uint64:
		v.SetUint(1)
	case reflect.Struct:
		for i := range v.NumField() {
			fill(v.Field(i))
		}
	}
}

// roomy is a file with an unused end, that is not empty, behind each list.
func roomy(f api.File) api.File {
	var widen func(v reflect.Value)
	widen = func(v reflect.Value) {
		switch v.Kind() {
		case reflect.Slice:
			n := v.Len()
			l := reflect.MakeSlice(v.Type(), n+2, n+2)
			reflect.Copy(l, v)
			for i := range n {
				widen(l.Index(i))
			}
			fill(l.Index(n))
			fill(l.Index(n + 1))
			v.Set(l.Slice(0, n))
		case reflect.Struct:
			for i := range v.NumField() {
				widen(v.Field(i))
			}
		}
	}
	widen(reflect.ValueOf(&f).Elem())
	return f
}

// changes are ways to make a value another one, in its place.
func changes(v reflect.Value) (l []func()) {
	switch v.Kind() {
	case reflect.String:
		l = append(l, func() { v.SetString(v.String() + "x") }, func() { v.SetString("x" + v.String()) })
		if s := v.String(); s != "" {
			l = append(l, func() { v.SetString("") }, func() { v.SetString(s[1:]) }, func() { v.SetString(s[:len(s)-1]) })
		}
	case reflect.Bool:
		l = append(l, func() { v.SetBool(!v.Bool()) })
	case reflect.Int, reflect.Int64:
		l = append(l, func() { v.SetInt(v.Int() + 1) }, func() { v.SetInt(v.Int() ^ -1<<63) }, func() { v.SetInt(v.Int() ^ 1<<32) })
	case reflect.Uint64:
		l = append(l, func() { v.SetUint(v.Uint() + 1) }, func() { v.SetUint(v.Uint() ^ 1<<63) })
	case reflect.Slice:
		l = changesOfList(v)
	case reflect.Struct:
		for i := range v.NumField() {
			l = append(l, changes(v.Field(i))...)
		}
	}
	return l
}

func changesOfList(v reflect.Value) (l []func()) {
	n := v.Len()
	l = append(l, func() { v.Set(reflect.Append(v, reflect.Zero(v.Type().Elem()))) })
	if n > 0 {
		l = append(l, func() { v.SetZero() }, func() { v.Set(v.Slice(0, n-1)) }, func() { v.Set(v.Slice(1, n)) }, func() { v.Set(reflect.Append(v, v.Index(n-1))) })
	}
	for i := range n {
		l = append(l, changes(v.Index(i))...)
		if i > 0 && !reflect.DeepEqual(v.Index(i-1).Interface(), v.Index(i).Interface()) {
			l = append(l, func() { reflect.Swapper(v.Interface())(i-1, i) })
		}
	}
	return l
}

func wantSame(t *testing.T, a, b api.File, want bool) {
	t.Helper()
	if print.Same(a, b) != want || print.Same(b, a) != want {
		t.Errorf("Same(%v, %v): not %t both ways", a, b, want)
	}
}

func TestSameOfEqualFiles(t *testing.T) {
	wantSame(t, api.File{}, api.File{}, true)
	for _, s := range []string{everything, "", "include 'a'", "namespace a b", "union U {}", "const i8 A = [[], {}]", "const double A = -0.0"} {
		f := parsed(t, s)
		wantSame(t, f, f, true)
		wantSame(t, f, parsed(t, s), true)
		wantSame(t, f, plain(f), true)
		wantSame(t, f, parsed(t, print.Print(f)), true)
	}
}

func TestSameOfFilesWithAnyChange(t *testing.T) {
	f := parsed(t, everything)
	n := len(changes(reflect.ValueOf(&f).Elem()))
	if n < 500 {
		t.Fatalf("only %d changes", n)
	}
	for i := range n {
		g := plain(f)
		changes(reflect.ValueOf(&g).Elem())[i]()
		wantSame(t, f, g, false)
		wantSame(t, g, g, true)
		wantSame(t, g, plain(g), true)
	}
}

func TestSameOfFilesWithOneThing(t *testing.T) {
	var l []api.File
	for _, s := range []string{
		"", "include 'a'", "include 'b'", "include 'a' include 'b'", "include 'b' include 'a'", "include 'a' include 'a'",
		"namespace a b", "namespace b a", "namespace * b", "namespace a b namespace b a", "namespace b a namespace a b",
		"typedef i8 a", "typedef a b", "typedef list<i8> a", "const i8 a = 0", "const i8 a = 1", "const i8 a = -1", "const i8 a = 0.0", "const i8 a = -0.0", "const i8 a = 1.0", "const i8 a = '1'", "const i8 a = ''", "const i8 a = a", "const i8 a = 'a'", "const i8 a = true", "const i8 a = 'true'", "const i8 a = []", "const i8 a = {}", "const i8 a = [[]]", "const i8 a = [{}]", "const i8 a = {1:2}", "const i8 a = {2:1}", "const i8 a = [1,2]", "const i8 a = [2,1]", "const i8 a = [1]", "const i8 a = [1,2,3]", "const i8 a = [[1],2]", "const i8 a = [[1,2]]", "const i8 a = [1,[2]]", "const i8 a = {1:2,3:4}", "const i8 a = {3:4,1:2}",
		"enum a {}", "enum a {A}", "enum a {B}", "enum a {A=0}", "enum a {A=1}", "enum a {A B}", "enum a {B A}", "enum a {A=1 B}", "enum a {A B=1}",
		"struct a {}", "union a {}", "exception a {}", "service a {}", "struct b {}", "struct a {} struct b {}", "struct b {} struct a {}", "struct a {} struct a {}",
		"struct a {i8 a}", "struct a {i8 b}", "struct a {a a}", "struct a {0: i8 a}", "struct a {1: i8 a}", "struct a {required i8 a}", "struct a {optional i8 a}", "struct a {i8 a = 0}", "struct a {i8 a = 1}", "struct a {i8 a = a}", "struct a {i8 a i8 b}", "struct a {i8 b i8 a}", "union a {i8 a}",
		"service a extends a {}", "service a extends b {}", "service a {void a()}", "service a {i8 a()}", "service a {oneway void a()}", "service a {void b()}", "service a {void a(i8 a)}", "service a {void a() throws (i8 a)}", "service a {void a(i8 a) throws (i8 a)}", "service a {void a(i8 b)}", "service a {void a() throws (i8 b)}", "service a {void a(i8 a) throws (i8 b)}", "service a {void a(i8 b) throws (i8 a)}", "service a {void a() void b()}", "service a {void b() void a()}",
	} {
		l = append(l, parsed(t, s))
	}
	for i, f := range l {
		for j, g := range l {
			wantSame(t, f, g, i == j)
			if (print.Print(f) == print.Print(g)) != (i == j) {
				t.Errorf("the texts of %d and %d: %q, %q", i, j, print.Print(f), print.Print(g))
			}
		}
	}
}

func TestSameOfHowAFileIsWritten(t *testing.T) {
	for _, l := range [][]string{
		{"include 'a' namespace b c", "namespace b c include \"a\"", "namespace b\nc # d\ninclude 'a'"},
		{"enum E { A, B = 16 }", "enum E { A; B = 0x10; };", "enum E{A B=+16}", "enum E { A B = 016 }"},
		{"const double A = 0.5", "const double A = .5;", "const double A = 5e-1", "const double A = 0.50"},
		{"service P { void f() }", "service P { void f() throws () }"},
		{"typedef byte T", "typedef i8 T"},
	} {
		for _, s := range l {
			wantSame(t, parsed(t, l[0]), parsed(t, s), true)
		}
	}
}

// TestSameOfListsWithoutElements has nil and empty lists, with and without room.
func TestSameOfListsWithoutElements(t *testing.T) {
	f := parsed(t, everything)
	wantSame(t, f, roomy(f), true)
	wantSame(t, plain(f), roomy(plain(f)), true)
	wantSame(t, api.File{}, api.File{Includes: []string{}, Spaces: []api.Space{}, Defs: []api.Def{}}, true)
	empty := api.Def{Init: api.Const{L: []api.Const{}}, Fields: []api.Field{}, Members: []api.Member{}, Methods: []api.Method{}}
	wantSame(t, api.File{Defs: []api.Def{{}}}, api.File{Defs: []api.Def{empty}}, true)
	f = api.File{Defs: []api.Def{{Methods: []api.Method{{}}, Fields: []api.Field{{}}}}}
	wantSame(t, f, roomy(f), true)
	if print.Print(f) != print.Print(roomy(f)) {
		t.Error("the text minds unused ends of lists")
	}
}

// TestSameOfTheGreatestConstants has the constants with the most constants in them.
func TestSameOfTheGreatestConstants(t *testing.T) {
	text := "const i8 A = ["
	for len(text)+len("[]]") < api.MaxText-2*api.MaxItems {
		text += "["
		for range api.MaxItems {
			text += "1 "
		}
		text += "]"
	}
	f, g := parsed(t, text+"]"), parsed(t, text+"]")
	wantSame(t, f, g, true)
	last := len(g.Defs[0].Init.L) - 1
	g.Defs[0].Init.L[last].L[api.MaxItems-1].N = 2
	wantSame(t, f, g, false)
	g = parsed(t, text+" 1]")
	wantSame(t, f, g, false)
}

func TestChangesOfTextsThatSameTells(t *testing.T) {
	f := parsed(t, everything)
	text := print.Print(f)
	files := 0
	for i := range len(text) {
		for _, b := range []byte("aZ19 \n\"'{}[]<>,;:=") {
			g, e, _ := parse.Parse(string(slices.Concat([]byte(text[:i]), []byte{b}, []byte(text[i+1:]))))
			if e != api.OK {
				continue
			}
			files++
			if s := print.Print(g); print.Same(f, g) != (s == text) || print.Same(f, g) != equal(f, g) {
				t.Errorf("Same with a file of the text %q: %t", s, print.Same(f, g))
			}
		}
	}
	if files < 500 {
		t.Errorf("only %d files", files)
	}
}
