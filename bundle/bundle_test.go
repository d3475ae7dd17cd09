package bundle_test

import (
	"reflect"
	"slices"
	"strings"
	"testing"

	"assayer/api"
	"assayer/bundle"
	"assayer/parse"
)

const longName = "nnnnnnnnnnnnnnnnnnnnnnnnnnnnnnnnnnnnnnnn" // MaxName bytes

// of is a bundle of a root, and of names and texts by turns.
func of(root string, files ...string) api.Bundle {
	b := api.Bundle{Root: root}
	for i := 0; i < len(files); i += 2 {
		b.Files = append(b.Files, api.Source{Name: files[i], Text: files[i+1]})
	}
	return b
}

// text is the text of a file with these includes, and a definition.
func text(includes ...string) string {
	var b strings.Builder
	for _, name := range includes {
		b.WriteString("include '" + name + "' ")
	}
	return b.String() + "struct S {}"
}

// parsed is the file of a text, which must have one.
func parsed(t *testing.T, text string) api.File {
	t.Helper()
	f, e, at := parse.Parse(text)
	if e != api.OK {
		t.Fatalf("Parse(%.300q): %d at %d", text, e, at)
	}
	return f
}

// wantLoaded checks that Load answers files with these names, twice, whatever the
// order of the files in the bundle, and that Get has each of them.
func wantLoaded(t *testing.T, b api.Bundle, names ...string) {
	t.Helper()
	for i := range 2 * len(b.Files) {
		l, e, file, at := bundle.Load(b)
		if e != api.OK || file != "" || at != 0 || !slices.Equal(l.Names, names) || len(l.Files) != len(names) {
			t.Fatalf("%d: Load(%.300v): %v, %d, %q, %d, want %v", i, b, l, e, file, at, names)
		}
		for j, name := range names {
			k := slices.IndexFunc(b.Files, func(s api.Source) bool { return s.Name == name })
			want := parsed(t, b.Files[k].Text)
			if !equal(l.Files[j], want) {
				t.Errorf("Load(%.300v): %s is %v, want %v", b, name, l.Files[j], want)
			}
			if f, is := bundle.Get(l, name); !is || !equal(f, want) {
				t.Errorf("Get(%s): %v, %t, want %v", name, f, is, want)
			}
		}
		b.Files = append(slices.Clone(b.Files[1:]), b.Files[0])
		if i == len(b.Files) {
			slices.Reverse(b.Files)
		}
	}
}

// wantError checks that Load answers an error, twice, and nothing else.
func wantError(t *testing.T, b api.Bundle, e api.Errno, file string, at int) {
	t.Helper()
	for range 2 {
		l, gotE, gotFile, gotAt := bundle.Load(b)
		if gotE != e || gotFile != file || gotAt != at || len(l.Names) != 0 || len(l.Files) != 0 {
			t.Errorf("Load(%.300v): %v, %d, %q, %d, want %d, %q, %d", b, l, gotE, gotFile, gotAt, e, file, at)
		}
	}
}

// wantErrorAnyhow checks that Load answers an error whatever the order of the files.
func wantErrorAnyhow(t *testing.T, b api.Bundle, e api.Errno, file string, at int) {
	t.Helper()
	for range b.Files {
		wantError(t, b, e, file, at)
		b.Files = append(slices.Clone(b.Files[1:]), b.Files[0])
	}
	slices.Reverse(b.Files)
	wantError(t, b, e, file, at)
}

func TestLoadOfOneFile(t *testing.T) {
	for _, s := range []string{"", " # a\n", "struct S {}", "namespace a b", "typedef i8 T const T C = 1 enum E { A } union U { 1: T t } service P { void f() }"} {
		for _, name := range []string{"a", "A", "_", "z9", "_a_B_0", longName, "root", "Struct", "of"} {
			wantLoaded(t, of(name, name, s), name)
		}
	}
}

func TestLoadOfTheChaptersExample(t *testing.T) {
	wantLoaded(t, of("a", "a", text("b", "c"), "b", text("d"), "c", text("d", "b"), "d", text()), "d", "b", "c", "a")
}

func TestLoadVisitsInOrder(t *testing.T) {
	wantLoaded(t, of("a", "a", text("b"), "b", text()), "b", "a")
	wantLoaded(t, of("b", "b", text("a"), "a", text()), "a", "b")
	wantLoaded(t, of("a", "a", text("b", "c"), "b", text(), "c", text()), "b", "c", "a")
	wantLoaded(t, of("a", "a", text("c", "b"), "b", text(), "c", text()), "c", "b", "a")
	wantLoaded(t, of("a", "a", text("b"), "b", text("c"), "c", text("d"), "d", text("e"), "e", ""), "e", "d", "c", "b", "a")
	wantLoaded(t, of("a", "a", text("e", "d", "c", "b"), "b", "", "c", "", "d", "", "e", ""), "e", "d", "c", "b", "a")
	wantLoaded(t, of("a", "a", text("b", "c", "d", "e"), "b", "", "c", "", "d", "", "e", ""), "b", "c", "d", "e", "a")
	wantLoaded(t, of("a", "a", text("b", "c"), "b", text("d"), "c", text("e"), "d", "", "e", ""), "d", "b", "e", "c", "a")
	wantLoaded(t, of("a", "a", text("c", "b"), "b", text("d"), "c", text("e"), "d", "", "e", ""), "e", "c", "d", "b", "a")
	wantLoaded(t, of("a", "a", text("b", "c"), "b", text("c"), "c", text()), "c", "b", "a")
	wantLoaded(t, of("a", "a", text("c", "b"), "b", text("c"), "c", text()), "c", "b", "a")
	wantLoaded(t, of("a", "a", "include 'c' namespace x y include 'b'", "b", "", "c", ""), "c", "b", "a")
}

func TestLoadVisitsAFileOnce(t *testing.T) {
	wantLoaded(t, of("a", "a", text("b", "b"), "b", text()), "b", "a")
	wantLoaded(t, of("a", "a", text("b", "b", "b", "b", "b"), "b", text()), "b", "a")
	wantLoaded(t, of("a", "a", text("b", "c", "b"), "b", text(), "c", text()), "b", "c", "a")
	wantLoaded(t, of("a", "a", text("b", "c"), "b", text("c", "c"), "c", text()), "c", "b", "a")
	wantLoaded(t, of("a", "a", text("b", "c"), "b", text("d"), "c", text("d"), "d", text()), "d", "b", "c", "a")
	wantLoaded(t, of("a", "a", text("b", "c", "d", "e", "e"), "b", text("e"), "c", text("e"), "d", text("e"), "e", ""), "e", "b", "c", "d", "a")
	wantLoaded(t, of("a", "a", text("b", "c", "d", "e"), "b", text("c", "d", "e"), "c", text("d", "e"), "d", text("e"), "e", ""), "e", "d", "c", "b", "a")
}

// TestLoadOfFilesThatNobodyIncludes has files that are not visited, and so may be as
// they like, but for their names.
func TestLoadOfFilesThatNobodyIncludes(t *testing.T) {
	for _, s := range []string{"", text(), text("a"), text("b"), text("x"), text("z"), "@", "enum E {", "'", strings.Repeat(" ", api.MaxText+1)} {
		wantLoaded(t, of("a", "a", text(), "x", s), "a")
		wantLoaded(t, of("a", "a", text("b"), "b", text(), "x", s, "y", s), "b", "a")
		wantLoaded(t, of("a", "a", text("b"), "b", text(), "x", text("y"), "y", text("x")), "b", "a")
	}
}

func TestLoadOfExactlyMaxFiles(t *testing.T) {
	b := of("a", "a", text("b", "c"), "b", "", "c", text("d"), "d", text("e", "b"), "e", "")
	if len(b.Files) != api.MaxFiles {
		t.Fatalf("%d files", len(b.Files))
	}
	wantLoaded(t, b, "b", "e", "d", "c", "a")
	b.Files = append(b.Files, api.Source{Name: "f"})
	wantErrorAnyhow(t, b, api.ErrLong, "", 0)
	b.Files = append(b.Files, api.Source{Name: "g"})
	wantErrorAnyhow(t, b, api.ErrLong, "", 0)
	wantError(t, api.Bundle{Root: "a", Files: make([]api.Source, 10000)}, api.ErrLong, "", 0)
}

func TestLoadOfANameThatIsThereAlready(t *testing.T) {
	wantError(t, of("a", "a", "", "a", ""), api.ErrTwice, "a", 0)
	wantError(t, of("a", "a", text(), "b", "", "b", ""), api.ErrTwice, "b", 0)
	wantError(t, of("a", "a", "", "b", "", "c", "", "a", ""), api.ErrTwice, "a", 0)
	wantError(t, of("a", "a", "", "b", "", "a", "", "b", ""), api.ErrTwice, "a", 0)
	wantError(t, of("a", "a", "", "b", "", "b", "", "a", ""), api.ErrTwice, "b", 0)
	wantError(t, of("a", "a", "", "a", "", "a", "", "b", "", "b", ""), api.ErrTwice, "a", 0)
	wantError(t, of("a", "a", "", "b", "", "c", "", "c", "", "a", ""), api.ErrTwice, "c", 0)
	wantError(t, of("a", "a", "", longName, "", longName, ""), api.ErrTwice, longName, 0)
	wantLoaded(t, of("a", "a", text("A", "aa"), "A", "", "aa", "", "_a", ""), "A", "aa", "a")
}

func TestLoadOfANameThatIsNotPlain(t *testing.T) {
	for _, name := range []string{"", " ", "a.b", ".", "9", "9a", "a b", "a-b", "a\n", "é", "\xff", "\x00", "'a'", longName + "n", "i8", "byte", "list", "include", "true", "void", "struct", "a/b", "*"} {
		wantErrorAnyhow(t, of(name, name, ""), api.ErrForm, name, 0)
		wantErrorAnyhow(t, of("a", "a", "", name, ""), api.ErrForm, name, 0)
		wantErrorAnyhow(t, of("a", "a", text("b"), "b", "", "c", "", "d", "", name, ""), api.ErrForm, name, 0)
	}
	wantError(t, of("a", "a", "", "9", "", "8", "", "7", ""), api.ErrForm, "9", 0)
	wantError(t, of("a", "8", "", "a", "", "9", ""), api.ErrForm, "8", 0)
	for _, name := range []string{longName, "List", "I8", "INCLUDE", "_", "bytes", "i9"} {
		wantLoaded(t, of("a", "a", text(name), name, ""), name, "a")
	}
}

func TestLoadWithoutTheRoot(t *testing.T) {
	for _, root := range []string{"", "x", "A", "aa", "a ", "a.b", "i8", "é", longName, longName + "n"} {
		wantErrorAnyhow(t, of(root, "a", ""), api.ErrNone, root, 0)
		wantErrorAnyhow(t, of(root, "a", text("b"), "b", "", "c", "@"), api.ErrNone, root, 0)
		wantError(t, of(root), api.ErrNone, root, 0)
	}
	wantError(t, api.Bundle{Root: "a", Files: []api.Source{}}, api.ErrNone, "a", 0)
	wantError(t, api.Bundle{}, api.ErrNone, "", 0)
}

// TestLoadTellsErrorsOfParse has texts that are no files, in the root, and in files
// that are included.
func TestLoadTellsErrorsOfParse(t *testing.T) {
	for _, s := range []string{
		"@", " @", "'", "enum E {", "enum E {\n", "struct S { i8 }", "include 'a.b'", "include 9", "namespace", "const i8 A = 1e999", "const i8 A = 9223372036854775808",
		"typedef " + strings.Repeat("list<", api.MaxNest+1) + "i8" + strings.Repeat(">", api.MaxNest+1) + " T",
		strings.Repeat("include 'b' ", api.MaxFiles+1), strings.Repeat(" ", api.MaxText+1), "struct S {} include 'b'", text("b") + "}", text("a") + "}", text("z") + "}",
	} {
		_, e, at := parse.Parse(s)
		if e == api.OK {
			t.Fatalf("%q is a file", s)
		}
		wantErrorAnyhow(t, of("a", "a", s, "b", ""), e, "a", at)
		wantErrorAnyhow(t, of("a", "a", text("b"), "b", s), e, "b", at)
		wantErrorAnyhow(t, of("a", "a", text("b"), "b", text("c", "d"), "c", text(), "d", s), e, "d", at)
		wantErrorAnyhow(t, of("a", "a", text("b", "c", "d", "e"), "b", "", "c", "", "d", "", "e", s), e, "e", at)
		wantErrorAnyhow(t, of("a", "a", text("b"), "b", text("c"), "c", text("d"), "d", text("e"), "e", s), e, "e", at)
	}
	wantErrorAnyhow(t, of("a", "a", text("b"), "b", "  enum E { A } \n struct 9"), api.ErrForm, "b", 24)
}

func TestLoadOfIncludesThatAreNotThere(t *testing.T) {
	for _, name := range []string{"z", "A", "B", "aa", "ab", longName} {
		wantErrorAnyhow(t, of("a", "a", text(name), "b", ""), api.ErrNone, "a", 0)
		wantErrorAnyhow(t, of("a", "a", text("b", name), "b", ""), api.ErrNone, "a", 0)
		wantErrorAnyhow(t, of("a", "a", text("b"), "b", text(name)), api.ErrNone, "b", 0)
		wantErrorAnyhow(t, of("a", "a", text("b", "c"), "b", "", "c", text("d", "b", name), "d", ""), api.ErrNone, "c", 0)
		wantErrorAnyhow(t, of("a", "a", text("b", "c", name), "b", "", "c", ""), api.ErrNone, "a", 0)
	}
	wantErrorAnyhow(t, of("a", "a", text("z", "y")), api.ErrNone, "a", 0)
	wantErrorAnyhow(t, of("a", "a", text("b", "z"), "b", text("y")), api.ErrNone, "b", 0)
}

func TestLoadOfCycles(t *testing.T) {
	wantErrorAnyhow(t, of("a", "a", text("a")), api.ErrCycle, "a", 0)
	wantErrorAnyhow(t, of("a", "a", text("b", "a"), "b", ""), api.ErrCycle, "a", 0)
	wantErrorAnyhow(t, of("a", "a", text("b"), "b", text("b")), api.ErrCycle, "b", 0)
	wantErrorAnyhow(t, of("a", "a", text("b"), "b", text("a")), api.ErrCycle, "b", 0)
	wantErrorAnyhow(t, of("b", "a", text("b"), "b", text("a")), api.ErrCycle, "a", 0)
	wantErrorAnyhow(t, of("a", "a", text("b"), "b", text("c"), "c", text("a")), api.ErrCycle, "c", 0)
	wantErrorAnyhow(t, of("a", "a", text("b"), "b", text("c"), "c", text("b")), api.ErrCycle, "c", 0)
	wantErrorAnyhow(t, of("a", "a", text("b"), "b", text("c"), "c", text("d"), "d", text("e"), "e", text("a")), api.ErrCycle, "e", 0)
	wantErrorAnyhow(t, of("a", "a", text("b"), "b", text("c"), "c", text("d"), "d", text("e"), "e", text("d")), api.ErrCycle, "e", 0)
	wantErrorAnyhow(t, of("a", "a", text("b"), "b", text("c"), "c", text("d"), "d", text("e"), "e", text("e")), api.ErrCycle, "e", 0)
	wantErrorAnyhow(t, of("a", "a", text("b"), "b", text("c"), "c", text("e", "d"), "d", text("a"), "e", ""), api.ErrCycle, "d", 0)
	wantErrorAnyhow(t, of("a", "a", text("b", "c"), "b", text("d"), "c", text("d", "b", "e"), "d", "", "e", text("c")), api.ErrCycle, "e", 0)
	wantErrorAnyhow(t, of("a", "a", text("b", "b", "c"), "b", "", "c", text("b", "a")), api.ErrCycle, "c", 0)
}

// TestLoadOfTwoCycles tells the one that the visits meet first.
func TestLoadOfTwoCycles(t *testing.T) {
	wantErrorAnyhow(t, of("a", "a", text("a", "b"), "b", text("b")), api.ErrCycle, "a", 0)
	wantErrorAnyhow(t, of("a", "a", text("b", "a"), "b", text("b")), api.ErrCycle, "b", 0)
	wantErrorAnyhow(t, of("a", "a", text("b", "c"), "b", text("c"), "c", text("c", "a")), api.ErrCycle, "c", 0)
	wantErrorAnyhow(t, of("a", "a", text("b", "c"), "b", text("a"), "c", text("a")), api.ErrCycle, "b", 0)
	wantErrorAnyhow(t, of("a", "a", text("c", "b"), "b", text("a"), "c", text("a")), api.ErrCycle, "c", 0)
}

// TestLoadOfPairsOfErrors has the first one of two by the chapter's order, not by
// that of the files.
func TestLoadOfPairsOfErrors(t *testing.T) {
	many := []string{"p", "", "q", "", "r", "", "s", ""}
	with := func(files ...string) []string { return slices.Concat(files, many) }
	wantErrorAnyhow(t, of("a", with("a", "", "a", "")...), api.ErrLong, "", 0)
	wantErrorAnyhow(t, of("a", with("a", "", "9", "")...), api.ErrLong, "", 0)
	wantErrorAnyhow(t, of("x", with("a", "", "b", "")...), api.ErrLong, "", 0)
	wantErrorAnyhow(t, of("a", with("a", "@", "b", "")...), api.ErrLong, "", 0)
	wantErrorAnyhow(t, of("a", with("a", text("a"), "b", "")...), api.ErrLong, "", 0)
	wantErrorAnyhow(t, of("a", with("a", text("z"), "b", "")...), api.ErrLong, "", 0)

	wantErrorAnyhow(t, of("a", "9", "", "a", "", "a", ""), api.ErrTwice, "a", 0)
	wantErrorAnyhow(t, of("a", "9", "", "9", "", "a", ""), api.ErrTwice, "9", 0)
	wantErrorAnyhow(t, of("", "", "", "", ""), api.ErrTwice, "", 0)
	wantErrorAnyhow(t, of("x", "a", "", "a", ""), api.ErrTwice, "a", 0)
	wantErrorAnyhow(t, of("a", "a", "@", "b", "", "b", ""), api.ErrTwice, "b", 0)
	wantErrorAnyhow(t, of("a", "a", text("a"), "b", "", "b", ""), api.ErrTwice, "b", 0)
	wantErrorAnyhow(t, of("a", "a", text("z"), "b", "", "b", ""), api.ErrTwice, "b", 0)

	wantErrorAnyhow(t, of("x", "a", "", "9", ""), api.ErrForm, "9", 0)
	wantErrorAnyhow(t, of("8", "a", "", "9", ""), api.ErrForm, "9", 0)
	wantErrorAnyhow(t, of("a", "a", "@", "9", ""), api.ErrForm, "9", 0)
	wantErrorAnyhow(t, of("a", "a", text("a"), "9", ""), api.ErrForm, "9", 0)
	wantErrorAnyhow(t, of("a", "a", text("z"), "9", ""), api.ErrForm, "9", 0)
	wantErrorAnyhow(t, of("9", "9", " @"), api.ErrForm, "9", 0)

	for _, s := range []string{" @", text("a"), text("z")} {
		wantErrorAnyhow(t, of("x", "a", s), api.ErrNone, "x", 0)
	}
}

// TestLoadOfPairsOfErrorsOfTheVisits has the first one of two that the visits meet.
func TestLoadOfPairsOfErrorsOfTheVisits(t *testing.T) {
	for _, s := range []string{text("a", "z", "b") + " @", text("z", "b", "a") + " @", text("b", "a", "z") + " @"} {
		wantErrorAnyhow(t, of("a", "a", s, "b", "@"), api.ErrForm, "a", len(s)-1)
		wantErrorAnyhow(t, of("c", "c", text("a"), "a", s, "b", "@"), api.ErrForm, "a", len(s)-1)
	}
	wantErrorAnyhow(t, of("a", "a", text("z", "a")), api.ErrNone, "a", 0)
	wantErrorAnyhow(t, of("a", "a", text("a", "z")), api.ErrCycle, "a", 0)
	wantErrorAnyhow(t, of("a", "a", text("b"), "b", text("a", "z")), api.ErrCycle, "b", 0)
	wantErrorAnyhow(t, of("a", "a", text("b"), "b", text("z", "a")), api.ErrNone, "b", 0)

	wantErrorAnyhow(t, of("a", "a", text("b", "z"), "b", " @"), api.ErrForm, "b", 1)
	wantErrorAnyhow(t, of("a", "a", text("z", "b"), "b", " @"), api.ErrNone, "a", 0)
	wantErrorAnyhow(t, of("a", "a", text("b", "a"), "b", " @"), api.ErrForm, "b", 1)
	wantErrorAnyhow(t, of("a", "a", text("a", "b"), "b", " @"), api.ErrCycle, "a", 0)
	wantErrorAnyhow(t, of("a", "a", text("b", "c"), "b", " @", "c", "  @"), api.ErrForm, "b", 1)
	wantErrorAnyhow(t, of("a", "a", text("c", "b"), "b", " @", "c", "  @"), api.ErrForm, "c", 2)

	wantErrorAnyhow(t, of("a", "a", text("b", "z"), "b", text("b")), api.ErrCycle, "b", 0)
	wantErrorAnyhow(t, of("a", "a", text("b", "a"), "b", text("z")), api.ErrNone, "b", 0)
	wantErrorAnyhow(t, of("a", "a", text("b", "c"), "b", text("z"), "c", text("c")), api.ErrNone, "b", 0)
	wantErrorAnyhow(t, of("a", "a", text("b", "c"), "b", text("c"), "c", "@", "d", ""), api.ErrForm, "c", 0)
}

// TestGetOfNamesThatAreNotThere has files of a bundle that nobody includes, too.
func TestGetOfNamesThatAreNotThere(t *testing.T) {
	l, e, _, _ := bundle.Load(of("a", "a", text("b"), "b", text(), "c", text()))
	if e != api.OK {
		t.Fatal(e)
	}
	for _, name := range []string{"c", "d", "", "A", "aa", " a", "a ", "ab", "a.b", "S", longName} {
		for _, l := range []bundle.Loaded{l, {}, {Names: []string{}, Files: []api.File{}}} {
			if f, is := bundle.Get(l, name); is || !reflect.DeepEqual(plain(f), api.File{}) {
				t.Errorf("Get(%q): %v, %t", name, f, is)
			}
		}
	}
	if f, is := bundle.Get(bundle.Loaded{}, "a"); is || !reflect.DeepEqual(plain(f), api.File{}) {
		t.Errorf("Get of nothing: %v, %t", f, is)
	}
}
