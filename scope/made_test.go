package scope_test

import (
	"math/rand/v2"
	"slices"
	"strings"
	"testing"

	"assayer/api"
	"assayer/bundle"
)

// This file tells the chapter's words in another way, and holds Find, Const and Twice
// against them: it goes from each definition to the names that stand for it, not from a
// name to the definition.

// meanings is what the names in a file stand for; a name that is not in it stands for
// nothing.
type meanings map[string]found

// add notes what a name stands for, if it does not stand for something already.
func (m meanings) add(ref string, f found) {
	if _, is := m[ref]; !is {
		m[ref] = f
	}
}

// finds is what Find is to answer in a file.
func finds(l bundle.Loaded, file string) meanings {
	m := meanings{}
	own, is := bundle.Get(l, file)
	for _, name := range append([]string{file}, own.Includes...) {
		home, isHome := bundle.Get(l, name)
		if !is || !isHome {
			continue
		}
		for _, d := range home.Defs {
			f := found{whole: name + "." + d.Name, d: d, home: name}
			m.add(name+"."+d.Name, f)
			if name == file {
				m.add(d.Name, f)
			}
		}
	}
	return m
}

// consts is what Const is to answer in a file, by what Find is to.
func consts(finds meanings) meanings {
	m := meanings{}
	for ref, f := range finds {
		if f.d.Kind == api.DefConst {
			m[ref] = f
		}
	}
	for ref, f := range finds {
		if f.d.Kind == api.DefEnum {
			for _, member := range f.d.Members {
				f.member = member.Name
				m.add(ref+"."+member.Name, f)
			}
		}
	}
	return m
}

// twice is what Twice is to answer.
func twice(l bundle.Loaded) (file, name string, is bool) {
	for i, f := range l.Files {
		var names []string
		for _, d := range f.Defs {
			if slices.Contains(names, d.Name) {
				return l.Names[i], d.Name, true
			}
			names = append(names, d.Name)
		}
	}
	return "", "", false
}

// refs is all names of up to three parts, of few texts, and some of four.
func refs() (l []string) {
	texts := []string{"", "a", "b", "c", "d", "A", "B", "x"}
	before := []string{""}
	for n := range 4 {
		var longer []string
		for _, s := range before {
			for _, text := range texts {
				if n == 3 && strings.HasPrefix(s, ".") {
					continue
				}
				longer = append(longer, strings.TrimPrefix(s+"."+text, "."))
			}
		}
		l = append(l, longer...)
		before = longer
		if n == 2 {
			before = []string{"a.a.A", "b.a.A", "a.A.A", "A.A.A", "a.b.x", "."}
		}
	}
	return l
}

// made is some files that include each other, with few names in them.
func made(t *testing.T, r *rand.Rand) bundle.Loaded {
	t.Helper()
	names := []string{"a", "b", "c", "d", "A"}
	r.Shuffle(len(names), func(i, j int) { names[i], names[j] = names[j], names[i] })
	pick := func() string { return []string{"a", "b", "A", "B"}[r.IntN(4)] }
	var files []string
	for i, name := range names {
		text := ""
		for range r.IntN(4) {
			if i+1 < len(names) {
				text += "include '" + names[i+1+r.IntN(len(names)-i-1)] + "' "
			}
		}
		var defined []string
		for range r.IntN(6) {
			d := pick()
			if slices.Contains(defined, d) && r.IntN(10) > 0 {
				continue
			}
			defined = append(defined, d)
			switch r.IntN(5) {
			case 0:
				text += "const i8 " + d + " = 1 "
			case 1, 2:
				text += "enum " + d + " { " + pick() + ", " + pick() + " } "
			case 3:
				text += "struct " + d + " { 1: i8 " + pick() + " } "
			case 4:
				text += "typedef " + pick() + " " + d + " "
			}
		}
		files = append(files, name, text)
	}
	return of(t, files...)
}

func TestMadeFiles(t *testing.T) {
	t.Parallel()
	r := rand.New(rand.NewPCG(10, 1))
	asked := refs()
	count := map[string]int{}
	for range 100 {
		l := made(t, r)
		for _, file := range []string{"a", "b", "c", "d", "A", "x", ""} {
			f := finds(l, file)
			c := consts(f)
			for _, ref := range asked {
				count[wantMeaning(t, l, "Find", file, ref, f, find(l, file, ref))]++
				count[wantMeaning(t, l, "Const", file, ref, c, constant(l, file, ref))]++
			}
		}
		file, name, is := twice(l)
		wantTwice(t, l, file, name, is)
		if is {
			count["twice"]++
		}
	}
	for _, what := range []string{"Find 1", "Find 2", "Const 1", "Const 2", "member 2", "member 3", "Const precedes", "Find nothing", "Const nothing", "twice"} {
		if count[what] < 10 {
			t.Errorf("what was found: %v", count)
			break
		}
	}
}

// wantMeaning holds an answer against what a name stands for, and tells of which sort
// it is.
func wantMeaning(t *testing.T, l bundle.Loaded, call, file, ref string, m meanings, got found) string {
	t.Helper()
	want, is := m[ref]
	if !is {
		want = nothing()
	}
	if !equal(got, want) {
		t.Errorf("%s(%v, %q, %q): %v, want %v", call, l, file, ref, got, want)
	}
	switch parts := string(rune('1' + strings.Count(ref, "."))); {
	case !is:
		return call + " nothing"
	case got.member != "":
		return "member " + parts
	case call == "Const" && m[file+"."+ref].member != "": // it would stand for that one
		return "Const precedes"
	default:
		return call + " " + parts
	}
}

// TestWholeNamesDenoteASingleDefinition has all whole names of files without a name
// that is there twice: no two definitions have one, and it finds the same one from
// wherever it finds one.
func TestWholeNamesDenoteASingleDefinition(t *testing.T) {
	t.Parallel()
	r := rand.New(rand.NewPCG(10, 2))
	looked := 0
	for range 2000 {
		l := made(t, r)
		if _, _, is := twice(l); is {
			continue
		}
		at := map[string]found{}
		for i, f := range l.Files {
			for n, d := range f.Defs {
				name := l.Names[i] + "." + d.Name
				if _, is := at[name]; is {
					t.Fatalf("%v has %s twice", l, name)
				}
				at[name] = defined(t, l, l.Names[i], n)
			}
		}
		for name, want := range at {
			for i, file := range l.Names {
				if file == want.home || slices.Contains(l.Files[i].Includes, want.home) {
					looked++
					wantFindAlone(t, l, file, name, want)
				}
			}
		}
	}
	if looked < 2000 {
		t.Errorf("only %d names", looked)
	}
}
