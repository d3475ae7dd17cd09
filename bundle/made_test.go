package bundle_test

import (
	"math/rand/v2"
	"regexp"
	"slices"
	"strings"
	"testing"

	"assayer/api"
	"assayer/bundle"
	"assayer/parse"
)

// This file tells the chapter's words in another way, and holds Load against them.

// answer is what Load answers.
type answer struct {
	names []string
	files []api.File
	e     api.Errno
	file  string
	at    int
}

// plainName is a plain name, or a reserved word.
var plainName = regexp.MustCompile(`^[A-Za-z_][A-Za-z0-9_]{0,39}$`)

const reserved = " include namespace typedef enum const struct union exception service extends throws oneway void required optional true false bool i8 i16 i32 i64 double string binary list set map byte "

// faults are the errors of a bundle before the visits, in the chapter's order.
func faults(b api.Bundle) (l []answer) {
	if len(b.Files) > api.MaxFiles {
		l = append(l, answer{e: api.ErrLong})
	}
	for i, f := range b.Files {
		if slices.ContainsFunc(b.Files[:i], func(g api.Source) bool { return g.Name == f.Name }) {
			l = append(l, answer{e: api.ErrTwice, file: f.Name})
		}
	}
	for _, f := range b.Files {
		if !plainName.MatchString(f.Name) || strings.Contains(reserved, " "+f.Name+" ") {
			l = append(l, answer{e: api.ErrForm, file: f.Name})
		}
	}
	if find(b, b.Root) < 0 {
		l = append(l, answer{e: api.ErrNone, file: b.Root})
	}
	return l
}

// find is the place of the file with a name, or -1.
func find(b api.Bundle, name string) int {
	return slices.IndexFunc(b.Files, func(f api.Source) bool { return f.Name == name })
}

// told is what Load is to answer: the visits that have begun and not ended are a
// stack, each with the includes that it still has to look at.
func told(b api.Bundle) (x answer) {
	if l := faults(b); len(l) > 0 {
		return l[0]
	}
	type visit struct {
		name string
		file api.File
		left []string
	}
	var stack []visit
	next := b.Root
	for {
		f, e, at := parse.Parse(b.Files[find(b, next)].Text)
		if e != api.OK {
			return answer{e: e, file: next, at: at}
		}
		stack = append(stack, visit{next, f, f.Includes})
		for next = ""; next == ""; {
			top := &stack[len(stack)-1]
			if len(top.left) == 0 {
				x.names = append(x.names, top.name)
				x.files = append(x.files, top.file)
				stack = stack[:len(stack)-1]
				if len(stack) == 0 {
					return x
				}
				continue
			}
			name := top.left[0]
			top.left = top.left[1:]
			switch {
			case slices.ContainsFunc(stack, func(v visit) bool { return v.name == name }):
				return answer{e: api.ErrCycle, file: top.name}
			case find(b, name) < 0:
				return answer{e: api.ErrNone, file: top.name}
			case !slices.Contains(x.names, name):
				next = name
			}
		}
	}
}

// wantTold holds Load against told, and answers the error.
func wantTold(t *testing.T, b api.Bundle) api.Errno {
	t.Helper()
	want := told(b)
	l, e, file, at := bundle.Load(b)
	if e != want.e || file != want.file || at != want.at || !slices.Equal(l.Names, want.names) || !equal(l.Files, want.files) {
		t.Errorf("Load(%v): %v, %d, %q, %d, want %v", b, l.Names, e, file, at, want)
	}
	if e == api.OK {
		wantIncludedBefore(t, b, l)
	}
	return e
}

// wantIncludedBefore checks that the files of a bundle that was loaded are those that
// the root leads to, each once, and behind all that it includes.
func wantIncludedBefore(t *testing.T, b api.Bundle, l bundle.Loaded) {
	t.Helper()
	asked := []string{b.Root}
	for i, name := range l.Names {
		if slices.Contains(l.Names[:i], name) {
			t.Errorf("Load(%v): %s is there twice", b, name)
		}
		for _, included := range l.Files[i].Includes {
			if !slices.Contains(l.Names[:i], included) {
				t.Errorf("Load(%v): %s does not stand before %s", b, included, name)
			}
			asked = append(asked, included)
		}
	}
	for _, name := range l.Names {
		if !slices.Contains(asked, name) {
			t.Errorf("Load(%v): nobody includes %s", b, name)
		}
	}
}

// TestAllSmallBundles has three files, each with all lists of up to two includes, and
// a text that is no file.
func TestAllSmallBundles(t *testing.T) {
	t.Parallel()
	texts := []string{"  @", ""}
	for _, x := range []string{"a", "b", "c", "z"} {
		texts = append(texts, text(x))
		for _, y := range []string{"a", "b", "c", "z"} {
			texts = append(texts, text(x, y))
		}
	}
	found := map[api.Errno]int{}
	for _, a := range texts {
		for _, b := range texts {
			for _, c := range texts {
				found[wantTold(t, of("a", "a", a, "b", b, "c", c))]++
			}
		}
	}
	if len(found) != 4 || found[api.OK] < 100 {
		t.Errorf("errors that were found: %v", found)
	}
}

// made is a bundle of up to seven files, that tends to be in order.
func made(r *rand.Rand) (b api.Bundle) {
	names := []string{"a", "b", "c", "d", "e", "f", "g"}
	r.Shuffle(len(names), func(i, j int) { names[i], names[j] = names[j], names[i] })
	n := 1 + r.IntN(5) + r.IntN(20)/18
	rarely := func(often int) bool { return r.IntN(often) == 0 }
	for i := range n {
		text := ""
		for range r.IntN(5) {
			included := names[min(i+1+r.IntN(n-i), n-1)]
			if rarely(15) {
				included = names[r.IntN(len(names))]
			}
			if included != names[i] || rarely(4) {
				text += strings.ReplaceAll([]string{"include '%' ", "include \"%\"\n", "namespace * x\tinclude '%'"}[r.IntN(3)], "%", included)
			}
		}
		text += []string{"", "\n", "enum E { A }", "typedef a.B C const i8 D = 1"}[r.IntN(4)]
		if rarely(25) {
			text += []string{"@", " }", "\n'", "enum 9"}[r.IntN(4)]
		}
		name := names[i]
		if rarely(40) {
			name = []string{"", "9", "i8", "a.b", "a", "b", longName + "n"}[r.IntN(7)]
		}
		b.Files = append(b.Files, api.Source{Name: name, Text: text})
	}
	b.Root = b.Files[0].Name
	if rarely(10) {
		b.Root = []string{"", "a", "x", "9"}[r.IntN(4)]
	}
	r.Shuffle(n, func(i, j int) { b.Files[i], b.Files[j] = b.Files[j], b.Files[i] })
	return b
}

func TestMadeBundles(t *testing.T) {
	t.Parallel()
	r := rand.New(rand.NewPCG(9, 1))
	found := map[api.Errno]int{}
	whole := 0
	for range 30000 {
		b := made(r)
		e := wantTold(t, b)
		found[e]++
		if l, _, _, _ := bundle.Load(b); len(l.Names) == api.MaxFiles {
			whole++
		}
	}
	for _, e := range []api.Errno{api.OK, api.ErrLong, api.ErrTwice, api.ErrForm, api.ErrNone, api.ErrCycle} {
		if found[e] < 200 {
			t.Errorf("errors that were found: %v", found)
		}
	}
	if whole < 200 {
		t.Errorf("only %d bundles with MaxFiles files that are all loaded", whole)
	}
}

// TestAnswersHangOnTheArgumentsAlone loads bundles after one another, in all orders.
func TestAnswersHangOnTheArgumentsAlone(t *testing.T) {
	t.Parallel()
	r := rand.New(rand.NewPCG(9, 2))
	var bundles []api.Bundle
	var first []bundle.Loaded
	for range 100 {
		b := made(r)
		l, _, _, _ := bundle.Load(b)
		bundles, first = append(bundles, b), append(first, l)
	}
	for i, b := range bundles {
		for _, other := range bundles {
			bundle.Load(other)
			if l, _, _, _ := bundle.Load(b); !equal(l, first[i]) {
				t.Fatalf("Load(%v) after Load(%v): %v", b, other, l)
			}
		}
	}
}
