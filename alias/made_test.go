package alias_test

import (
	"math/rand/v2"
	"regexp"
	"slices"
	"strings"
	"testing"

	"assayer/alias"
	"assayer/api"
	"assayer/bundle"
	"assayer/kind"
	"assayer/scope"
)

// This file tells the chapter's words in another way, and holds Type and Key against
// them: it goes through the words of a type from the left and puts the words of a
// typedef's type in the place of its name, in one loop, and it keeps no typedef's
// whole type.

// piece is a word or a sign of a type, and the file where it is written; or, without a
// text, the end of a typedef's words.
type piece struct{ text, file string }

var pieces = regexp.MustCompile(`[A-Za-z0-9_.]+|[<>,]`)

func cut(text, file string) (l []piece) {
	for _, s := range pieces.FindAllString(text, -1) {
		l = append(l, piece{s, file})
	}
	return l
}

// rewriting is a type of which a part is rewritten.
type rewriting struct {
	l     bundle.Loaded
	todo  []piece
	done  []string
	open  []int          // for each list, set and map that is not closed, where the type behind its sign begins in done
	under []string       // the typedefs whose words are not ended
	kinds map[string]int // of the whole names in done
	most  int            // how deep the type was
}

// rewritten is what Type is to answer.
func rewritten(l bundle.Loaded, file, text string) answer {
	if !kind.May(text) {
		return answer{e: api.ErrForm}
	}
	w := &rewriting{l: l, todo: cut(text, file), kinds: map[string]int{}}
	for len(w.todo) > 0 {
		p := w.todo[0]
		w.todo = w.todo[1:]
		if e := w.step(p); e != api.OK {
			return answer{e: e}
		}
	}
	if w.most > api.MaxNest {
		return answer{e: api.ErrDepth}
	}
	return answer{whole: strings.Join(w.done, ""), kind: w.kindOf(w.done[0])}
}

func (w *rewriting) step(p piece) api.Errno {
	switch p.text {
	case "":
		w.under = w.under[:len(w.under)-1]
	case "<":
		w.done = append(w.done, "<")
		w.open = append(w.open, len(w.done))
		w.most = max(w.most, len(w.open))
	case ",":
		if !w.isKey() {
			return api.ErrKey
		}
		w.done = append(w.done, ",")
	case ">":
		if w.done[w.open[len(w.open)-1]-2] == "set" && !w.isKey() {
			return api.ErrKey
		}
		w.done = append(w.done, ">")
		w.open = w.open[:len(w.open)-1]
	default:
		return w.word(p)
	}
	return api.OK
}

// isKey tells whether the type behind the last sign `<` is a key type.
func (w *rewriting) isKey() bool {
	t := w.done[w.open[len(w.open)-1]:]
	return len(t) == 1 && slices.Contains(keyKinds(), w.kindOf(t[0]))
}

// kindOf is the kind of a word or a whole name; a list's, a set's and a map's words are
// types here, since what is behind them does not change their kinds.
func (w *rewriting) kindOf(s string) int {
	words := append(baseTypes(), word{"list", api.List}, word{"set", api.Set}, word{"map", api.Map})
	for _, x := range words {
		if x.text == s {
			return x.kind
		}
	}
	return w.kinds[s]
}

func (w *rewriting) word(p piece) api.Errno {
	if w.kindOf(p.text) != 0 {
		w.done = append(w.done, p.text)
		return api.OK
	}
	whole, d, home, e := scope.Find(w.l, p.file, p.text)
	switch {
	case e != api.OK:
		return api.ErrName
	case d.Kind == api.DefConst || d.Kind == api.DefService:
		return api.ErrKind
	case d.Kind == api.DefEnum:
		w.kinds[whole] = api.Enum
	case d.Kind != api.DefTypedef:
		w.kinds[whole] = api.Struct
	case slices.Contains(w.under, whole):
		return api.ErrCycle
	case !kind.May(d.Type):
		return api.ErrForm
	default:
		w.under = append(w.under, whole)
		w.todo = slices.Concat(cut(d.Type, home), []piece{{}}, w.todo)
		return api.OK
	}
	w.done = append(w.done, whole)
	return api.OK
}

// wantRewritten holds what Type answers against the chapter's words, and what follows
// from it.
func wantRewritten(t *testing.T, l bundle.Loaded, file, text string) answer {
	t.Helper()
	want := rewritten(l, file, text)
	if want.e == api.OK {
		wantType(t, l, file, text, want.whole, want.kind)
	} else {
		wantAnswer(t, l, file, text, want)
	}
	return want
}

// within is all types that are one list, set or map around one or two of some types.
func within(l []string) (out []string) {
	for _, a := range l {
		out = append(out, "list<"+a+">", "set<"+a+">")
		for _, b := range l {
			out = append(out, "map<"+a+","+b+">")
		}
	}
	return out
}

// TestAllSmallTypes has all types of up to two lists, sets and maps within each other,
// with a name of each sort.
func TestAllSmallTypes(t *testing.T) {
	t.Parallel()
	l := faulty(t)
	count := map[api.Errno]int{}
	names := []string{"i8", "E", "S", "b.K", "L", "list<D>", "Z", "C", "Q", "NS", "F"}
	for _, a := range append(within(names), names...) {
		count[wantRewritten(t, l, "a", a).e]++
	}
	few := append(within([]string{"i8", "S", "Z", "C", "Q", "F"}), "E", "b.K", "b.S", "NL", "D", "a.P")
	for _, a := range within(few) {
		count[wantRewritten(t, l, "a", a).e]++
	}
	for _, e := range []api.Errno{api.OK, api.ErrForm, api.ErrName, api.ErrKind, api.ErrCycle, api.ErrKey, api.ErrDepth} {
		if count[e] < 5 {
			t.Errorf("what was found: %v", count)
			break
		}
	}
}

// maker makes files and types, by a source of numbers that begins the same each time.
type maker struct{ *rand.Rand }

func (r maker) of(l ...string) string { return l[r.IntN(len(l))] }

func (r maker) base() string {
	return r.of("bool", "i8", "i16", "i32", "i64", "double", "string", "binary")
}

// key is a type that is a key type most often.
func (r maker) key(ref func() string) string {
	if r.IntN(2) == 0 {
		return r.base()
	}
	return r.typeText(r.IntN(20)/19, ref)
}

// typeText is the text of a type with up to so many lists, sets and maps within each
// other, whose names ref makes.
func (r maker) typeText(depth int, ref func() string) string {
	if depth == 0 || r.IntN(10) == 0 {
		if r.IntN(3) == 0 {
			return r.base()
		}
		return ref()
	}
	switch r.IntN(10) {
	case 0:
		return "set<" + r.key(ref) + ">"
	case 1, 2:
		return "map<" + r.key(ref) + "," + r.typeText(depth-1, ref) + ">"
	default:
		return "list<" + r.typeText(depth-1, ref) + ">"
	}
}

// files is some files that include each other, with few names in them, so that typedefs
// lead to each other, and sometimes back.
func (r maker) files(t *testing.T) bundle.Loaded {
	t.Helper()
	names := []string{"a", "b", "c", "d"}
	ref := func() string {
		name := r.of("A", "B", "C", "D", "E", "F", "G", "H")
		if r.IntN(40) == 0 {
			name = r.of("Z", "K", "P", "A.x")
		}
		return name
	}
	var files []string
	for i, name := range names {
		text, seen := "", []string{name}
		for _, other := range names[i+1:] {
			if r.IntN(4) > 0 {
				text += "include '" + other + "' "
				seen = append(seen, other)
			}
		}
		own := func() string {
			if r.IntN(2) == 0 {
				return ref()
			}
			return r.of(seen...) + "." + ref()
		}
		text += "const i8 K = 1 service P {} "
		defined := []string{"A", "B", "C", "D", "E", "F", "G", "H"}
		r.Shuffle(len(defined), func(i, j int) { defined[i], defined[j] = defined[j], defined[i] })
		for n, d := range defined {
			switch r.IntN(6) {
			case 0:
				text += "enum " + d + " { x } "
			case 1:
				text += r.of("struct ", "union ", "exception ") + d + " { 1: i8 x } "
			default:
				to := func() string { // most often none that leads back
					if n > 0 && r.IntN(15) > 0 {
						return defined[r.IntN(n)]
					}
					return own()
				}
				text += "typedef " + r.typeText(r.IntN(7), to) + " " + d + " "
			}
		}
		files = append(files, name, text)
	}
	return of(t, files...)
}

func TestMadeFiles(t *testing.T) {
	t.Parallel()
	r := maker{rand.New(rand.NewPCG(11, 1))}
	count := map[api.Errno]int{}
	kinds := map[int]int{}
	for range 250 {
		l := r.files(t)
		for i, file := range l.Names {
			for _, d := range l.Files[i].Defs {
				got := wantRewritten(t, l, file, d.Name)
				count[got.e]++
				kinds[got.kind]++
			}
			for range 20 {
				text := r.typeText(r.IntN(api.MaxNest+1), func() string {
					return r.of("", "", file+".", "a.", "b.", "c.", "d.") + r.of("A", "B", "C", "D", "E", "F", "G", "H")
				})
				count[wantRewritten(t, l, file, text).e]++
			}
		}
	}
	for _, e := range []api.Errno{api.OK, api.ErrName, api.ErrKind, api.ErrCycle, api.ErrKey, api.ErrDepth} {
		if count[e] < 50 {
			t.Errorf("what was found: %v", count)
			break
		}
	}
	for _, k := range append(keyKinds(), api.List, api.Set, api.Map, api.Struct) {
		if kinds[k] < 20 {
			t.Errorf("the kinds: %v", kinds)
			break
		}
	}
}

// TestKeyOfMadeFiles has Key of each name of a file, and of some texts that are none.
func TestKeyOfMadeFiles(t *testing.T) {
	t.Parallel()
	r := maker{rand.New(rand.NewPCG(11, 2))}
	keys := 0
	for range 100 {
		l := r.files(t)
		for _, file := range []string{"a", "b", "c", "d", "e", "A"} {
			for _, name := range []string{"A", "B", "C", "D", "E", "F", "G", "H", "K", "P", "Z", "x"} {
				_, d, _, e := scope.Find(l, file, file+"."+name)
				is := e == api.OK && d.Kind == api.DefEnum
				if is {
					keys++
				}
				if got := alias.Key(l, file+"."+name); got != is {
					t.Errorf("Key(%v, %s.%s): %t", l, file, name, got)
				}
				wantKey(t, l, name, false)
				wantKey(t, l, "list<"+file+"."+name+">", false)
			}
		}
	}
	if keys < 300 {
		t.Errorf("only %d keys", keys)
	}
}
