package kind_test

import (
	"fmt"
	"math"
	"regexp"
	"slices"
	"strings"
	"testing"
	"unsafe"

	"assayer/api"
	"assayer/kind"
)

const (
	letters = "abcdefghijklmnopqrstuvwxyzABCDEFGHIJKLMNOPQRSTUVWXYZ"
	digits  = "0123456789"
)

// word is one of the eight that are types alone.
type word struct {
	kind int
	text string
}

var plainWords = []word{
	{2, "bool"}, {3, "i8"}, {6, "i16"}, {8, "i32"}, {10, "i64"}, {4, "double"}, {11, "string"}, {16, "binary"},
}

var eleven = []string{"bool", "i8", "i16", "i32", "i64", "double", "string", "binary", "list", "set", "map"}

// answer is one of Head.
type answer struct {
	kind       int
	name, a, b string
	e          api.Errno
}

func headOf(t string) (h answer) {
	h.kind, h.name, h.a, h.b, h.e = kind.Head(t)
	return h
}

// wantHead checks what Head answers, twice, and May.
func wantHead(t *testing.T, s string, want answer) {
	t.Helper()
	for range 2 {
		if h := headOf(s); h != want {
			t.Errorf("Head(%.200q): %.200q, want %.200q", s, fmt.Sprint(h), fmt.Sprint(want))
		}
		if may := kind.May(s); may != (want.e == api.OK) {
			t.Errorf("May(%.200q): %t, beside the error %d", s, may, want.e)
		}
	}
}

// wantInside checks what Depth and Names answer.
func wantInside(t *testing.T, s string, depth int, names ...string) {
	t.Helper()
	if d := kind.Depth(s); d != depth {
		t.Errorf("Depth(%.200q): %d, want %d", s, d, depth)
	}
	if l := kind.Names(s); !slices.Equal(l, names) {
		t.Errorf("Names(%.200q): %.200q, want %.200q", s, l, names)
	}
}

// wantType checks that a text is that of a type with this head, and that Show
// answers that text.
func wantType(t *testing.T, s string, number int, name, a, b string) {
	t.Helper()
	wantHead(t, s, answer{kind: number, name: name, a: a, b: b})
	if shown := kind.Show(number, name, a, b); shown != s {
		t.Errorf("Show(%d, %.60q, %.60q, %.60q): %.200q, want %.200q", number, name, a, b, shown, s)
	}
}

// wantAnywhere checks that a text is that of a type with this head, alone and in
// other types.
func wantAnywhere(t *testing.T, s string, number int, name, a, b string) {
	t.Helper()
	wantType(t, s, number, name, a, b)
	wantType(t, "list<"+s+">", api.List, "", s, "")
	wantType(t, "set<"+s+">", api.Set, "", s, "")
	wantType(t, "map<"+s+",i8>", api.Map, "", s, "i8")
	wantType(t, "map<x.y,"+s+">", api.Map, "", "x.y", s)
	wantType(t, "map<"+s+","+s+">", api.Map, "", s, s)
	wantType(t, "map<set<"+s+">,list<map<"+s+","+s+">>>", api.Map, "", "set<"+s+">", "list<map<"+s+","+s+">>")
}

// wantError checks that there is this error and nothing else.
func wantError(t *testing.T, s string, e api.Errno) {
	t.Helper()
	wantHead(t, s, answer{e: e})
	wantInside(t, s, 0)
}

// wantNone checks that a text is not that of a type, alone and in other types.
func wantNone(t *testing.T, s string) {
	t.Helper()
	wantError(t, s, api.ErrForm)
	wantError(t, "list<"+s+">", api.ErrForm)
	wantError(t, "set<"+s+">", api.ErrForm)
	wantError(t, "map<i8,"+s+">", api.ErrForm)
	wantError(t, "map<list<"+s+">,i8>", api.ErrForm)
	wantError(t, "map<a,set<"+s+">>", api.ErrForm)
}

// deep returns a text so often within the beginning and the end of another one.
func deep(times int, before, s, behind string) string {
	return strings.Repeat(before, times) + s + strings.Repeat(behind, times)
}

// wraps are the ways in which a type lies within another one; in those of besides,
// it lies beside a list or a set.
var (
	wraps   = [][2]string{{"list<", ">"}, {"set<", ">"}, {"map<", ",i8>"}, {"map<", ",a.b>"}, {"map<i8,", ">"}}
	besides = [][2]string{{"map<list<i8>,", ">"}, {"map<", ",set<a>>"}}
)

// everyByte calls f with each byte, as a text.
func everyByte(f func(b string)) {
	for i := range 256 {
		f(string([]byte{byte(i)}))
	}
}

// The document's own words, told another way: runs of letters, digits, `_` and full
// stops become one letter each, by what they are, and lists, sets and maps become a
// type until nothing changes any more.

var (
	plainRun  = regexp.MustCompile(`[A-Za-z0-9_.]+`)
	plainName = regexp.MustCompile(`^([A-Za-z_][A-Za-z0-9_]*)(?:\.[A-Za-z_][A-Za-z0-9_]*)*$`)
	plainNest = regexp.MustCompile(`L<[BN]>|M<[BN],[BN]>`)
)

// plainSort tells what a run is: B a type alone, L a list or set, M a map, N a name,
// or ! none of them.
func plainSort(run string) string {
	switch run {
	case "list", "set":
		return "L"
	case "map":
		return "M"
	}
	if slices.Contains(eleven, run) {
		return "B"
	}
	if m := plainName.FindStringSubmatch(run); m != nil && !slices.Contains(eleven, m[1]) {
		return "N"
	}
	return "!"
}

// plainIs tells whether s is the text of a type, however deep.
func plainIs(s string) bool {
	s = plainRun.ReplaceAllStringFunc(s, plainSort)
	for plainNest.MatchString(s) {
		s = plainNest.ReplaceAllString(s, "B")
	}
	return s == "B" || s == "N"
}

// plainDepth returns how deep the types within s lie, if s is a type.
func plainDepth(s string) (depth int) {
	open := 0
	for _, c := range s {
		switch c {
		case '<':
			open++
		case '>':
			open--
		}
		depth = max(depth, open)
	}
	return depth
}

// plainWhole returns s, which ends with the word of a list, a set or a map, with
// what makes a type of it, if it is the beginning of one.
func plainWhole(s string) string {
	s += map[bool]string{true: "<i8,i8>", false: "<i8>"}[strings.HasSuffix(s, "map")]
	var lacking []string // behind s, the last one first
	for i := range s {
		switch s[i] {
		case '<':
			lacking = append(lacking, map[bool]string{true: ",i8>", false: ">"}[strings.HasSuffix(s[:i], "map")])
		case ',':
			if len(lacking) > 0 {
				lacking[len(lacking)-1] = ">"
			}
		case '>':
			if len(lacking) > 0 {
				lacking = lacking[:len(lacking)-1]
			}
		}
	}
	slices.Reverse(lacking)
	return s + strings.Join(lacking, "")
}

// plainError returns the first error from the left.
func plainError(s string) api.Errno {
	for _, run := range plainRun.FindAllStringIndex(s, -1) {
		ahead, until := s[:run[0]], s[:run[1]]
		open := strings.Count(ahead, "<") - strings.Count(ahead, ">")
		sort := plainSort(s[run[0]:run[1]])
		if open >= api.MaxNest && (sort == "L" || sort == "M") && plainIs(plainWhole(until)) {
			return api.ErrDepth
		}
	}
	if !plainIs(s) {
		return api.ErrForm
	}
	return api.OK
}

// plainHead returns the head of a type.
func plainHead(s string) (h answer) {
	ahead, behind, nests := strings.Cut(s, "<")
	switch {
	case !nests && plainSort(s) == "N":
		return answer{name: s}
	case !nests:
		i := slices.IndexFunc(plainWords, func(w word) bool { return w.text == s })
		return answer{kind: plainWords[i].kind}
	}
	behind = strings.TrimSuffix(behind, ">")
	switch ahead {
	case "list":
		return answer{kind: 15, a: behind}
	case "set":
		return answer{kind: 14, a: behind}
	}
	for i := range behind {
		if behind[i] == ',' && plainIs(behind[:i]) {
			h = answer{kind: 13, a: behind[:i], b: behind[i+1:]}
		}
	}
	return h
}

// wantPlain checks that all functions answer what the document's own words do.
func wantPlain(t *testing.T, s string) {
	t.Helper()
	if e := plainError(s); e != api.OK {
		wantError(t, s, e)
		return
	}
	h := plainHead(s)
	wantType(t, s, h.kind, h.name, h.a, h.b)
	var names []string
	for _, run := range plainRun.FindAllString(s, -1) {
		if plainSort(run) == "N" {
			names = append(names, run)
		}
	}
	wantInside(t, s, plainDepth(s), names...)
}

// everyText calls f with each text of up to so many of these pieces.
func everyText(pieces []string, most int, f func(s string)) {
	texts := []string{""}
	for range most + 1 {
		var longer []string
		for _, s := range texts {
			f(s)
			for _, p := range pieces {
				longer = append(longer, s+p)
			}
		}
		texts = longer
	}
}

// next returns a number below n, by a rule.
type next struct{ seed uint64 }

func (r *next) below(n int) int {
	r.seed ^= r.seed << 13
	r.seed ^= r.seed >> 7
	r.seed ^= r.seed << 17
	return int(r.seed >> 11 % uint64(n))
}

// someType returns the text of a type, by that rule, of at most that depth, with its
// depth and its names.
func someType(r *next, most int) (s string, depth int, names []string) {
	sort := r.below(8)
	if most == 0 || sort < 2 {
		if sort%2 == 0 {
			return plainWords[r.below(len(plainWords))].text, 0, nil
		}
		s = []string{"a", "_", "b.c", "list1", "x.list.bool", "I8", "e.f.g.h"}[r.below(7)]
		return s, 0, []string{s}
	}
	a, depth, names := someType(r, most-1)
	if sort < 5 {
		return []string{"list<", "set<"}[sort%2] + a + ">", depth + 1, names
	}
	b, other, more := someType(r, most-1)
	return "map<" + a + "," + b + ">", max(depth, other) + 1, slices.Concat(names, more)
}

// P6.1: Head

func TestHeadOfTheExamples(t *testing.T) {
	wantAnywhere(t, "_a1.list.bool", 0, "_a1.list.bool", "", "")
	wantNone(t, "map<i8>")
	wantInside(t, "map<i8,list<i8>>", 2)
}

func TestHeadOfEachWord(t *testing.T) {
	for _, w := range plainWords {
		wantAnywhere(t, w.text, w.kind, "", "", "")
	}
}

func TestHeadOfListsSetsAndMapsOfEachWord(t *testing.T) {
	for _, w := range plainWords {
		wantAnywhere(t, "list<"+w.text+">", api.List, "", w.text, "")
		wantAnywhere(t, "set<"+w.text+">", api.Set, "", w.text, "")
		for _, v := range plainWords {
			wantAnywhere(t, "map<"+w.text+","+v.text+">", api.Map, "", w.text, v.text)
		}
	}
}

func TestHeadOfListsSetsAndMapsWithinEachOther(t *testing.T) {
	types := []string{"list<i8>", "set<a.b>", "map<i8,a>", "map<c,list<i64>>", "map<set<i8>,d>", "map<map<i8,i8>,list<set<x>>>", "list<list<list<e>>>"}
	for _, a := range types {
		wantAnywhere(t, "list<"+a+">", api.List, "", a, "")
		wantAnywhere(t, "set<"+a+">", api.Set, "", a, "")
		for _, b := range types {
			wantAnywhere(t, "map<"+a+","+b+">", api.Map, "", a, b)
		}
	}
}

func TestHeadOfNames(t *testing.T) {
	for _, s := range []string{
		"a", "Z", "_", "__", "_1", "a1", "a_b", "A9_z", "a.b", "a.b.c", "a.b.c.d.e", "_._", "_1._2.z3", "T", "byte", "void", "struct", "true",
		letters, "_" + digits, strings.Repeat("n", 200), strings.Repeat("n.", 100) + "n",
	} {
		wantAnywhere(t, s, 0, s, "", "")
	}
}

func TestHeadOfNamesOfEachByte(t *testing.T) {
	everyByte(func(b string) {
		letter, digit := strings.Contains(letters+"_", b), strings.Contains(digits, b)
		for _, s := range []string{b, b + "a", "a." + b, "a." + b + "b", "list1." + b} {
			wantNameIf(t, letter, s)
		}
		for _, s := range []string{"a" + b, "a" + b + "b", "a.b" + b, "a" + b + ".b", "_" + b, "q" + b + b} {
			wantNameIf(t, letter || digit || s == "a.b", s)
		}
	})
}

func wantNameIf(t *testing.T, is bool, s string) {
	t.Helper()
	switch {
	case is:
		wantAnywhere(t, s, 0, s, "", "")
	default:
		wantPlain(t, s)
		if strings.ContainsAny(s, ",<>") {
			return // in a map it may be a type: list<a,b> is none, map<a,b> is
		}
		wantNone(t, s)
	}
}

func TestHeadOfNamesWithWordsOfTypes(t *testing.T) {
	for _, w := range eleven {
		wantNone(t, w+".a")
		wantNone(t, w+"."+w)
		wantNone(t, w+".a.b")
		for _, s := range []string{"a." + w, "a." + w + ".b", "a." + w + "." + w, "_." + w, "byte." + w, w + "_." + w, "_" + w + "." + w} {
			wantAnywhere(t, s, 0, s, "", "")
		}
	}
}

// A word of a type with a letter more, or one less, or in capitals.
func TestHeadOfNamesLikeWordsOfTypes(t *testing.T) {
	for _, w := range eleven {
		like := []string{strings.ToUpper(w), strings.ToUpper(w[:1]) + w[1:], w + w, w[:len(w)-1]}
		for _, c := range "as_Z19" {
			like = append(like, w+string(c))
		}
		for _, c := range "as_Z" {
			like = append(like, string(c)+w)
		}
		if w != "i8" && w != "i16" && w != "i32" && w != "i64" {
			like = append(like, w[1:])
		}
		for _, s := range like {
			wantAnywhere(t, s, 0, s, "", "")
			wantAnywhere(t, s+".a", 0, s+".a", "", "")
			wantNone(t, s+"<i8>")
			wantNone(t, s+"<i8,i8>")
		}
	}
	for _, s := range []string{"8", "16", "32", "64", "6", "4"} {
		wantNone(t, s)
	}
}

func TestHeadOfTextsOfNoType(t *testing.T) {
	for _, s := range []string{
		"", " ", "1", "9a", "1_", ".", "..", ".a", "a.", "a..b", "..a", "a..", "a.b.", "a...b", "a.1", "a.1b", "a.b.2", "1.a", "i8.", ".i8", "list.", ".list",
		"a b", " a", "a ", "a\t", "\na", "a\x00", "\x00", "\xFF", "a\xFF", "\u00E9", "a\u00E9", "a-b", "-a", "a/b", "a:b", "a*", "*", "#a", "a;", "a=1", "'a'", "(a)", "[a]", "{a}", "a@", "a$b", "i8 ", " i8", "i 8",
	} {
		wantNone(t, s)
	}
}

func TestHeadOfTextsWithSignsLacking(t *testing.T) {
	for _, s := range []string{
		"list", "set", "map", "list<", "set<", "map<", "list<>", "set<>", "map<>", "list<i8", "set<a.b", "map<i8,i8", "map<i8,", "map<i8", "map<i8,>", "map<,i8>", "map<,>", "map<i8>",
		"map<i8 i8>", "listi8>", "list i8>", "list>", "set>", "map>", "map<i8i8>", "mapi8,i8>", "map,i8>", "list<list<i8>", "map<map<i8,i8>", "map<list<i8>>", "map<list<i8,i8>", "set<map<i8>>", "list<set>", "list<map>", "map<list,i8>", "map<i8,set>", "map<list<i8>set<i8>>",
	} {
		wantNone(t, s)
	}
}

func TestHeadOfTextsWithSignsTooMany(t *testing.T) {
	for _, s := range []string{
		"<", ">", ",", "<>", "<i8>", ">i8", "<i8", "i8<", "i8>", ",i8", "i8,", "i8,i8", "i8<i8>", "bool<>", "string<i8>", "a<i8>", "a.b<i8>", "a<", "a>", "a,", "a,b", "a<b,c>",
		"list<i8>>", "list<<i8>", "list<<i8>>", "list<i8,>", "list<,i8>", "list<i8,i8>", "set<i8,i8>", "set<i8>>", "map<i8,i8,i8>", "map<i8,i8,>", "map<i8,,i8>", "map<,i8,i8>", "map<i8,i8>>", "map<<i8,i8>", "map<i8><i8>", "list<i8>,", "list<i8><i8>", "list<i8>i8", "list<i8>list<i8>",
		"list<i8>.a", "a.list<i8>", "list.a<i8>", "list.<i8>", "i8list<i8>", "map<list<i8>,i8,i8>", "list<a<b>>",
	} {
		wantNone(t, s)
	}
}

func TestHeadOfTypesWithSpaces(t *testing.T) {
	for _, s := range []string{"list<i8>", "set<a.b>", "map<i8,a.B>", "map<map<i8,i8>,list<set<x>>>"} {
		for at := range len(s) + 1 {
			for _, gap := range []string{" ", "\t", "\n", "\r", "  ", "/**/", "\x00"} {
				wantNone(t, s[:at]+gap+s[at:])
			}
		}
	}
}

func TestHeadWithSomethingBehind(t *testing.T) {
	for _, s := range []string{"i8", "a", "a.b", "list<i8>", "set<list<i8>>", "map<i8,a>", "map<set<i8>,list<b>>"} {
		everyByte(func(b string) {
			wantPlain(t, s+b)
			wantPlain(t, s+b+s)
			if strings.HasSuffix(s, ">") {
				wantError(t, s+b, api.ErrForm)
			}
		})
		for _, behind := range []string{">", ",", "<", " ", "\n", ",i8", "<i8>", " i8", ">>", "\x00\x00", ".", ".1", ". a"} {
			wantError(t, s+behind, api.ErrForm)
		}
	}
}

// P6.1: how deep

func TestHeadOfTheDeepestTypes(t *testing.T) {
	for _, w := range wraps {
		for _, s := range []string{"i8", "binary", "a", "a.b.c"} {
			inner := deep(api.MaxNest-1, w[0], s, w[1])
			wantPlain(t, w[0]+inner+w[1])
			wantHead(t, "list<"+inner+">", answer{kind: api.List, a: inner})
			wantHead(t, "set<"+inner+">", answer{kind: api.Set, a: inner})
			wantHead(t, "map<"+inner+",i8>", answer{kind: api.Map, a: inner, b: "i8"})
			wantHead(t, "map<a.b,"+inner+">", answer{kind: api.Map, a: "a.b", b: inner})
			wantHead(t, "map<"+inner+","+inner+">", answer{kind: api.Map, a: inner, b: inner})
		}
	}
	for _, w := range besides {
		s := deep(api.MaxNest-1, w[0], "i8", w[1])
		wantPlain(t, s)
		wantError(t, w[0]+s+w[1], api.ErrDepth)
	}
}

func TestHeadOfTypesTooDeep(t *testing.T) {
	for _, w := range wraps {
		for _, v := range slices.Concat(wraps, besides) {
			for _, s := range []string{"i8", "a.b"} {
				whole := deep(api.MaxNest, w[0], s, w[1])
				wantError(t, v[0]+whole+v[1], api.ErrDepth)
				wantError(t, deep(api.MaxNest, w[0], v[0]+s+v[1], w[1]), api.ErrDepth)
				wantError(t, deep(20, w[0], v[0]+s+v[1], w[1]), api.ErrDepth)
			}
		}
	}
	for _, w := range []string{"list<", "set<", "map<i8,"} {
		for _, s := range []string{"list<i8>", "set<i8>", "map<i8,i8>"} {
			wantError(t, deep(api.MaxNest, w, s, ">"), api.ErrDepth)
			wantHead(t, deep(api.MaxNest-1, w, s, ">"), plainHead(deep(api.MaxNest-1, w, s, ">")))
		}
	}
}

// In a part of a type that is deep, names and words alone are no deeper.
func TestHeadCountsListsSetsAndMapsAlone(t *testing.T) {
	for _, w := range plainWords {
		wantInside(t, deep(api.MaxNest, "list<", w.text, ">"), api.MaxNest)
		wantInside(t, deep(api.MaxNest, "map<"+w.text+",", w.text, ">"), api.MaxNest)
	}
	for _, s := range []string{"a", "lists", "a.list", "set_.map"} {
		wantInside(t, deep(api.MaxNest, "set<", s, ">"), api.MaxNest, s)
	}
}

// One behind the other, they are not within each other.
func TestHeadDoesNotCountTypesBehindEachOther(t *testing.T) {
	inner := deep(api.MaxNest-1, "list<", "i8", ">")
	for _, s := range []string{"map<" + inner + "," + inner + ">", "map<set<i8>," + inner + ">", "map<" + inner + ",set<i8>>"} {
		wantPlain(t, s)
		wantInside(t, s, api.MaxNest)
		wantError(t, "list<"+s+">", api.ErrDepth)
	}
	wide := "i8"
	for range api.MaxNest {
		wide = "map<" + wide + "," + wide + ">"
	}
	wantInside(t, wide, api.MaxNest)
	wantError(t, "map<"+wide+",i8>", api.ErrDepth)
	wantError(t, "map<i8,"+wide+">", api.ErrDepth)
}

// The error of the depth, with one of the form to the right of it.
func TestHeadTellsTheDepthFirst(t *testing.T) {
	for _, w := range wraps {
		open := strings.Repeat(w[0], api.MaxNest)
		for _, deepest := range []string{"list", "set", "map"} {
			for _, behind := range []string{"<", "<i8", "<i8>", "<>", "<1", "<i8.a", "<i8,", "< ", "<i8,i8,i8>", "<list<", "", ">", ",", " ", "\xFF", " <i8>"} {
				wantError(t, open+deepest+behind, api.ErrDepth)
				wantError(t, open+deepest+behind+strings.Repeat(w[1], api.MaxNest), api.ErrDepth)
			}
		}
	}
	whole := deep(api.MaxNest+1, "list<", "i8", ">")
	wantError(t, whole+">", api.ErrDepth)
	wantError(t, whole+" ", api.ErrDepth)
	wantError(t, "map<"+whole+">", api.ErrDepth)
	wantError(t, "map<"+whole+",1>", api.ErrDepth)
	wantError(t, "map<i8,"+whole+",i8>", api.ErrDepth)
	wantError(t, "list<"+whole[:60], api.ErrDepth)
}

// The error of the depth, with one of the form to the left of it.
func TestHeadTellsTheFormFirst(t *testing.T) {
	whole := deep(api.MaxNest+1, "list<", "i8", ">")
	for _, ahead := range []string{
		"map<1,", "map<,", "map<i8.a,", "map<a..b,", "map<a.,", "map<list,", "map<list.a,", "map<i8,i8,", "map< i8,", "map<i8 ,", "map<i8, ", "map<list<i8,", "list<i8,", "set<a,",
		" ", "<", "list<<", "list <", "a<", "i8<", "i8,", "a,", "list<i8>", "list<i8>,", "map<i8><", "map<<", ",", ">", ".", "\xFF", "map<a\x00,", "map<\u00E9,",
	} {
		wantError(t, ahead+whole, api.ErrForm)
		wantError(t, ahead+whole+">", api.ErrForm)
		wantError(t, ahead+whole+",i8>", api.ErrForm)
	}
	// At the depth that is too great, but with no word of a list, a set or a map.
	for _, w := range wraps {
		open, end := strings.Repeat(w[0], api.MaxNest), strings.Repeat(w[1], api.MaxNest)
		for _, s := range []string{"list.a", "set.list", "map.", "list..", "list.<i8>", "lists<i8>", "list1<i8>", "a<list<i8>>", "i8<i8>", "1list<i8>", ".list<i8>", "a.list<i8>", "i8.list<i8>", "<list<i8>>", " list<i8>", "", ","} {
			wantError(t, open+s, api.ErrForm)
			wantError(t, open+s+end, api.ErrForm)
		}
	}
}

// P6.1: Show

func TestShowOfEachKind(t *testing.T) {
	for k, want := range map[int]string{
		0: "n", 2: "bool", 3: "i8", 4: "double", 6: "i16", 8: "i32", 10: "i64", 11: "string", 13: "map<a,b>", 14: "set<a>", 15: "list<a>", 16: "binary",
	} {
		if s := kind.Show(k, "n", "a", "b"); s != want {
			t.Errorf("Show(%d): %q, want %q", k, s, want)
		}
	}
}

func TestShowOfNumbersThatAreNoKinds(t *testing.T) {
	for _, k := range []int{math.MinInt, -256, -16, -15, -2, -1, 1, 5, 7, 9, 12, 17, 18, 19, 31, 32, 255, 256, 258, 1 << 32, 1<<32 + 2, math.MaxInt} {
		for _, s := range []string{"", "a", "i8", "list<i8>"} {
			if got := kind.Show(k, s, s, s); got != "" {
				t.Errorf("Show(%d, %q): %q", k, s, got)
			}
		}
	}
}

func TestShowOfTypesWithinTypes(t *testing.T) {
	for _, a := range []string{"i8", "binary", "a.b", "list<i8>", "map<i8,set<c>>"} {
		wantType(t, a, headOf(a).kind, headOf(a).name, headOf(a).a, headOf(a).b)
		wantType(t, "list<"+a+">", api.List, "", a, "")
		wantType(t, "set<"+a+">", api.Set, "", a, "")
		wantType(t, "map<"+a+",i8>", api.Map, "", a, "i8")
		wantType(t, "map<i8,"+a+">", api.Map, "", "i8", a)
	}
}

// What follows: Head of what Show returns is the head that Show was given.
func TestHeadOfWhatIsShown(t *testing.T) {
	r := &next{seed: 88172645463325252}
	for range 2000 {
		a, _, _ := someType(r, 5)
		b, _, _ := someType(r, 5)
		for _, h := range []answer{{kind: api.List, a: a}, {kind: api.Set, a: b}, {kind: api.Map, a: a, b: b}, headOf(a), headOf(b)} {
			wantHead(t, kind.Show(h.kind, h.name, h.a, h.b), h)
		}
	}
	for _, w := range plainWords {
		wantHead(t, kind.Show(w.kind, "", "", ""), answer{kind: w.kind})
	}
	for _, s := range []string{"a", "a.b", "_1.list"} {
		wantHead(t, kind.Show(0, s, "", ""), answer{name: s})
	}
}

// P6.1: Depth and Names

func TestDepth(t *testing.T) {
	for s, want := range map[string]int{
		"i8": 0, "a": 0, "a.b": 0, "list<i8>": 1, "set<a>": 1, "map<i8,i8>": 1, "list<list<i8>>": 2, "set<map<i8,a>>": 2, "map<i8,list<i8>>": 2, "map<list<i8>,i8>": 2,
		"map<list<i8>,list<i8>>": 2, "map<set<list<i8>>,i8>": 3, "map<i8,set<list<i8>>>": 3, "map<list<set<list<i8>>>,list<i8>>": 4, "map<list<i8>,list<set<list<i8>>>>": 4,
	} {
		if d := kind.Depth(s); d != want {
			t.Errorf("Depth(%q): %d, want %d", s, d, want)
		}
	}
	for _, w := range wraps {
		for d := range api.MaxNest + 1 {
			if got := kind.Depth(deep(d, w[0], "i8", w[1])); got != d {
				t.Errorf("Depth of %d times %q: %d", d, w[0], got)
			}
		}
	}
}

func TestNames(t *testing.T) {
	wantInside(t, "i8", 0)
	wantInside(t, "list<map<i8,binary>>", 2)
	wantInside(t, "a", 0, "a")
	wantInside(t, "_a1.list.bool", 0, "_a1.list.bool")
	wantInside(t, "list<a.b>", 1, "a.b")
	wantInside(t, "map<b,a>", 1, "b", "a")
	wantInside(t, "map<a,a>", 1, "a", "a")
	wantInside(t, "map<a.b,list<map<c,a.b>>>", 3, "a.b", "c", "a.b")
	wantInside(t, "map<map<z,y>,map<x,map<y,z>>>", 3, "z", "y", "x", "y", "z")
	wantInside(t, "map<a,map<i8,map<A,a>>>", 3, "a", "A", "a")
	wide, want := "n", []string{"n"}
	for range api.MaxNest {
		wide, want = "map<"+wide+","+wide+">", slices.Concat(want, want)
	}
	wantInside(t, wide, api.MaxNest, want...)
}

func TestDepthAndNamesOfTextsOfNoType(t *testing.T) {
	for _, s := range []string{
		"", "1", "a.", "list<a", "list<a>>", "map<a,b", "map<a,b,c>", "map<a,1>", "list<a> ", "list<list<a>", "map<a,list<b>,c>", "map<list<a>,>", "a b", "a,b", "a<b>",
	} {
		wantInside(t, s, 0)
	}
	wantInside(t, deep(api.MaxNest+1, "list<", "a", ">"), 0)
	wantInside(t, "map<a,"+deep(api.MaxNest, "set<", "b", ">")+">", 0)
	wantInside(t, "map<a,"+deep(api.MaxNest-1, "set<", "b", ">")+">", api.MaxNest, "a", "b")
}

// P6.1: Wire

func TestWire(t *testing.T) {
	want := map[int]int{2: 2, 3: 3, 4: 4, 6: 6, 8: 8, 10: 10, 11: 11, 12: 12, 13: 13, 14: 14, 15: 15, 16: 11, 17: 8}
	for k := -300; k <= 600; k++ {
		if got := kind.Wire(k); got != want[k] {
			t.Errorf("Wire(%d): %d, want %d", k, got, want[k])
		}
	}
	for _, k := range []int{math.MinInt, math.MinInt32, math.MaxInt32, math.MaxInt, 1<<32 + api.Bool, 1<<32 + api.Enum, math.MinInt + api.Binary} {
		if got := kind.Wire(k); got != 0 {
			t.Errorf("Wire(%d): %d", k, got)
		}
	}
}

// The document's own words

func TestAllShortTexts(t *testing.T) {
	everyText([]string{"list", "map", "i8", "<", ">", ","}, 6, func(s string) { wantPlain(t, s) })
	everyText([]string{"set", "map", "a", ".", "<", ">", ",", "1", " ", "_"}, 4, func(s string) { wantPlain(t, s) })
	everyText([]string{"i", "8", "i8", ".", "_", "list"}, 5, func(s string) { wantPlain(t, s) })
}

func TestAllShortTextsWithinDeepTypes(t *testing.T) {
	pieces := []string{"list", "map", "i8", "a", ".", "<", ">", ","}
	for _, w := range [][2]string{{"set<", ">"}, {"map<i8,", ">"}, {"map<", ",a>"}} {
		for depth := api.MaxNest - 2; depth <= api.MaxNest; depth++ {
			everyText(pieces, 3, func(s string) {
				wantPlain(t, strings.Repeat(w[0], depth)+s)
				wantPlain(t, deep(depth, w[0], s, w[1]))
			})
		}
	}
}

func TestSomeTypes(t *testing.T) {
	r := &next{seed: 2463534242}
	for round := range 3000 {
		s, depth, names := someType(r, round%(api.MaxNest+1))
		if e := headOf(s).e; e != api.OK {
			t.Fatalf("Head(%.200q): %d", s, e)
		}
		wantInside(t, s, depth, names...)
	}
}

// Types by a rule, with a piece put in, taken out or put in another's place.
func TestSomeTypesWithAFault(t *testing.T) {
	r := &next{seed: 362436069}
	pieces := []string{"", "<", ">", ",", " ", ".", "1", "a", "list", "set<", "map<i8,", "i8", "list<i8>", ",i8", "\x00", deep(9, "list<", "i8", ">")}
	for range 8000 {
		s, _, _ := someType(r, 4)
		if len(s) > 200 {
			continue
		}
		at := r.below(len(s) + 1)
		until := min(len(s), at+r.below(3))
		wantPlain(t, s[:at]+pieces[r.below(len(pieces))]+s[until:])
	}
}

// R1: every call ends, and soon, however long the text.

func TestVeryLongTexts(t *testing.T) {
	const times = 1 << 20
	for _, s := range []string{".", "1", " ", "<", ">", ",", "a.", "i8,", "i8<", "a,", "list<i8>", "\x00", "\xFF", "map<i8>", "list>"} {
		wantError(t, strings.Repeat(s, times), api.ErrForm)
	}
	for _, s := range []string{"list<", "set<", "map<", "map<i8,", "map<list<i8>,"} {
		wantError(t, strings.Repeat(s, times), api.ErrDepth)
	}
	for _, s := range []string{"a", strings.Repeat("b.", times) + "c", strings.Repeat("list", times), "_" + strings.Repeat("9", times)} {
		wantType(t, s, 0, s, "", "")
		wantType(t, "map<"+s+",list<"+s+">>", api.Map, "", s, "list<"+s+">")
		wantError(t, s+".", api.ErrForm)
	}
}

func TestShowOfAnyTexts(t *testing.T) {
	long := strings.Repeat("\xFF<", 1<<20)
	for k := -3; k < 20; k++ {
		for _, s := range []string{"", "\x00", ">", "\xC3", long} {
			a, b := kind.Show(k, s, s, s), kind.Show(k, s, s, s)
			if a != b {
				t.Errorf("Show(%d, %.60q): %.60q, and %.60q", k, s, a, b)
			}
		}
	}
}

// R3: what is answered is new memory.

// sharesMemory tells whether a part of two texts is the same memory.
func sharesMemory(s, t string) bool {
	a, b := uintptr(unsafe.Pointer(unsafe.StringData(s))), uintptr(unsafe.Pointer(unsafe.StringData(t)))
	return s != "" && t != "" && a < b+uintptr(len(t)) && b < a+uintptr(len(s))
}

func TestNothingOfTheTextIsKept(t *testing.T) {
	name := strings.Repeat("name.of", 3)
	for _, s := range []string{name, "list<" + name + ">", "set<" + name + ">", "map<" + name + ",list<" + name + ">>"} {
		h := headOf(s)
		for _, part := range append(kind.Names(s), h.name, h.a, h.b, kind.Show(0, s, "", "")) {
			if sharesMemory(s, part) {
				t.Errorf("%q shares memory with %q", part, s)
			}
		}
		for k := range 20 {
			if sharesMemory(kind.Show(k, s, s, s), s) {
				t.Errorf("Show(%d) shares memory with its argument", k)
			}
		}
	}
}

func TestNamesAnswersANewList(t *testing.T) {
	const s = "map<a.b,list<map<c,a.b>>>"
	l := kind.Names(s)
	for i := range l {
		l[i] = "x"
	}
	clear(l[:cap(l)])
	wantInside(t, s, 3, "a.b", "c", "a.b")
}

// R4: an answer hangs on no call before it.
func TestAnswersHangOnTheTextAlone(t *testing.T) {
	texts := []string{
		"", "i8", "a.b", "list<a>", "map<a,list<b>>", "map<a>", "list<list<a>", deep(api.MaxNest, "set<", "a", ">"), deep(api.MaxNest+1, "set<", "a", ">"), "map<list<a>,1>",
	}
	for _, s := range texts {
		h, depth, names := headOf(s), kind.Depth(s), kind.Names(s)
		for _, other := range texts {
			headOf(other)
			kind.Names(other)
			kind.Depth(other)
			wantHead(t, s, h)
			wantInside(t, s, depth, names...)
		}
	}
}
