package print_test

import (
	"math"
	"strconv"
	"strings"
	"testing"
	"unsafe"

	"assayer/api"
	"assayer/dec"
	"assayer/parse"
	"assayer/print"
)

const longName = "nnnnnnnnnnnnnnnnnnnnnnnnnnnnnnnnnnnnnnnn" // MaxName bytes

// parsed returns the file of a text, which must have one.
func parsed(t *testing.T, text string) api.File {
	t.Helper()
	f, e, at := parse.Parse(text)
	if e != api.OK {
		t.Fatalf("Parse(%.300q): %d at %d", text, e, at)
	}
	return f
}

// wantText checks what Print answers for the file of a text, twice; and that Parse
// takes that as the same file, or finds it too long.
func wantText(t *testing.T, text, want string) {
	t.Helper()
	f := parsed(t, text)
	for range 2 {
		if got := print.Print(f); got != want {
			t.Errorf("Print of %.300q: %.900q, want %.900q", text, got, want)
		}
	}
	g, e, at := parse.Parse(want)
	if len(want) > api.MaxText {
		if e != api.ErrLong || at != 0 {
			t.Errorf("Parse(%.100q..): %d at %d, want ErrLong", want, e, at)
		}
		return
	}
	if e != api.OK || !equal(f, g) || !print.Same(f, g) || !print.Same(g, f) {
		t.Errorf("Parse(%.300q): %d at %d, %v, want %v", want, e, at, g, f)
	}
}

// wantItself checks that texts are the texts of their files.
func wantItself(t *testing.T, texts ...string) {
	t.Helper()
	for _, s := range texts {
		wantText(t, s, s)
	}
}

// wantConst checks what Const answers for the constant with a text, and what Print
// answers where that constant may be.
func wantConst(t *testing.T, text, want string) {
	t.Helper()
	c := parsed(t, "const i8 A = "+text).Defs[0].Init
	for range 2 {
		if got := print.Const(c); got != want {
			t.Errorf("Const of %.300q: %.900q, want %.900q", text, got, want)
		}
	}
	for _, s := range []string{
		"const a.B A = %\n",
		"struct S {\n  i8 a = %,\n}\n",
		"union S {\n  2: optional i8 a = %,\n}\n",
		"service S {\n  void f(i8 a = %, i8 b = %) throws (i8 c = %),\n}\n",
		"const i8 A = [%, %]\n",
		"const i8 A = {%: %, 1: %}\n",
	} {
		wantText(t, strings.ReplaceAll(s, "%", text), strings.ReplaceAll(s, "%", want))
	}
}

func TestPrintOfNothing(t *testing.T) {
	wantItself(t, "")
	wantText(t, " # a\n /* */", "")
	if s := print.Print(api.File{}); s != "" {
		t.Errorf("Print of a file without content: %q", s)
	}
}

func TestPrintOfIncludes(t *testing.T) {
	wantItself(t, "include \"a\"\n", "include \"a\"\ninclude \"_b9\"\ninclude \"a\"\n", strings.Repeat("include \""+longName+"\"\n", api.MaxFiles))
	wantText(t, "include 'a'", "include \"a\"\n")
}

func TestPrintOfNamespaces(t *testing.T) {
	wantItself(t, "namespace a b\n", "namespace * b.c.d\n", "namespace x.y.z b\nnamespace * a\nnamespace a b\n", strings.Repeat("namespace * a.b\n", api.MaxFiles))
	wantText(t, "namespace\na\nb namespace*c", "namespace a b\nnamespace * c\n")
}

func TestPrintTellsIncludesThenNamespacesThenDefinitions(t *testing.T) {
	want := "include \"b\"\ninclude \"a\"\nnamespace z y\nnamespace * x\nunion U {\n}\ntypedef i8 T\n"
	for _, s := range []string{
		want,
		"namespace z y namespace * x include 'b' include 'a' union U {} typedef i8 T",
		"namespace z y include 'b' namespace * x include 'a' union U {} typedef i8 T",
		"include 'b' namespace z y namespace * x include 'a' union U {} typedef i8 T",
	} {
		wantText(t, s, want)
	}
}

func TestPrintOfTypedefs(t *testing.T) {
	for _, s := range []string{"bool", "i8", "i16", "i32", "i64", "double", "string", "binary", "a", "a.b.c", "list<i8>", "set<a.b>", "map<string,list<b.T>>", "map<map<i8,i8>,set<double>>"} {
		wantItself(t, "typedef "+s+" T\n", "typedef "+s+" _a\ntypedef "+s+" B\n")
	}
	wantText(t, "typedef map < byte ,\nlist<byte> > T;", "typedef map<i8,list<i8>> T\n")
	wantItself(t, "typedef "+strings.Repeat("set<", api.MaxNest)+"i8"+strings.Repeat(">", api.MaxNest)+" T\n")
}

func TestPrintOfConsts(t *testing.T) {
	wantItself(t, "const i8 A = 1\n", "const map<i8,list<a.b>> _ = {}\n", "const i8 A = 1\nconst i8 B = A\n", "const i8 A = -1\nconst bool B = true\n")
	wantText(t, "const i8 A=1,const i8 B=[];", "const i8 A = 1\nconst i8 B = []\n")
}

func TestPrintOfEnums(t *testing.T) {
	wantItself(t, "enum E {\n}\n", "enum E {\n  A,\n}\n", "enum E {\n  A,\n  B = 16,\n  C,\n  C = -1,\n}\n", "enum E {\n  A = 0,\n  B = -9223372036854775808,\n  C = 9223372036854775807,\n}\nenum E {\n}\n")
	wantText(t, "enum E{A=0x1F B;C,D=-0 F=+3}", "enum E {\n  A = 31,\n  B,\n  C,\n  D = 0,\n  F = 3,\n}\n")
	wantItself(t, "enum E {\n"+strings.Repeat("  A,\n", api.MaxFields)+"}\n")
}

func TestPrintOfStructsUnionsAndExceptions(t *testing.T) {
	for _, word := range []string{"struct", "union", "exception"} {
		wantItself(t, word+" S {\n}\n", word+" S {\n  i8 a,\n}\n", word+" S {\n  i8 a,\n  1: a.b c,\n}\n"+word+" S {\n}\n", word+" S {\n"+strings.Repeat("  i8 a,\n", api.MaxFields)+"}\n")
		wantText(t, word+"\tS{i8 a 2:byte b;}", word+" S {\n  i8 a,\n  2: i8 b,\n}\n")
	}
}

func TestPrintOfFields(t *testing.T) {
	for _, id := range []string{"", "1: ", "0: ", "-1: ", "9223372036854775807: ", "-9223372036854775808: "} {
		for _, req := range []string{"", "required ", "optional "} {
			for _, typ := range []string{"i8", "a.B", "map<i8,set<c>>"} {
				for _, init := range []string{"", " = 1", " = [a, {}]", " = \"\""} {
					s := id + req + typ + " x" + init
					wantItself(t, "struct S {\n  "+s+",\n}\n", "exception S {\n  "+s+",\n  "+s+",\n}\n")
					wantItself(t, "service P {\n  void f("+s+"),\n}\n", "service P {\n  i8 f("+s+", "+s+", i8 a) throws ("+s+", i8 a, "+s+"),\n}\n")
				}
			}
		}
	}
	wantText(t, "struct S { 0x10 : optional byte a=+1 }", "struct S {\n  16: optional i8 a = 1,\n}\n")
}

func TestPrintOfServices(t *testing.T) {
	wantItself(t, "service P {\n}\n", "service P extends Q {\n}\n", "service P extends a.b.Q {\n  void f(),\n}\n", "service P {\n  void f(),\n}\nservice P {\n}\n", "service P {\n"+strings.Repeat("  i8 f(),\n", api.MaxFields)+"}\n")
}

func TestPrintOfMethods(t *testing.T) {
	for _, oneway := range []string{"", "oneway "} {
		for _, ret := range []string{"void", "i64", "a.b.c", "map<i8,list<i8>>"} {
			for _, args := range []string{"", "i8 a", "1: i8 a, N b = 2, -3: required list<i8> c"} {
				for _, throws := range []string{"", " throws (X x)", " throws (1: X x, optional Y y = [])"} {
					s := "  " + oneway + ret + " f(" + args + ")" + throws + ",\n"
					wantItself(t, "service P {\n"+s+"}\n", "service P {\n"+s+"  void g(),\n"+s+s+"}\n")
				}
			}
		}
	}
	wantText(t, "service P { void f()throws(); byte g(i8 a;i8 b)throws(X x Y y) }", "service P {\n  void f(),\n  i8 g(i8 a, i8 b) throws (X x, Y y),\n}\n")
}

func TestConstOfInts(t *testing.T) {
	for _, s := range []string{"0", "1", "-1", "10", "-100", "16", "9223372036854775807", "-9223372036854775808"} {
		wantConst(t, s, s)
	}
	for s, want := range map[string]string{"+7": "7", "-0": "0", "007": "7", "0xfF": "255", "0x7fffffffffffffff": "9223372036854775807"} {
		wantConst(t, s, want)
	}
	for i := range 64 {
		for _, n := range []int64{1 << i, -1 << i, 1<<i - 1, 1 - 1<<i} {
			if got, want := print.Const(api.Const{Kind: api.ConInt, N: n}), strconv.FormatInt(n, 10); got != want {
				t.Errorf("Const of %d: %q", n, got)
			}
		}
	}
}

func TestConstOfDoubles(t *testing.T) {
	for s, want := range map[string]string{
		"1.0": "1.0e0", "0.0": "0.0e0", "-0.0": "-0.0e0", ".1": "1.0000000000000001e-1", "-1.5": "-1.5e0", "+1e2": "1.0e2", "1e-400": "0.0e0", "-5e-324": "-4.9406564584124654e-324", "1.7976931348623157e308": "1.7976931348623157e308", "12.5": "1.25e1",
	} {
		wantConst(t, s, want)
	}
	for i := range 2047 {
		for _, bits := range []uint64{uint64(i) << 52, uint64(i)<<52 | 1<<63, uint64(i)<<52 + 0x5555555555555} {
			want := dec.Show(bits)
			if got := print.Const(api.Const{Kind: api.ConDouble, D: bits}); got != want || want == "" {
				t.Errorf("Const of the bits %x: %q, want %q", bits, got, want)
			}
		}
	}
}

func TestConstOfTexts(t *testing.T) {
	for _, s := range []string{"", "a", " ", "'", "''", "a'b", "true", "1", "[", "//", "# /*", "\\", "\\'", "\r\t\x00\xff", "é", "a.b"} {
		wantConst(t, `"`+s+`"`, `"`+s+`"`)
	}
	for _, s := range []string{`"`, `""`, `a"b`, `"a`, `a"`, `\"`} {
		wantConst(t, "'"+s+"'", "'"+s+"'")
	}
	wantConst(t, "'a'", `"a"`)
	wantConst(t, "''", `""`)
	for i := range 256 {
		s, quote := string([]byte{byte(i)}), `"`
		if s == `"` {
			quote = "'"
		}
		for _, s := range []string{s, "a" + s, s + "b", s + s} {
			if got, want := print.Const(api.Const{Kind: api.ConText, S: s}), quote+s+quote; got != want {
				t.Errorf("Const of the text %q: %q", s, got)
			}
		}
	}
}

func TestConstOfNames(t *testing.T) {
	for _, s := range []string{"a", "_", "true", "false", "a.b", "a.b.c", "True", longName + "." + longName + "." + longName[2:]} {
		wantConst(t, s, s)
	}
}

func TestConstOfLists(t *testing.T) {
	for s, want := range map[string]string{
		"[]": "[]", "[1]": "[1]", "[1,]": "[1]", "[1 2;3,]": "[1, 2, 3]", "['a' b.c true -.5]": `["a", b.c, true, -5.0e-1]`, "[[] [[]] {}]": "[[], [[]], {}]", "[[1,2],[3],4]": "[[1, 2], [3], 4]", "['' '']": `["", ""]`,
	} {
		wantConst(t, s, want)
	}
}

func TestConstOfMaps(t *testing.T) {
	for s, want := range map[string]string{
		"{}": "{}", "{1:2}": "{1: 2}", "{1:2;}": "{1: 2}", "{1:2 3:4;5:6,}": "{1: 2, 3: 4, 5: 6}", "{[]:{} {}:[]}": "{[]: {}, {}: []}", "{{1:2}:{3:4}}": "{{1: 2}: {3: 4}}", "{[1 2]:[3 4 5],a:{b:c d:e}}": "{[1, 2]: [3, 4, 5], a: {b: c, d: e}}", "{'':''}": `{"": ""}`, "{1:1 1:1}": "{1: 1, 1: 1}",
	} {
		wantConst(t, s, want)
	}
}

func TestConstOfEachNumberOfItems(t *testing.T) {
	for n := range api.MaxItems + 1 {
		items := strings.TrimSuffix(strings.Repeat("1, ", n), ", ")
		pairs := strings.TrimSuffix(strings.Repeat("1: a, ", n), ", ")
		wantItself(t, "const i8 A = ["+items+"]\n", "const i8 A = {"+pairs+"}\n")
	}
}

func TestConstOfTheDeepest(t *testing.T) {
	for _, c := range [][2]string{{"[", "]"}, {"{1: ", "}"}, {"[1, ", ", 2]"}, {"{", ": 1}"}, {"{1: 2, ", ": 3}"}} {
		for n := range api.MaxNest + 1 {
			wantItself(t, "const i8 A = "+strings.Repeat(c[0], n)+"1"+strings.Repeat(c[1], n)+"\n")
		}
	}
}

// TestPrintOfTheLongest has the files whose texts grow the most, and texts of MaxText
// bytes and a bit more or less.
func TestPrintOfTheLongest(t *testing.T) {
	long := func(number, shown string) {
		n := (api.MaxText - len("const i8 A = []")) / (len(number)*api.MaxItems + len("[]"))
		row := "[" + strings.Repeat(number, api.MaxItems) + "]"
		shownRow := "[" + strings.Repeat(shown+", ", api.MaxItems-1) + shown + "]"
		wantText(t, "const i8 A = ["+strings.Repeat(row, n)+"]", "const i8 A = ["+strings.Repeat(shownRow+", ", n-1)+shownRow+"]\n")
	}
	long("-.1", "-1.0000000000000001e-1")
	long(".1 ", "1.0000000000000001e-1")
	long("1 ", "1")
	long("a ", "a")
	long("[]", "[]")
	for n := api.MaxText - 30; n <= api.MaxText; n++ {
		text := "const i8 A='" + strings.Repeat("a", n-len("const i8 A=''")) + "'"
		wantText(t, text, "const i8 A = \""+text[len("const i8 A='"):len(text)-1]+"\"\n")
	}
	wantItself(t, "const i8 A = '"+strings.Repeat(`"`, api.MaxText-len("const i8 A = ''\n"))+"'\n")
}

// knotted are constants that have themselves in them, that often.
func knotted(kind, n int) api.Const {
	c := api.Const{Kind: kind, L: make([]api.Const, n)}
	for i := range c.L {
		c.L[i] = c
	}
	return c
}

// strange are constants that no file has.
func strange() (l []api.Const) {
	for _, kind := range []int{math.MinInt, -1, 0, api.ConInt, api.ConDouble, api.ConText, api.ConName, api.ConList, api.ConMap, 7, math.MaxInt} {
		l = append(l, api.Const{Kind: kind}, api.Const{Kind: kind, N: -1, D: 0x7FF << 52, S: "'\"\n", L: make([]api.Const, 3)})
		for _, n := range []int{1, 2, 3, 41, 1000} {
			l = append(l, knotted(kind, n))
		}
		deep, wide := api.Const{Kind: kind}, api.Const{Kind: kind}
		for range 1 << 17 {
			deep = api.Const{Kind: kind, L: []api.Const{deep}}
		}
		for range 200 {
			wide = api.Const{Kind: kind, L: []api.Const{wide, wide, wide}}
		}
		l = append(l, deep, wide, api.Const{Kind: kind, L: make([]api.Const, 1<<20)})
	}
	for _, bits := range []uint64{0x7FF << 52, 0xFFF << 52, 1<<64 - 1} {
		l = append(l, api.Const{Kind: api.ConDouble, D: bits})
	}
	return l
}

func TestStrangeConstantsHaveAnEnd(t *testing.T) {
	for _, c := range strange() {
		print.Const(c)
		for kind := range 10 {
			field := api.Field{HasInit: true, Init: c, Req: kind}
			f := api.File{Defs: []api.Def{{Kind: kind, Init: c, Fields: []api.Field{field}, Methods: []api.Method{{Args: []api.Field{field}, Throws: []api.Field{field}}}}}}
			print.Print(f)
			print.Same(f, f)
		}
	}
}

func TestStrangeFilesHaveAnEnd(t *testing.T) {
	for _, n := range []int{math.MinInt, -1, 0, 8, 9, 16, math.MaxInt} {
		fields := []api.Field{{}, {Req: n}, {HasID: true, ID: int64(n), HasInit: true, Type: "\n", Name: "\x00"}}
		f := api.File{Includes: []string{"", "\""}, Spaces: []api.Space{{}}, Defs: []api.Def{{}, {Kind: n, Fields: fields}}}
		for kind := range 10 {
			f.Defs = append(f.Defs, api.Def{Kind: kind, Extends: " ", Fields: fields, Members: []api.Member{{}, {Has: true, N: int64(n)}}, Methods: []api.Method{{}, {Oneway: true, Args: fields, Throws: fields}}})
		}
		print.Print(f)
		if !print.Same(f, f) {
			t.Error("a file is not the same as itself")
		}
	}
}

// everything has each part of a file.
const everything = "include 'bb' include 'cc' namespace * x.y namespace js zz typedef map<string,list<b.T>> MM const list<i32> LL = [{'aa':[1.5;true 7], b.C.D:{}},-2] enum EE { AA, BB = 0x10; CC } struct SS { 1: required i32 aa = -1, optional byte bb; NN cc = 'dd' } union UU {} exception XX { 2: string mm } service PP extends b.QQ { oneway void ff(), i32 gg(1: SS ss, UU uu = 'text') throws (1: XX xx Y y = {1:[2.5]}) }"

func TestArgumentsAreNotChanged(t *testing.T) {
	f, untouched := roomy(parsed(t, everything)), roomy(parsed(t, everything))
	unchanged := func(what string) {
		t.Helper()
		if !equal(whole(f), whole(untouched)) {
			t.Errorf("%s changed its argument", what)
		}
	}
	text := print.Print(f)
	unchanged("Print")
	print.Const(f.Defs[1].Init)
	unchanged("Const")
	print.Same(f, f)
	print.Same(f, api.File{})
	print.Same(f, parsed(t, everything))
	print.Same(parsed(t, everything), f)
	unchanged("Same")
	if want := print.Print(parsed(t, everything)); text != want {
		t.Errorf("Print minds the unused ends of lists: %q, want %q", text, want)
	}
}

func TestTextsAreNew(t *testing.T) {
	name := string([]byte("a.b"))
	if got := print.Const(api.Const{Kind: api.ConName, S: name}); unsafe.StringData(got) == unsafe.StringData(name) {
		t.Error("Const answers the argument's memory")
	}
}

func TestAnswersHangOnTheArgumentsAlone(t *testing.T) {
	texts := []string{everything, "", "const i8 A = [1 [2]]", "typedef list<list<i8>> T", "enum E { A = 1 B }", "struct S { i8 a }", "service P { void f() throws (X x) }"}
	told := func(s string) string {
		f := parsed(t, s)
		return strconv.FormatBool(print.Same(f, parsed(t, everything))) + print.Print(f)
	}
	var first []string
	for _, s := range texts {
		first = append(first, told(s))
	}
	for i := range texts {
		for j := range texts {
			told(texts[j])
			if got := told(texts[i]); got != first[i] {
				t.Errorf("%.50q after %.50q: %q, and at first %q", texts[i], texts[j], got, first[i])
			}
		}
	}
}
