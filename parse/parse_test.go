package parse_test

import (
	"fmt"
	"math"
	"reflect"
	"slices"
	"strings"
	"testing"
	"unsafe"

	"assayer/api"
	"assayer/parse"
)

const (
	half     = 0x3FE0000000000000                         // the bits of 0.5
	longName = "nnnnnnnnnnnnnnnnnnnnnnnnnnnnnnnnnnnnnnnn" // MaxName bytes
)

func same(f, g api.File) bool {
	return reflect.DeepEqual(copied(reflect.ValueOf(f)).Interface(), copied(reflect.ValueOf(g)).Interface())
}

// wantFile checks that Parse answers this file, twice.
func wantFile(t *testing.T, text string, want api.File) {
	t.Helper()
	for range 2 {
		f, e, at := parse.Parse(text)
		if !same(f, want) || e != api.OK || at != 0 {
			t.Errorf("Parse(%.300q): %d at %d, %+v, want %+v", text, e, at, f, want)
		}
	}
}

// wantDefs checks that Parse answers a file of these definitions alone.
func wantDefs(t *testing.T, text string, want ...api.Def) {
	t.Helper()
	wantFile(t, text, api.File{Defs: want})
}

// wantFault checks that Parse answers this error at this offset, and no file, twice.
func wantFault(t *testing.T, text string, e api.Errno, at int) {
	t.Helper()
	for range 2 {
		f, gotE, gotAt := parse.Parse(text)
		if len(f.Includes)+len(f.Spaces)+len(f.Defs) > 0 || gotE != e || gotAt != at {
			t.Errorf("Parse(%.300q): %d at %d, want %d at %d", text, gotE, gotAt, e, at)
		}
	}
}

// wantError checks the error at the place of the mark ^ in a text, which is not of
// the text.
func wantError(t *testing.T, marked string, e api.Errno) {
	t.Helper()
	at := strings.Index(marked, "^")
	text := strings.Replace(marked, "^", "", 1)
	wantFault(t, text, e, at)
	// An error further on changes nothing.
	if behind := text + " ]]"; at < len(text) && len(behind) <= api.MaxText {
		wantFault(t, behind, e, at)
	}
}

// wantForm checks for ErrForm at the marks.
func wantForm(t *testing.T, marked ...string) {
	t.Helper()
	for _, s := range marked {
		wantError(t, s, api.ErrForm)
	}
}

func wantOK(t *testing.T, text string) {
	t.Helper()
	if _, e, at := parse.Parse(text); e != api.OK || at != 0 {
		t.Errorf("Parse(%.300q): %d at %d", text, e, at)
	}
}

// everyByte calls f with each byte, as a text.
func everyByte(f func(b string)) {
	for i := range 256 {
		f(string([]byte{byte(i)}))
	}
}

func typedef(text, name string) api.Def {
	return api.Def{Kind: api.DefTypedef, Type: text, Name: name}
}

func constant(c api.Const) api.Def {
	return api.Def{Kind: api.DefConst, Type: "i8", Name: "A", Init: c}
}

func structOf(l ...api.Field) api.Def { return api.Def{Kind: api.DefStruct, Name: "S", Fields: l} }

func enumOf(l ...api.Member) api.Def { return api.Def{Kind: api.DefEnum, Name: "E", Members: l} }

func serviceOf(l ...api.Method) api.Def { return api.Def{Kind: api.DefService, Name: "P", Methods: l} }

func number(n int64) api.Const { return api.Const{Kind: api.ConInt, N: n} }

func double(bits uint64) api.Const { return api.Const{Kind: api.ConDouble, D: bits} }

func quote(s string) api.Const { return api.Const{Kind: api.ConText, S: s} }

func named(s string) api.Const { return api.Const{Kind: api.ConName, S: s} }

func list(l ...api.Const) api.Const { return api.Const{Kind: api.ConList, L: l} }

func dict(l ...api.Const) api.Const { return api.Const{Kind: api.ConMap, L: l} }

func field(text, name string) api.Field { return api.Field{Type: text, Name: name} }

func TestParseOfTheExamples(t *testing.T) {
	wantDefs(t, "enum E { A, B = 0x10; C }", enumOf(api.Member{Name: "A"}, api.Member{Name: "B", Has: true, N: 16}, api.Member{Name: "C"}))
	wantDefs(t, "struct S { 1: required i32 a = 1, optional byte b; N c }", structOf(
		api.Field{HasID: true, ID: 1, Req: api.ReqRequired, Type: "i32", Name: "a", HasInit: true, Init: number(1)},
		api.Field{Req: api.ReqOptional, Type: "i8", Name: "b"},
		api.Field{Type: "N", Name: "c"},
	))
}

func TestParseOfNothing(t *testing.T) {
	for _, s := range []string{"", " ", "\n\t\r ", "# a", "// struct", "/* { */", " /**/ # \n"} {
		wantFile(t, s, api.File{})
	}
}

func TestParseOfIncludes(t *testing.T) {
	wantFile(t, "include 'a'", api.File{Includes: []string{"a"}})
	wantFile(t, `include "a" include 'b'include "a"`, api.File{Includes: []string{"a", "b", "a"}})
	wantFile(t, "include '"+longName+"'", api.File{Includes: []string{longName}})
	wantForm(t, "include^", "include ^a", "include ^1", "include ^include 'a'", "include ^{", "include 'a' ^'b'", "^'include' 'a'", "^Include 'a'")
	for _, s := range []string{"", " ", "a ", "a.b", "1", "a-b", "i8", "byte", "include", longName + "n", "a.thrift"} {
		wantForm(t, "include ^'"+s+"'", "include 'a' include ^\""+s+`"`)
	}
}

func TestParseOfNamespaces(t *testing.T) {
	wantFile(t, "namespace a b", api.File{Spaces: []api.Space{{Scope: "a", Name: "b"}}})
	wantFile(t, "namespace * b.c.d namespace x.y.z b.c namespace * a", api.File{Spaces: []api.Space{{Scope: "*", Name: "b.c.d"}, {Scope: "x.y.z", Name: "b.c"}, {Scope: "*", Name: "a"}}})
	wantForm(t, "namespace^", "namespace a^", "namespace *^", "namespace ^'a' b", "namespace a ^'b'", "namespace a ^*", "namespace * ^*", "namespace ^1 b", "namespace a b ^c", "namespace ^{", "namespace ^namespace a b")
}

func TestParseOfIncludesAndNamespacesInAnyOrder(t *testing.T) {
	want := api.File{Includes: []string{"a", "b"}, Spaces: []api.Space{{Scope: "x", Name: "y"}, {Scope: "*", Name: "z"}}}
	for _, s := range []string{
		"include 'a' include 'b' namespace x y namespace * z",
		"namespace x y namespace * z include 'a' include 'b'",
		"include 'a' namespace x y include 'b' namespace * z",
		"namespace x y include 'a' namespace * z include 'b'",
	} {
		wantFile(t, s, want)
		with := want
		with.Defs = []api.Def{typedef("i8", "T")}
		wantFile(t, s+" typedef i8 T", with)
		wantForm(t, "typedef i8 T ^"+s, s+" typedef i8 T; ^"+s)
		wantForm(t, s+"^,", s+"^;"+s)
	}
}

func TestParseOfTypedefs(t *testing.T) {
	wantDefs(t, "typedef i8 T", typedef("i8", "T"))
	wantDefs(t, "typedef i8 T typedef T U", typedef("i8", "T"), typedef("T", "U"))
	wantForm(t, "typedef^", "typedef i8^", "typedef ^'T' T", "typedef T ^1", "typedef i8 ^i8", "typedef i8 T ^U", "typedef ^1 T", "typedef i8 T ^= 1", "typedef i8 T ^{}")
}

func TestParseOfEachType(t *testing.T) {
	for _, s := range []string{"bool", "i8", "i16", "i32", "i64", "double", "string", "binary"} {
		wantDefs(t, "typedef "+s+" T", typedef(s, "T"))
		wantDefs(t, "typedef list<"+s+">T", typedef("list<"+s+">", "T"))
		wantDefs(t, "typedef set < "+s+" > T", typedef("set<"+s+">", "T"))
		wantDefs(t, "typedef map<"+s+",string>T", typedef("map<"+s+",string>", "T"))
		wantDefs(t, "typedef map<string,"+s+">T", typedef("map<string,"+s+">", "T"))
	}
	wantDefs(t, "typedef byte T", typedef("i8", "T"))
	wantDefs(t, "typedef map<byte,list<byte>>T", typedef("map<i8,list<i8>>", "T"))
	for _, s := range []string{"a", "a.b", "a.b.c", "_", "lists", "Byte", "i9", "a_list.sets.map1", longName + "." + longName + "." + longName[2:]} {
		wantDefs(t, "typedef "+s+" T", typedef(s, "T"))
		wantDefs(t, "typedef map<"+s+",set<"+s+">>T", typedef("map<"+s+",set<"+s+">>", "T"))
	}
}

func TestParseOfTypesWithWhiteSpace(t *testing.T) {
	for _, gap := range []string{"", " ", "\n", "\t\r\n ", "# a\n", "// <\n", "/*>*/"} {
		words := strings.Fields("map < list < byte > , map < set < a.b > , i16 > >")
		wantDefs(t, "typedef "+strings.Join(words, gap)+" T", typedef("map<list<i8>,map<set<a.b>,i16>>", "T"))
	}
}

func TestParseOfWhatIsNoType(t *testing.T) {
	for _, s := range []string{
		"list ^T", "list <^", "list<^> T", "list<i8 ^T", "list<i8^,i8> T", "list<i8^;> T", "list ^(i8) T", "list ^[i8]", "list<^<i8>>", "list<list^>", "list<list<i8> ^T",
		"set ^T", "set<^> T", "set<i8 ^T", "set<i8 ^T>", "set<i8^,i8>T", "map ^T", "map<^> T", "map<i8^> T", "map<i8,^> T", "map<i8^;i8>T", "map<i8,i8^,i8>T", "map<^,i8>T", "map<i8,i8 ^T",
		"i8 ^<i8> T", "a ^<i8> T", "byte ^<", "map<i8,list^>T",
	} {
		wantForm(t, "typedef "+s, "const "+s, "struct S { "+s, "service P { "+s, "service P { void f("+s)
	}
	for _, s := range []string{"void", "required", "optional", "true", "include", "struct", "oneway", "throws", "list.a", "map.b.c", "a.list", "a.i8.b", "a.b.byte", "a.b.c.d", "a.9", "a.b.9c", longName + "n", "a." + longName + "n", "1", "-1", "1.5", "'i8'", "'a'", "*", "<", ">", "{", "(", "=", ":"} {
		wantForm(t, "typedef ^"+s+" T", "typedef list<^"+s+"> T", "typedef set<^"+s+"> T", "typedef map<^"+s+",i8> T", "typedef map<i8,^"+s+"> T", "const ^"+s+" T = 1", "struct S { required ^"+s+" a }")
	}
}

func TestParseOfConsts(t *testing.T) {
	wantDefs(t, "const i8 A = 1", constant(number(1)))
	wantDefs(t, "const map<byte,a.b>_=1", api.Def{Kind: api.DefConst, Type: "map<i8,a.b>", Name: "_", Init: number(1)})
	wantForm(t, "const^", "const i8^", "const i8 A^", "const i8 A =^", "const i8 A ^1", "const i8 ^= 1", "const ^= 1", "const i8 A ^: 1", "const i8 A = ^= 1", "const i8 A = ^const", "const i8 A = 1 ^2", "const i8 A = 1 ^= 2", "const i8 A = 1 ^A", "const i8 A = [] ^[]")
}

func TestParseOfEachConstant(t *testing.T) {
	for s, c := range map[string]api.Const{
		"0": number(0), "-5": number(-5), "+7": number(7), "0x1F": number(31), "-9223372036854775808": number(math.MinInt64), "9223372036854775807": number(math.MaxInt64), "0x7fffffffffffffff": number(math.MaxInt64),
		"0.5": double(half), "-.5": double(half | 1<<63), "5e-1": double(half), "0.0": double(0),
		"''": quote(""), `"a"`: quote("a"), "'true'": quote("true"), `"[1]"`: quote("[1]"), "'a.b.c.d'": quote("a.b.c.d"), "'\x00\xff'": quote("\x00\xff"), "'struct'": quote("struct"),
		"a": named("a"), "a.b": named("a.b"), "a.b.c": named("a.b.c"), "true": named("true"), "false": named("false"), "_": named("_"), "True": named("True"), "truest.falsehood": named("truest.falsehood"),
		"[]": list(), "{}": dict(), "[1]": list(number(1)), "{1:2}": dict(number(1), number(2)),
		"[1,'a',.5;b]": list(number(1), quote("a"), double(half), named("b")), "[1 2 -3+4]": list(number(1), number(2), number(-3), number(4)), "[a b true]": list(named("a"), named("b"), named("true")), "[[]{}[];]": list(list(), dict(), list()),
		"{1:2,3:4;'a':b c:d}": dict(number(1), number(2), number(3), number(4), quote("a"), named("b"), named("c"), named("d")), "{1:2 1:2}": dict(number(1), number(2), number(1), number(2)), "{[]:{},{}:[]}": dict(list(), dict(), dict(), list()),
		"[{1:[2]}]": list(dict(number(1), list(number(2)))), "{{1:2}:{3:4}}": dict(dict(number(1), number(2)), dict(number(3), number(4))), "[1,]": list(number(1)), "{1:2;}": dict(number(1), number(2)),
	} {
		wantDefs(t, "const i8 A = "+s, constant(c))
		wantDefs(t, "const i8 A = ["+s+"]", constant(list(c)))
		wantDefs(t, "const i8 A = {"+s+":"+s+"}", constant(dict(c, c)))
		wantDefs(t, "struct S { i8 a = "+s+" }", structOf(api.Field{Type: "i8", Name: "a", HasInit: true, Init: c}))
	}
}

func TestParseOfWhatIsNoConstant(t *testing.T) {
	for _, s := range []string{"void", "i8", "list", "byte", "required", "const", "true.a", "a.true", "a.false.b", "a.b.c.d", "a.1", longName + "n", "a." + longName + "n", ")", "(", "<", ">", "*", "="} {
		wantForm(t, "const i8 A = ^"+s, "const i8 A = [^"+s+"]", "const i8 A = [1,^"+s+"]", "const i8 A = {^"+s+":1}", "const i8 A = {1:^"+s+"}", "const i8 A = {1:2,^"+s+":1}", "struct S { i8 a = ^"+s+" }", "service P { void f(i8 a = ^"+s+") }")
	}
	wantForm(t, "const i8 A = [^", "const i8 A = [1^", "const i8 A = [1,^", "const i8 A = [^,]", "const i8 A = [^;]", "const i8 A = [1,^,]", "const i8 A = [1;^,2]", "const i8 A = [1^:2]", "const i8 A = [1^}", "const i8 A = [^}",
		"const i8 A = {^", "const i8 A = {1^", "const i8 A = {1:^", "const i8 A = {1:2^", "const i8 A = {1:2,^", "const i8 A = {^,}", "const i8 A = {1^}", "const i8 A = {1^,2}", "const i8 A = {1:^}", "const i8 A = {1:2^:3}", "const i8 A = {1:2,^,}", "const i8 A = {1:^,2}", "const i8 A = {1 ^2}", "const i8 A = {1^=2}", "const i8 A = {1:2^]", "const i8 A = {^]", "const i8 A = {^:1}")
}

func TestParseOfEnums(t *testing.T) {
	wantDefs(t, "enum E {}", enumOf())
	wantDefs(t, "enum E{A}", enumOf(api.Member{Name: "A"}))
	wantDefs(t, "enum E { A B C = 1 D }", enumOf(api.Member{Name: "A"}, api.Member{Name: "B"}, api.Member{Name: "C", Has: true, N: 1}, api.Member{Name: "D"}))
	wantDefs(t, "enum E { A = 0 A = 0; }", enumOf(api.Member{Name: "A", Has: true}, api.Member{Name: "A", Has: true}))
	for s, n := range map[string]int64{"-1": -1, "+2": 2, "0x0": 0, "0xfF": 255, "-9223372036854775808": math.MinInt64, "9223372036854775807": math.MaxInt64} {
		wantDefs(t, "enum E { A = "+s+"}", enumOf(api.Member{Name: "A", Has: true, N: n}))
	}
	for _, s := range []string{"B", "true", "1.0", "1e1", "'1'", "[1]", "=", ",", "}", "-.5"} {
		wantForm(t, "enum E { A = ^"+s+" }", "enum E { X, A = ^"+s+" }")
	}
	wantForm(t, "enum^", "enum ^{}", "enum E^", "enum E ^A", "enum E {^", "enum E { A^", "enum E { A =^", "enum E { A = 1^", "enum E { A,^", "enum E ^()", "enum E ^= {}", "enum E ^extends F {}", "enum E { A ^1 }", "enum E { ^1: A }", "enum E { A ^: 1 }", "enum E { A = 1 ^2 }", "enum E { ^'A' }", "enum E { A = 1 ^]")
}

func TestParseOfStructsUnionsAndExceptions(t *testing.T) {
	for word, number := range map[string]int{"struct": api.DefStruct, "union": api.DefUnion, "exception": api.DefException} {
		wantDefs(t, word+" S {}", api.Def{Kind: number, Name: "S"})
		wantDefs(t, word+" S{i8 a}", api.Def{Kind: number, Name: "S", Fields: []api.Field{field("i8", "a")}})
		wantForm(t, word+"^", word+" ^{}", word+" S^", word+" S ^i8 a", word+" S {^", word+" S { i8^", word+" S { i8 a^", word+" S ^(i8 a)", word+" S ^extends T {}", word+" S { i8 a ^)", word+" S { i8 a } ^}", word+" S { ^struct T {} }", word+" S { ^void a }", word+" S { ^oneway i8 a }", "^"+strings.ToUpper(word)+" S {}", word+" ^"+word+" {}")
	}
}

func TestParseOfFields(t *testing.T) {
	ids := map[string]int64{"": 0, "1:": 1, "-1 :": -1, "0:": 0, "+3:": 3, "0x10:": 16, "9223372036854775807:": math.MaxInt64, "-9223372036854775808:": math.MinInt64}
	reqs := map[string]int{"": api.ReqDefault, "required ": api.ReqRequired, "optional ": api.ReqOptional}
	inits := map[string]api.Const{"": {}, "=2": number(2), " = [a]": list(named("a"))}
	for id, n := range ids {
		for req, r := range reqs {
			for init, c := range inits {
				want := api.Field{HasID: id != "", ID: n, Req: r, Type: "set<a.b>", Name: "x", HasInit: init != "", Init: c}
				s := id + req + "set<a.b>x" + init
				wantDefs(t, "struct S {"+s+"}", structOf(want))
				wantDefs(t, "struct S {"+s+" "+s+";"+s+"}", structOf(want, want, want))
				wantDefs(t, "service P { void f("+s+") throws("+s+","+s+")}", serviceOf(api.Method{Ret: "void", Name: "f", Args: []api.Field{want}, Throws: []api.Field{want, want}}))
			}
		}
	}
}

func TestParseOfWhatIsNoField(t *testing.T) {
	for _, s := range []string{
		"1 ^i8 a", "1 ^= i8 a", "1: ^2: i8 a", "1: a ^:", "1: a b ^'c'", "1: i8 ^1", "1:^: i8 a", "^1.0: i8 a", "^'1': i8 a", "^: i8 a", "a ^: i8 b", "^-.5 i8 a", "1: ^", "1: i8 a 2 ^i8 b",
		"required ^required i8 a", "required ^optional i8 a", "optional ^required i8 a", "required ^1: i8 a", "required ^", "i8 ^required a", "i8 a required ^", "Required ^: i8 a",
		"i8 ^'a'", "i8 ^", "i8 a = ^", "i8 a 1 ^", "i8 a = 1 ^= 1", "^= 1", "i8 ^= 1", "i8 a ^[]", "i8 ^* a", "^* a", "i8 a = 1 ^'b'", "i8 a ^'b'",
	} {
		if at, behind, _ := strings.Cut(s, "^"); behind == "" {
			wantForm(t, "struct S {"+at+"^}", "service P { void f("+at+"^)", "service P { void f() throws ("+at+"^)")
			continue
		}
		wantForm(t, "struct S {"+s, "union S {"+s+"}", "service P { void f("+s+")", "service P { void f() throws ("+s+")")
	}
	wantForm(t, "struct S { 1: a ^}", "struct S { i8 a b ^}", "struct S { 1 ^}", "service P { void f(1: a ^)")
}

func TestParseOfServices(t *testing.T) {
	f := api.Method{Name: "f", Ret: "void"}
	wantDefs(t, "service P {}", serviceOf())
	wantDefs(t, "service P{void f()}", serviceOf(f))
	wantDefs(t, "service P { void f() throws() }", serviceOf(f))
	for _, s := range []string{"Q", "a.Q", "a.b.Q"} {
		wantDefs(t, "service P extends "+s+" { void f() }", api.Def{Kind: api.DefService, Name: "P", Extends: s, Methods: []api.Method{f}})
	}
	wantForm(t, "service^", "service ^{}", "service P^", "service P ^extend Q {}", "service P extends^", "service P extends ^{}", "service P extends ^'Q' {}", "service P extends Q^", "service P extends Q ^, R {}", "service P extends Q ^extends R {}", "service P ^()", "service P extends ^* {}", "service P {^", "service P { void f()^", "service P { void f() } ^}", "service ^extends Q {}", "service P ^'extends' Q {}")
}

func TestParseOfMethods(t *testing.T) {
	oneways := map[string]bool{"": false, "oneway ": true}
	results := map[string]string{"void": "void", "byte": "i8", "i64": "i64", "a.b.c": "a.b.c", "map<i8 , list<byte>>": "map<i8,list<i8>>"}
	args := map[string][]api.Field{"": nil, "i8 a, byte b": {field("i8", "a"), field("i8", "b")}}
	throws := map[string][]api.Field{"": nil, "throws()": nil, "throws(1:X x Y y)": {{HasID: true, ID: 1, Type: "X", Name: "x"}, field("Y", "y")}}
	for oneway, is := range oneways {
		for result, ret := range results {
			for arg, a := range args {
				for throw, l := range throws {
					want := api.Method{Name: "f", Oneway: is, Ret: ret, Args: a, Throws: l}
					s := oneway + result + " f(" + arg + ")" + throw
					wantDefs(t, "service P {"+s+"}", serviceOf(want))
					wantDefs(t, "service P {"+s+"\n"+s+","+s+";}", serviceOf(want, want, want))
				}
			}
		}
	}
}

func TestParseOfWhatIsNoMethod(t *testing.T) {
	for _, s := range []string{
		"f ^()", "f ^(i8 a)", "oneway ^oneway void f()", "void ^oneway f()", "void ^void f()", "void ^()", "void ^1()", "void f ^", "void f ^{}", "void f ^throws ()", "void f(^", "void f(i8 a^", "void f(i8 a^}", "void f(^,)", "void f(i8 a,^,)", "void f(^void a)", "void f(f^())",
		"void f() ^()", "void f() throws ^X", "void f() throws ^", "void f() throws (^", "void f() throws (X x^", "void f() throws () ^throws ()", "void f(), ^throws ()", "void f(); ^throws ()", "^throws () void f()", "^required i8 f()", "^1: void f()", "^'void' f()", "oneway ^", "oneway f ^()", "list<^void> f()", "void f() ^= 1", "^extends Q", "^struct S {}", "void f() throws (^void x)", "i8 a ^= 1", "i8 a ^; i8 b",
	} {
		if at, behind, _ := strings.Cut(s, "^"); behind == "" {
			wantFaultAtTheEnd(t, "service P {"+at)
			continue
		}
		wantForm(t, "service P {"+s+"}")
	}
}

// wantFaultAtTheEnd checks that words are missing at the end of a text.
func wantFaultAtTheEnd(t *testing.T, text string) {
	t.Helper()
	for _, s := range []string{text, text + " ", text + "\n# a", text + "/* */"} {
		wantFault(t, s, api.ErrForm, len(s))
	}
}

func TestParseOfTextsThatEndTooSoon(t *testing.T) {
	const text = "include 'b' namespace * x.y typedef map < string , list < b.T > > M const i32 N = [ 1 { 'a' : b } ] enum E { A = 1 } struct S { 1 : required i32 a = 1 } service P extends b.Q { oneway void f ( i8 a ) throws ( X x ) }"
	words := strings.Fields(text)
	whole := []string{"", "include 'b'", "include 'b' namespace * x.y"}
	for i := range len(words) + 1 {
		s := strings.Join(words[:i], " ")
		if slices.Contains(whole, s) || strings.HasSuffix(s, " M") || strings.HasSuffix(s, "]") || strings.HasSuffix(s, "1 }") || i == len(words) {
			wantOK(t, s)
			continue
		}
		wantFaultAtTheEnd(t, s)
	}
}

func TestParseOfSeparators(t *testing.T) {
	for _, gap := range []string{",", ";", " , ", "\n;\n", "/* */,", ";#\n"} {
		for _, s := range []string{
			"typedef i8 T%", "const i8 A=1%", "enum E{}%", "struct S{}%", "union S{}%", "exception S{}%", "service P{}%",
			"enum E{A%}", "enum E{A=1%}", "struct S{i8 a%}", "struct S{i8 a=1%}", "union S{1:i8 a%}", "exception S{required i8 a=b%}",
			"service P{void f()%}", "service P{void f()throws(X x)%}", "service P{void f(i8 a%)}", "service P{void f()throws(X x%)}",
			"const i8 A=[1%]", "const i8 A=[[]%]", "const i8 A={1:2%}", "const i8 A={1:{}%}", "const i8 A=[{1:2%}]", "const i8 A={1:[2%]}",
			"struct S{i8 a%i8 b}", "enum E{A%B}", "service P{void f()%void g()}", "struct S{}%struct S{}", "const i8 A=[1%-1]", "const i8 A={1:2%3:4}",
		} {
			with := strings.Replace(s, "%", gap, 1)
			without := strings.Replace(s, "%", " ", 1)
			f, e, _ := parse.Parse(without)
			if e != api.OK {
				t.Errorf("Parse(%q): %d", without, e)
			}
			wantFile(t, with, f)
			for _, more := range []string{",", ";"} {
				wantForm(t, strings.Replace(s, "%", gap+"^"+more, 1))
			}
		}
	}
}

func TestParseOfSeparatorsWhereNoneMayStand(t *testing.T) {
	for _, gap := range []string{",", ";"} {
		for _, s := range []string{
			"%", "include %'a'", "include 'a'%", "namespace %a b", "namespace a %b", "namespace a b%", "include 'a'%struct S{}", "typedef %i8 T", "typedef i8 %T", "const i8 A%=1", "const i8 A=%1",
			"enum %E{}", "enum E %{}", "enum E{%}", "enum E{%A}", "enum E{A=%1}", "struct S%{}", "struct S{%}", "struct S{%i8 a}", "struct S{1%:i8 a}", "struct S{1:%i8 a}", "struct S{required %i8 a}", "struct S{i8%a}", "struct S{i8 a=%1}",
			"service P{%}", "service P{%void f()}", "service P{oneway%void f()}", "service P{void%f()}", "service P{void f%()}", "service P{void f(%)}", "service P{void f(%i8 a)}", "service P{void f()throws%()}", "service P{void f()throws(%)}", "service P extends %Q{}", "service P extends Q%{}",
			"const i8 A=[%]", "const i8 A=[%1]", "const i8 A={%}", "const i8 A={1%:2}", "const i8 A={1:%2}", "typedef list%<i8>T", "typedef list<%i8>T", "typedef list<i8%>T",
		} {
			wantForm(t, strings.Replace(s, "%", "^"+gap, 1))
		}
	}
	wantForm(t, "typedef map<i8^;i8>T", "typedef map<i8,^,i8>T", "typedef map<i8,i8^,>T", "typedef map^,<i8,i8>T")
}

func TestParseOfSeveralDefinitions(t *testing.T) {
	wantDefs(t, "struct S{}union S{};exception S{},typedef S S const i8 A=S service P{}enum E{}",
		structOf(), api.Def{Kind: api.DefUnion, Name: "S"}, api.Def{Kind: api.DefException, Name: "S"}, typedef("S", "S"), constant(named("S")), serviceOf(), enumOf())
	wantForm(t, "^a", "^S {}", "^{}", "^1", "^'struct' S {}", "^true", "^i8 a", "^void", "^extends", "^throws", "^oneway void f()", "^required", "^list<i8>", "^a.b", "^structs S {}", "^struct.a S {}",
		"struct S {} ^S", "struct S {} ^{}", "struct S {} ^i8 a", "struct S {} ^'b'", "struct S {} ^1", "struct S {}; ^a", "typedef i8 T ^include 'a'", "enum E {} ^namespace a b", "union U {}, ^include 'a'", "service P {} ^throws ()", "struct S {} ^* ")
}

// badPlain are names that are not plain.
func badPlain() []string {
	l := append(strings.Fields(reservedWords), "a.b", "a.b.c", "_.a", "a.1", longName+"n", longName+longName, longName+"."+longName)
	return append(l, "'a'", `"a"`, "1", "1.5", "*", "[", "<", "=")
}

func TestParseOfNamesThatMustBePlain(t *testing.T) {
	for _, s := range []string{"typedef i8 %", "const i8 % = 1", "enum % {}", "struct % {}", "union % {}", "exception % {}", "service % {}", "service % extends Q {}", "service P { void %() }", "service P { oneway i8 %() }", "service P { void f(i8 %) }", "service P { void f() throws (i8 %) }", "struct S { i8 % }", "struct S { 1: required a.b % = 1 }", "enum E { % }", "enum E { % = 1 }", "enum E { A, % }", "include '%'"} {
		for _, name := range []string{"a", "A", "_", "__", "a1", "z_9Z", "Struct", "voids", "i9", "lists", longName} {
			wantOK(t, strings.Replace(s, "%", name, 1))
		}
		bad := badPlain()
		if strings.HasPrefix(s, "include") {
			s, bad = "include %", append(strings.Fields(reservedWords), "a", "'a.b'", "'i8'", "'"+longName+"n'", "''")
		}
		for _, name := range bad {
			wantForm(t, strings.Replace(s, "%", "^"+name, 1))
		}
	}
}

func TestParseOfNamesThatMustBeQualified(t *testing.T) {
	for _, s := range []string{"namespace % a", "namespace * %", "namespace a %", "service P extends % {}", "const i8 A = %", "struct S { i8 a = % }", "const i8 A = [1,%]", "const i8 A = {%:1}", "const i8 A = {1:%}", "typedef % T", "const % A = 1", "struct S { % a }", "struct S { 1: optional % a }", "service P { % f() }", "service P { oneway % f() }", "service P { void f(% a) }", "service P { void f() throws (% a) }", "typedef list<%> T", "typedef set<%> T", "typedef map<%,i8> T", "typedef map<i8,%> T"} {
		for _, name := range []string{"a", "_", "a.b", "a.b.c", "_._._", "A.z9.Z_", longName + "." + longName + "." + longName[3:], longName, "Struct.voids.i9"} {
			wantOK(t, strings.Replace(s, "%", name, 1))
		}
		bad := []string{"a.b.c.d", "a.b.c.d.e.f", "a.1", "a.1.b", "a.b.1c", longName + "n", longName + "n.a", "a." + longName + "n", "a.b." + longName + "n", "<", "=", ":"}
		for _, word := range strings.Fields(reservedWords) {
			bad = append(bad, word+".a", "a."+word, "a."+word+".b", "a.b."+word, word+".a.b")
		}
		for _, name := range bad {
			wantForm(t, strings.Replace(s, "%", "^"+name, 1))
		}
	}
}

func TestTextsAreNoWords(t *testing.T) {
	const text = "include 'b' namespace * x typedef list < i8 > M const i32 N = 1 enum E { A = 1 } struct S { 1 : required i32 a } service P extends Q { oneway void f ( i8 a ) throws ( X x ) ; } ,"
	words := strings.Fields(text)
	wantOK(t, text)
	for i, w := range words {
		s := slices.Clone(words)
		s[i] = "^'" + w + "'"
		if w != "'b'" && i != slices.Index(words, "1") {
			wantForm(t, strings.Join(s, " "))
		}
	}
}

func TestParseAnswersErrorsOfLex(t *testing.T) {
	for _, s := range []string{"struct S { @", "@", "a @", "1 'a", "struct struct \"", "enum E { A = 9223372036854775808", "const i8 A = 1e", "const double A = 1e309", "const double A = 1e401", "typedef " + strings.Repeat("n", 121), "typedef a..b T", "typedef a. T", "const i8 A = [[[[[[[[[[[[[[[[@", strings.Repeat("union A{}", 31) + "$", "/* struct", "include 'a", "]] 12a"} {
		wantPlain(t, s)
	}
	wantFault(t, "] @", api.ErrForm, 2)
	wantFault(t, "struct struct 9223372036854775808", api.ErrRange, 14)
	wantFault(t, "struct struct 1e401", api.ErrRange, 14)
	wantFault(t, strings.Repeat("[", api.MaxText+1), api.ErrLong, 0)
	wantFault(t, strings.Repeat(" ", api.MaxText+1), api.ErrLong, 0)
	wantFile(t, strings.Repeat(" ", api.MaxText), api.File{})
	wantFault(t, strings.Repeat("[", api.MaxText), api.ErrForm, 0)
}

// times repeats a text.
func times(n int, s string) string { return strings.Repeat(s, n) }

func TestParseOfTooManyElements(t *testing.T) {
	method := "i8 f(),"
	for _, c := range []struct {
		most                   int
		ahead, one, more, last string
	}{
		{api.MaxFiles, "", "include 'a'\n", "^include 'b'", ""},
		{api.MaxFiles, "", "namespace a b\n", "^namespace * c", ""},
		{api.MaxFiles, times(api.MaxFiles, "include 'a'"), "namespace a b ", "^namespace", ""},
		{api.MaxFiles, times(api.MaxFiles, "namespace a b "), "include 'a'", "^include", ""},
		{api.MaxDefs, "", "union U{}", "^union U{}", ""},
		{api.MaxDefs, times(api.MaxFiles, "include 'a'"), "enum E{};", "^typedef i8 T", ""},
		{api.MaxFields, "enum E {", "A ", "^A", "}"},
		{api.MaxFields, "enum E {", "A=1,", "^B = 2", "}"},
		{api.MaxFields, "struct S {", "i8 a;", "^i8 a", "}"},
		{api.MaxFields, "union S {", "1:i8 a ", "^1:i8 a", "}"},
		{api.MaxFields, "exception S {", "list<i8>a ", "^a b", "}"},
		{api.MaxFields, "service P { void f(", "i8 a;", "^i8 a", ")}"},
		{api.MaxFields, "service P { void f() throws (", "X x,", "^X x", ")}"},
		{api.MaxFields, "service P {", method, "^void f()", "}"},
		{api.MaxFields, "service P {", "oneway void f(i8 a)", "^oneway i8 f()", "}"},
		{api.MaxItems, "const i8 A = [", "1,", "^1", "]"},
		{api.MaxItems, "const i8 A = [", "[]", "^[]", "]"},
		{api.MaxItems, "const i8 A = {", "1:2;", "^1:2", "}"},
		{api.MaxItems, "const i8 A = [{", "a:b ", "^a:b", "}]"},
		{api.MaxItems, "const i8 A = {1:[", "1;", "^1", "]}"},
		{api.MaxItems, "struct S { i8 a = [", "1 ", "^1", "]}"},
		{api.MaxItems, "service P { void f(i8 a = {", "1:2 ", "^1:2", "})}"},
	} {
		wantOK(t, c.ahead+times(c.most-1, c.one)+c.last)
		wantOK(t, c.ahead+times(c.most, c.one)+c.last)
		wantError(t, c.ahead+times(c.most, c.one)+c.more+c.last, api.ErrLong)
		wantError(t, c.ahead+times(c.most, c.one)+c.more, api.ErrLong)
		wantError(t, c.ahead+times(c.most, c.one)+c.more+" "+c.one, api.ErrLong)
	}
}

func TestParseOfEachTokenThatBeginsOneElementTooMany(t *testing.T) {
	const ints, names = " 1 -1 0x1 ", " a a.b a.b.c _ Enum " + longName
	const types = " bool i8 i16 i32 i64 double string binary list set map byte " + names
	const constants = ints + " 1.5 -.5 'a' \"\" true false [ { " + names
	for _, c := range []struct{ ahead, begins string }{
		{times(api.MaxDefs, "union U{};"), "typedef const enum struct union exception service"},
		{"enum E {" + times(api.MaxFields, "A,"), "a _ Enum " + longName},
		{"struct S {" + times(api.MaxFields, "i8 a,"), "required optional" + types + ints},
		{"service P { void f(" + times(api.MaxFields, "i8 a;"), "required optional" + types + ints},
		{"service P { void f() throws (" + times(api.MaxFields, "i8 a;"), "required optional" + types + ints},
		{"service P {" + times(api.MaxFields, "a a();"), "oneway void" + types},
		{"const i8 A = [" + times(api.MaxItems, "1,"), constants},
		{"const i8 A = {" + times(api.MaxItems, "1:1;"), constants},
	} {
		begins := strings.Fields(c.begins)
		for _, w := range append(strings.Fields(reservedWords+" a a.b a.b.c a.b.c.d a.i8 a.1 _ 1 -1 0x1 1.5 -.5 'a' \"\" { [ ( < > : * Enum"), longName, longName+"n") {
			want := api.ErrForm
			if slices.Contains(begins, w) {
				want = api.ErrLong
			}
			wantFault(t, c.ahead+w, want, len(c.ahead))
			wantFault(t, c.ahead+w+" ]", want, len(c.ahead))
		}
	}
}

func TestIncludesAndNamespacesAreCountedApart(t *testing.T) {
	both := times(api.MaxFiles, "include 'a' namespace a b ")
	wantOK(t, both)
	wantError(t, both+"^include 'b'", api.ErrLong)
	wantError(t, both+"^namespace a b", api.ErrLong)
	wantError(t, both+"^include", api.ErrLong)
	wantForm(t, times(api.MaxFiles, "include 'a' ")+"^,", times(api.MaxFiles, "include 'a' ")+"^'b'", both+"^a")
	wantForm(t, times(api.MaxFiles, "include 'a' ")+"namespace a b ^1")
}

func TestListsAreCountedEachByItself(t *testing.T) {
	items := "[" + times(api.MaxItems, "1 ") + "]"
	wantOK(t, "const i8 A = ["+times(4, items)+"] const i8 B = "+items)
	fields := times(api.MaxFields, "a b ")
	wantOK(t, "service P { void f("+fields+") throws ("+fields+") void g("+fields+") } struct S {"+fields+"} enum E {"+times(api.MaxFields, "A ")+"} struct S {"+fields+"}")
	wantOK(t, "const i8 A = {"+items+":"+items+"}")
	wantError(t, "const i8 A = {"+items+":["+times(api.MaxItems, "1 ")+"^1]}", api.ErrLong)
}

// within returns an inner text within others, n deep.
func within(n int, open, inner, end string) string { return times(n, open) + inner + times(n, end) }

func TestParseOfTheDeepestTypes(t *testing.T) {
	for _, c := range [][2]string{{"list<", ">"}, {"set < ", " >"}, {"map<i8,", ">"}, {"map<", ",i8>"}, {"map<list<i8>,", ">"}} {
		for n := range api.MaxNest {
			wantOK(t, "typedef "+within(n, c[0], "i8", c[1])+" T")
		}
		deepest := api.MaxNest - strings.Count(c[0], "list<i8>")
		shown := strings.ReplaceAll(within(deepest, c[0], "byte", c[1]), " ", "")
		wantDefs(t, "typedef "+within(deepest, c[0], "byte", c[1])+" T", typedef(strings.ReplaceAll(shown, "byte", "i8"), "T"))
	}
	for _, s := range []string{"list", "set", "map", "list<i8>", "set<a>", "map<i8,i8>", "map<list<i8>,i8>"} {
		for _, c := range [][2]string{{"list<", ">"}, {"set<", ">"}, {"map<i8,", ">"}, {"map<", ",i8>"}} {
			n := api.MaxNest
			for _, where := range []string{"typedef %", "const %", "struct S { %", "struct S { 1: required %", "service P { %", "service P { void f(%", "service P { void f() throws (%", "exception S { %", "service P { oneway %"} {
				open := strings.Replace(where, "%", times(n, c[0]), 1)
				wantError(t, open+"^"+s, api.ErrDepth)
				wantError(t, open+"^"+s+times(n, c[1])+" a", api.ErrDepth)
				wantForm(t, open+"^<", open+"^1", open+"^list.a", open+"^void")
				wantFaultAtTheEnd(t, open)
			}
			wantOK(t, "typedef "+within(n-1, c[0], "set<i8>", c[1])+" T")
		}
	}
}

func TestParseOfTheDeepestConstants(t *testing.T) {
	for _, c := range [][2]string{{"[", "]"}, {"[1,", ";]"}, {"{1:", "}"}, {"{", ":1}"}, {"{[]:", "}"}} {
		deepest := api.MaxNest - strings.Count(c[0], "[]")
		for n := range deepest + 1 {
			wantOK(t, "const i8 A = "+within(n, c[0], "1", c[1]))
		}
		if strings.Contains(c[0], "[]") {
			wantError(t, "const i8 A = "+times(deepest, c[0])+"{^[]", api.ErrDepth)
			continue
		}
		for _, where := range []string{"const i8 A = %", "struct S { i8 a = %", "service P { void f(1: i8 a = %", "service P { void f() throws (i8 a = %"} {
			open := strings.Replace(where, "%", times(api.MaxNest, c[0]), 1)
			for _, s := range []string{"[", "{", "[]", "{}", "[1]", "{1:2}", "[[]]"} {
				wantError(t, open+"^"+s, api.ErrDepth)
				wantError(t, open+"^"+s+times(api.MaxNest, c[1]), api.ErrDepth)
			}
			wantForm(t, open+"^(", open+"^void", open+"^<")
			wantFaultAtTheEnd(t, open)
		}
	}
}

func TestDepthsAreCountedEachByItself(t *testing.T) {
	deepType := within(api.MaxNest, "list<", "i8", ">")
	deepConst := within(api.MaxNest, "[", "", "]")
	wantOK(t, "typedef "+deepType+"T const "+deepType+"A="+deepConst+" struct S{"+deepType+"a="+deepConst+deepType+"a="+deepConst+"}")
	wantOK(t, "typedef map<"+within(api.MaxNest-1, "list<", "i8", ">")+","+within(api.MaxNest-1, "set<", "i8", ">")+">T")
	wantOK(t, "const i8 A = {"+within(api.MaxNest-1, "[", "", "]")+":"+within(api.MaxNest-1, "[", "", "]")+","+within(api.MaxNest-1, "[", "", "]")+":1}")
	wantOK(t, "const i8 A = ["+times(3, within(api.MaxNest-1, "[", "", "]"))+"]")
}

func TestParseTellsTheFirstErrorFromTheLeft(t *testing.T) {
	tooMany := "const i8 A = [" + times(api.MaxItems, "1 ")
	tooDeep := times(api.MaxNest, "[")
	wantError(t, tooMany+"^1 ) "+tooDeep+"[", api.ErrLong)
	wantError(t, "const i8 A = "+tooDeep+"^[ ) "+times(api.MaxItems+1, "1 "), api.ErrDepth)
	wantForm(t, "const i8 A ^"+tooDeep+"["+times(api.MaxItems+1, "1 "))
	wantError(t, "const i8 A = "+tooDeep+times(api.MaxItems, "1 ")+"^1 [", api.ErrLong)
	wantError(t, "const i8 A = "+tooDeep+times(api.MaxItems-1, "1 ")+"^[ 1 1", api.ErrDepth)
	// What begins one element too many may be too deep, too.
	for _, s := range []string{"[", "{", "1"} {
		wantError(t, "const i8 A = "+tooDeep+times(api.MaxItems, "1 ")+"^"+s, api.ErrLong)
		wantError(t, "const i8 A = "+times(api.MaxNest-1, "[")+"{"+times(api.MaxItems, "1:1 ")+"^"+s, api.ErrLong)
	}
	wantError(t, "const i8 A = "+times(api.MaxNest-1, "[")+"{"+times(api.MaxItems-1, "1:1 ")+"1:^[", api.ErrDepth)
}

func TestReserved(t *testing.T) {
	words := strings.Fields(reservedWords)
	if len(words) != 17+11+1 {
		t.Errorf("%d reserved words", len(words))
	}
	for _, w := range words {
		if !parse.Reserved(w) {
			t.Errorf("Reserved(%q): false", w)
		}
		for _, s := range []string{w + "s", "_" + w, w[:len(w)-1], w[1:], strings.ToUpper(w), strings.ToUpper(w[:1]) + w[1:], w + " ", " " + w, w + ".a", "a." + w, w + w, w + "\x00", w + "."} {
			if parse.Reserved(s) {
				t.Errorf("Reserved(%q): true", s)
			}
		}
	}
	for _, s := range []string{"", " ", "a", "i1", "i9", "i128", "u8", "float", "slist", "senum", "async", "cpp_include", "default", "null", "int", "uuid", "*", "{", "true false", reservedWords} {
		if parse.Reserved(s) {
			t.Errorf("Reserved(%q): true", s)
		}
	}
}

func wantPlainName(t *testing.T, s string, want bool) {
	t.Helper()
	if got := parse.Plain(s); got != want || plainPlain(s) != want {
		t.Errorf("Plain(%.100q): %t, want %t", s, got, want)
	}
}

func TestPlain(t *testing.T) {
	for _, s := range []string{"a", "Z", "_", "__", "a1", "_1", "a_b", "Void", "VOID", "i9", "lists", "struct_", "_list", longName, longName[1:], "_" + longName[1:], longName[1:] + "9"} {
		wantPlainName(t, s, true)
	}
	for _, s := range []string{"", " ", "1", "1a", "9_", "a.b", ".a", "a.", ".", "a b", " a", "a ", "a-b", "a\n", "\na", "é", "aé", "a\xff", "ａ", "a\x00", "\x00", "*", "'a'", longName + "n", "1" + longName[1:], longName + ".a", "a,b", "list<i8>", "list.a", "$a"} {
		wantPlainName(t, s, false)
	}
	for _, w := range strings.Fields(reservedWords) {
		wantPlainName(t, w, false)
		wantPlainName(t, w+"_", true)
		wantPlainName(t, "_"+w, true)
		wantPlainName(t, strings.ToUpper(w), true)
		wantPlainName(t, "a."+w, false)
	}
}

func TestPlainOfEachByte(t *testing.T) {
	everyByte(func(b string) {
		for _, s := range []string{b, "a" + b, b + "a", "_" + b + "_", "9" + b, b + "9", longName[1:] + b, b + longName[1:], longName + b} {
			wantPlainName(t, s, plainPlain(s))
		}
	})
	everyByte(func(b string) {
		everyByte(func(c string) { wantPlainName(t, b+c, plainPlain(b+c)) })
	})
}

func TestPlainOfEachLength(t *testing.T) {
	for n := range 130 {
		wantPlainName(t, times(n, "a"), 1 <= n && n <= 40)
	}
}

func TestVeryLongTexts(t *testing.T) {
	for _, s := range []string{"a", "[", "list<", "a.", "'", "/*", "struct S {", "1 ", " ", ".", "\xff"} {
		text := times(1<<21/len(s), s)
		wantFault(t, text, api.ErrLong, 0)
		if parse.Reserved(text) || parse.Plain(text) {
			t.Errorf("%q, often, is a reserved word or a plain name", s)
		}
	}
}

func TestLongestTextsOfManySorts(t *testing.T) {
	ahead := []string{"", "const i8 A = ", "typedef ", "struct S {", "struct S { i8 a = ", "service P {", "service P { void f(", "enum E {", "include ", "namespace "}
	pieces := []string{"[", "{", "{1:", "[1,", "list<", "map<", "map<i8,", "map<set<", "a ", "a.", "1 ", "1:", "'a'", ",", ";", ")", "}", "]", ">", "i8 a ", "void f(){", "oneway ", "=", "required "}
	for _, a := range ahead {
		for _, p := range pieces {
			text := (a + times(api.MaxText, p))[:api.MaxText]
			_, e, at := parse.Parse(text)
			if e == api.OK || at < 0 || at > len(text) {
				t.Errorf("Parse(%.60q..): %d at %d", text, e, at)
			}
			wantPlain(t, text[:200])
		}
	}
}

func sharesMemory(s, t string) bool {
	if s == "" || t == "" {
		return false
	}
	a, b := uintptr(unsafe.Pointer(unsafe.StringData(s))), uintptr(unsafe.Pointer(unsafe.StringData(t)))
	return a < b+uintptr(len(t)) && b < a+uintptr(len(s))
}

// textsOf are all texts in an answer.
func textsOf(v reflect.Value) (l []string) {
	switch v.Kind() {
	case reflect.String:
		return []string{v.String()}
	case reflect.Slice:
		for i := range v.Len() {
			l = append(l, textsOf(v.Index(i))...)
		}
	case reflect.Struct:
		for i := range v.NumField() {
			l = append(l, textsOf(v.Field(i))...)
		}
	}
	return l
}

const everything = "include 'bb' namespace * x.y namespace js zz typedef map<string,list<b.T>> MM const list<i32> LL = [{'aa':[1.5;true], b.C.D:{}},] enum EE { AA, BB = 0x10; CC } struct SS { 1: required i32 aa = -1, optional byte bb; NN cc } union UU {} exception XX { 2: string mm } service PP extends b.QQ { oneway void ff(), i32 gg(1: SS ss, UU uu = 'text') throws (1: XX xx) }"

func TestNothingOfTheTextIsKept(t *testing.T) {
	text := string([]byte(everything))
	f, _, _ := parse.Parse(text)
	for _, s := range textsOf(reflect.ValueOf(f)) {
		if sharesMemory(s, text) {
			t.Errorf("Parse: %q is a piece of the text", s)
		}
	}
}

// spoil overwrites all lists in an answer, with the unused ends of them.
func spoil(v reflect.Value) {
	switch v.Kind() {
	case reflect.Slice:
		for i := range v.Len() {
			spoil(v.Index(i))
		}
		all := v.Slice(0, v.Cap())
		for i := range all.Len() {
			all.Index(i).SetZero()
		}
	case reflect.Struct:
		for i := range v.NumField() {
			spoil(v.Field(i))
		}
	}
}

func TestAnswersAreNewLists(t *testing.T) {
	f, _, _ := parse.Parse(everything)
	kept, _, _ := parse.Parse(everything)
	spoil(reflect.ValueOf(&kept).Elem())
	wantFile(t, everything, f)
}

func TestListsOfAnAnswerShareNothing(t *testing.T) {
	want, _, _ := parse.Parse(everything)
	for i := range want.Defs {
		f, _, _ := parse.Parse(everything)
		spoil(reflect.ValueOf(&f.Defs[i]).Elem())
		for j := range f.Defs {
			if i != j && !reflect.DeepEqual(f.Defs[j], want.Defs[j]) {
				t.Errorf("definition %d changes with %d", j, i)
			}
		}
	}
	f, _, _ := parse.Parse("service P { void f(i8 a) throws (i8 b) void g(i8 c) throws (i8 d) } const i8 A = [[1],[2],{3:[4]}]")
	spoil(reflect.ValueOf(&f.Defs[0].Methods[0].Args).Elem())
	if m := f.Defs[0].Methods; m[0].Throws[0].Name != "b" || m[1].Args[0].Name != "c" || m[1].Throws[0].Name != "d" {
		t.Errorf("lists of fields share memory: %v", m)
	}
	l := f.Defs[1].Init.L
	spoil(reflect.ValueOf(&l[0].L).Elem())
	if !reflect.DeepEqual(l[1:], []api.Const{list(number(2)), dict(number(3), list(number(4)))}) {
		t.Errorf("lists of constants share memory: %v", l)
	}
}

func TestAnswersHangOnTheTextAlone(t *testing.T) {
	texts := []string{everything, "struct struct", "", "const i8 A = [1 [2]]", "typedef list<list<i8>> T", times(6, "include 'a' "), "enum E { A = 1 B }", "struct S {} @"}
	told := func(s string) string { return fmt.Sprint(parse.Parse(s)) }
	var first []string
	for _, s := range texts {
		first = append(first, told(s))
	}
	for i := range texts {
		for j := range texts {
			told(texts[j])
			if got := told(texts[i]); got != first[i] {
				t.Errorf("Parse(%.50q) after %.50q: %s, and at first %s", texts[i], texts[j], got, first[i])
			}
		}
	}
}

// everyRow calls f with each row of up to most of these words.
func everyRow(words []string, most int, f func(s string)) {
	var add func(s string, n int)
	add = func(s string, n int) {
		f(s)
		for i := 0; n < most && i < len(words); i++ {
			add(s+" "+words[i], n+1)
		}
	}
	add("", 0)
}

func TestAllShortRowsOfWords(t *testing.T) {
	t.Parallel()
	for _, c := range []struct{ ahead, words string }{
		{"", "include namespace 'b' a.b * struct { } typedef i8 a ;"},
		{"", "const i8 a = 1 , enum { } service include 'a'"},
		{"include 'a' namespace a b", "include 'a' namespace c * ; enum E { }"},
		{"typedef", "list map byte a.b < > , ; T void 1"},
		{"typedef map <", "list < > , byte T a.b.c.d i8"},
		{"typedef " + times(api.MaxNest-1, "set<"), "list set map < > , i8 a"},
		{"const i8 A =", "1 1.5 'a' b.c [ ] { } : ,"},
		{"const i8 A = [", "1 true list [ ] { } : , ;"},
		{"const i8 A = " + times(api.MaxNest-1, "["), "1 a [ ] { } : , ;"},
		{"enum E", "{ } A = 1 -.5 , ; a.b"},
		{"struct S {", "1 : required optional i8 list a = , }"},
		{"struct S { 1: i8 a", "= 1 : [ ] , ; a }"},
		{"service P", "extends Q { } void f ( ) ;"},
		{"service P {", "oneway void i8 f ( ) throws , }"},
		{"service P { void f(i8 a)", "throws ( ) i8 x , ; } void"},
		{"enum E {" + times(api.MaxFields-1, "A "), "A = 1 , ; } a.b i8"},
		{"struct S {" + times(api.MaxFields-1, "A a "), "A = 1 : , } required list"},
		{"service P {" + times(api.MaxFields-1, "A a()"), "A oneway void ( ) throws , } ="},
		{"const i8 A = [" + times(api.MaxItems-1, "1 "), "1 a [ ] { } : , void"},
		{"const i8 A = {" + times(api.MaxItems-1, "1:1 "), "1 a [ ] { } : , void"},
		{times(api.MaxDefs-1, "union A{}"), "typedef struct i8 a { } , ; include"},
		{times(api.MaxFiles-1, "include 'a' namespace * a "), "include namespace 'a' a * ;"},
	} {
		most := 4
		if len(c.ahead) > 100 {
			most = 3
		}
		everyRow(strings.Fields(c.words), most, func(s string) { wantPlain(t, c.ahead+s) })
	}
}

// everyWord has a word of each sort.
const everyWord = "include namespace typedef const enum struct union exception service extends throws oneway void required optional true i8 byte list map a a.b.c a.b.c.d a.i8 1 1.5 'a' '1' { } [ ] ( ) < > , ; : = *"

func TestEachWordChanged(t *testing.T) {
	t.Parallel()
	const text = "include 'b' namespace * x.y namespace js z typedef map < string , list < b.T > > M ; const i32 N = -5 , const list < M > L = [ { 'a' : [ 1.5 ; true ] , b.C.D : { } } , ] enum E { A , B = 0x10 ; C } struct S { 1 : required i32 a = 1 , optional byte b ; N c } union U { } exception X { 2 : string m } service P extends b.Q { oneway void f ( ) , i32 g ( 1 : S s , U u ) throws ( 1 : X x ) }"
	words := strings.Fields(text)
	wantPlain(t, text)
	for i := range words {
		ahead, behind := strings.Join(words[:i], " ")+" ", " "+strings.Join(words[i+1:], " ")
		wantPlain(t, ahead+behind)
		for _, w := range strings.Fields(everyWord) {
			wantPlain(t, ahead+w+behind)
			wantPlain(t, ahead+w+" "+words[i]+behind)
		}
	}
}

// next is a row of numbers, the same ones each time.
type next uint64

// below returns a number from 0 to n - 1.
func (r *next) below(n int) int {
	*r ^= *r << 13
	*r ^= *r >> 7
	*r ^= *r << 17
	return int(uint64(*r) >> 11 % uint64(n))
}

func (r *next) of(s string) string {
	l := strings.Fields(s)
	return l[r.below(len(l))]
}

func (r *next) maybe(s string) string {
	if r.below(2) == 0 {
		return ""
	}
	return s
}

// often joins up to most of what f makes.
func (r *next) often(most int, f func() string) (s string) {
	for range r.below(most + 1) {
		s += f() + " " + r.gap()
	}
	return s
}

func (r *next) gap() string { return []string{"", ",", ";", " ", "\n"}[r.below(5)] }

func (r *next) plain() string { return r.of("a B _c d9 Struct " + longName) }

func (r *next) qualified() string { return r.of("a a.b a.b.c _.x " + longName + "." + longName) }

func (r *next) typ(most int) string {
	switch n := r.below(5); {
	case most > 0 && n == 0:
		return r.of("list set") + " <" + r.typ(most-1) + ">"
	case most > 0 && n == 1:
		return "map< " + r.typ(most-1) + ", " + r.typ(most-1) + ">"
	case n == 2:
		return r.qualified()
	}
	return r.of("bool i8 i16 i32 i64 double string binary byte")
}

func (r *next) constant(most int) string {
	switch n := r.below(5); {
	case most > 0 && n == 0:
		return "[" + r.often(3, func() string { return r.constant(most - 1) }) + "]"
	case most > 0 && n == 1:
		return "{" + r.often(3, func() string { return r.constant(most-1) + ":" + r.constant(most-1) }) + "}"
	case n == 2:
		return r.qualified()
	}
	return r.of("1 -1 +0 0xF 1.5 -.5 1e9 'a' \"\" true false")
}

func (r *next) field() string {
	s := r.maybe(r.of("1 -1 0x1")+":") + r.of("required optional / /") + " " + r.typ(2) + " " + r.plain() + r.maybe("= "+r.constant(2))
	return strings.ReplaceAll(s, "/", "")
}

func (r *next) method() string {
	return r.maybe("oneway ") + r.of("void i8 a.b list<i8>") + " " + r.plain() + "(" + r.often(3, r.field) + ")" + r.maybe(" throws ("+r.often(2, r.field)+")")
}

func (r *next) def() string {
	switch r.below(5) {
	case 0:
		return "typedef " + r.typ(4) + " " + r.plain()
	case 1:
		return "const " + r.typ(1) + " " + r.plain() + " = " + r.constant(4)
	case 2:
		return "enum " + r.plain() + " {" + r.often(3, func() string { return r.plain() + r.maybe("="+r.of("1 -1 0x1F")) }) + "}"
	case 3:
		return "service " + r.plain() + r.maybe(" extends "+r.qualified()) + "{" + r.often(3, r.method) + "}"
	}
	return r.of("struct union exception") + " " + r.plain() + "{" + r.often(4, r.field) + "}"
}

func (r *next) file() (s string) {
	for range r.below(4) {
		s += r.maybe("include '"+r.plain()+"'\n") + r.maybe("namespace "+r.of("* a a.b")+" "+r.qualified()+"\n")
	}
	return s + r.often(4, r.def)
}

func TestSomeFiles(t *testing.T) {
	t.Parallel()
	r := next(7)
	files := 0
	for range 3000 {
		s := r.file()
		if len(s) > api.MaxText {
			continue
		}
		files++
		wantOK(t, s)
		wantPlain(t, s)
	}
	if files < 2000 {
		t.Errorf("only %d files", files)
	}
}

func TestSomeFilesWithAFault(t *testing.T) {
	t.Parallel()
	r := next(77)
	for range 6000 {
		words := strings.Fields(strings.NewReplacer("<", " < ", ">", " > ", "(", " ( ", ")", " ) ", ",", " , ", ":", " : ", "[", " [ ", "{", " { ").Replace(r.file()))
		for range 1 + r.below(2) {
			if len(words) == 0 {
				break
			}
			i := r.below(len(words))
			switch r.below(4) {
			case 0:
				words = slices.Delete(words, i, i+1)
			case 1:
				words[i] = r.of(everyWord)
			case 2:
				words = slices.Insert(words, i, r.of(everyWord))
			default:
				words[i] = words[r.below(len(words))]
			}
		}
		if s := strings.Join(words, " "); len(s) <= api.MaxText {
			wantPlain(t, s)
		}
	}
}

func TestSomeBytes(t *testing.T) {
	r := next(777)
	for range 20000 {
		b := make([]byte, r.below(12))
		for i := range b {
			b[i] = byte(r.below(256))
		}
		wantPlain(t, string(b))
	}
	everyByte(func(b string) {
		for _, s := range []string{b, "struct S {" + b, "const i8 A = [" + b, "enum E { A " + b + " B }", "typedef list" + b + "i8> T", "struct S {}" + b} {
			wantPlain(t, s)
		}
	})
}
