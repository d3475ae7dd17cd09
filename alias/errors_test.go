package alias_test

import (
	"strconv"
	"strings"
	"testing"

	"assayer/api"
	"assayer/bundle"
)

// deep is n lists around a type.
func deep(n int, text string) string {
	return strings.Repeat("list<", n) + text + strings.Repeat(">", n)
}

// faulty is files with names for each error: C and P are of the wrong kind, Q and R a
// cycle, NS, NL and NM have no key type, D is as deep as may be, and F is no type's text
// (which no parsed file has). The names of b are those of a; Z is of nothing.
func faulty(t *testing.T) bundle.Loaded {
	t.Helper()
	text := definitions + "const i8 C = 1 service P {} typedef R Q typedef list<Q> R typedef i8 K typedef list<i8> L typedef set<S> NS typedef map<L,S> NL typedef map<i8,NS> NM typedef " + deep(api.MaxNest, "i8") + " D typedef i8 F"
	l := of(t, "a", "include 'b' "+text, "b", text)
	for i := range l.Files {
		defs := l.Files[i].Defs
		defs[len(defs)-1].Type = "list<"
	}
	return l
}

// fault is a type with one error in it.
type fault struct {
	text string
	e    api.Errno
}

// faults is all of them that are met in the middle of a type.
func faults() []fault {
	return []fault{
		{"F", api.ErrForm}, {"b.F", api.ErrForm},
		{"Z", api.ErrName}, {"b.Z", api.ErrName}, {"c.S", api.ErrName}, {"a.b.S", api.ErrName},
		{"C", api.ErrKind}, {"P", api.ErrKind}, {"b.C", api.ErrKind}, {"b.P", api.ErrKind},
		{"Q", api.ErrCycle}, {"R", api.ErrCycle}, {"b.Q", api.ErrCycle}, {"b.R", api.ErrCycle},
		{"NS", api.ErrKey}, {"b.NL", api.ErrKey}, {"NM", api.ErrKey},
		{"set<S>", api.ErrKey}, {"set<b.X>", api.ErrKey}, {"set<L>", api.ErrKey}, {"map<U,i8>", api.ErrKey}, {"map<b.L,i8>", api.ErrKey}, {"set<D>", api.ErrKey},
	}
}

// good is types without an error, of which the first ones are key types.
func good() (keys, others []string) {
	return []string{"i8", "E", "b.E", "K", "b.K"}, []string{"S", "b.U", "list<i8>", "set<E>", "map<b.K,S>", "L", "b.L"}
}

func TestEachErrorAlone(t *testing.T) {
	t.Parallel()
	l := faulty(t)
	keys, _ := good()
	for _, x := range faults() {
		wantError(t, l, "a", x.text, x.e)
		wantError(t, l, "a", "list<"+x.text+">", x.e)
		wantError(t, l, "a", "set<"+x.text+">", x.e)
		wantError(t, l, "a", "map<"+x.text+",i8>", x.e)
		wantError(t, l, "a", "list<list<"+x.text+">>", x.e)
		wantError(t, l, "a", "set<list<"+x.text+">>", x.e)
		for _, k := range keys {
			wantError(t, l, "a", "map<"+k+","+x.text+">", x.e)
			wantError(t, l, "a", "map<"+k+",list<map<"+k+","+x.text+">>>", x.e)
			wantError(t, l, "a", "map<map<"+k+","+x.text+">,"+k+">", x.e)
		}
	}
}

// TestErrorsOfTypedefs has each error in a type that a typedef leads to, one or two
// typedefs away and from another file.
func TestErrorsOfTypedefs(t *testing.T) {
	t.Parallel()
	for _, x := range faults() {
		for _, around := range []string{"%", "list<%>", "set<%>", "map<%,i8>", "map<i8,%>", "map<E,list<%>>"} {
			l := faulty(t)
			l.Files[1].Defs = append(l.Files[1].Defs,
				api.Def{Kind: api.DefTypedef, Name: "T", Type: strings.ReplaceAll(around, "%", x.text)},
				api.Def{Kind: api.DefTypedef, Name: "V", Type: "list<a.T>"})
			wantError(t, l, "a", "T", x.e)
			wantError(t, l, "a", "V", x.e)
			wantError(t, l, "a", "map<K,V>", x.e)
		}
	}
	l := faulty(t)
	l.Files[0].Defs = append(l.Files[0].Defs, api.Def{Kind: api.DefTypedef, Name: "T", Type: "map<Q,Z>"}) // of b
	if l.Names[0] != "b" {
		t.Fatalf("files: %q", l.Names)
	}
	wantError(t, l, "b", "T", api.ErrCycle)
	wantError(t, l, "a", "b.T", api.ErrCycle)
	wantError(t, l, "a", "map<i8,map<i8,map<b.T,Z>>>", api.ErrCycle)
}

// TestErrForm has texts that kind.Head refuses, also those that are too deep; names with
// errors of their own ahead of what makes a text wrong do not count, as the text is none.
func TestErrForm(t *testing.T) {
	t.Parallel()
	l := faulty(t)
	for _, text := range []string{
		"", " ", "i8 ", " i8", "1", "a.", ".a", "a..b", "a.1", "list", "set", "map", "list<", "list<>", "list<i8", "list<i8>>", "list<i8,i8>", "list <i8>", "list< i8>", "map<i8>", "map<i8,>", "map<,i8>", "map<i8,i8,i8>", "map<i8, i8>", "i8.a", "list.a", "S>", "S<i8>", "i8<i8>", "<i8>", ",", "\x00", "\xff", "é", "*", "void x", "list<void x>",
		deep(api.MaxNest+1, "i8"), deep(api.MaxNest+1, "S"), deep(40, "i8"), deep(api.MaxNest, "set<i8>"), deep(api.MaxNest, "map<i8,i8>"), strings.Repeat("map<i8,", api.MaxNest+1) + "i8" + strings.Repeat(">", api.MaxNest+1), strings.Repeat("list<", 100000),
	} {
		wantError(t, l, "a", text, api.ErrForm)
		wantError(t, l, "z", text, api.ErrForm)
		wantError(t, bundle.Loaded{}, "", text, api.ErrForm)
	}
	for _, x := range faults() {
		for _, text := range []string{"list<" + x.text, x.text + ">", "map<" + x.text + ",1>", "map<" + x.text + ",>", "map<" + x.text + ",i8", "map<" + x.text + ",i8,i8>", "map<" + x.text + ",set>", "map<" + x.text + "," + deep(api.MaxNest, "i8") + ">", x.text + " "} {
			wantError(t, l, "a", text, api.ErrForm)
		}
	}
}

// TestErrFormOfATypedef has a typedef in a file that is made by hand, since no parsed one
// has a text that is no type's.
func TestErrFormOfATypedef(t *testing.T) {
	t.Parallel()
	for _, text := range []string{"", "list<", "i8 ", "map<i8>", "map<Z,1>", "void x", deep(api.MaxNest+1, "i8"), "set<" + deep(api.MaxNest, "S") + ">"} {
		l := of(t, "a", "typedef i8 T typedef list<T> V struct S {}")
		l.Files[0].Defs[0].Type = text
		wantError(t, l, "a", "T", api.ErrForm)
		wantError(t, l, "a", "V", api.ErrForm)
		wantError(t, l, "a", "map<T,Z>", api.ErrForm)
		wantError(t, l, "a", "map<i8,map<Z,T>>", api.ErrName)
		wantType(t, l, "a", "S", "a.S", api.Struct)
	}
}

func TestErrName(t *testing.T) {
	t.Parallel()
	l := faulty(t)
	for _, text := range []string{"Z", "s", "a", "b", "X1", "c.S", "A.S", "a.Z", "b.Z", "E.X", "a.E.X", "S.f", "a.S.f", "void", "byte", "struct", "include", "list_", "i8_", "I8", longName, strings.Repeat("Z", 1<<20), strings.Repeat("a.", 1<<10) + "S"} {
		wantError(t, l, "a", text, api.ErrName)
		wantError(t, l, "a", "list<"+text+">", api.ErrName)
		wantError(t, l, "a", "map<i8,"+text+">", api.ErrName)
	}
	wantError(t, bundle.Loaded{}, "a", "S", api.ErrName)
	wantError(t, bundle.Loaded{}, "", "S", api.ErrName)
}

func TestErrKind(t *testing.T) {
	t.Parallel()
	l := of(t, "a", "include 'b' const E C = E.X enum E { X } service P {} service P2 extends P {} typedef C T typedef b.P V", "b", "const list<i8> C = [] service P { void f() }")
	for _, name := range []string{"C", "P", "P2", "a.C", "a.P", "b.C", "b.P", "T", "V", "a.T"} {
		wantError(t, l, "a", name, api.ErrKind)
		wantError(t, l, "a", "list<"+name+">", api.ErrKind)
		wantError(t, l, "a", "set<"+name+">", api.ErrKind)
		wantError(t, l, "a", "map<"+name+",i8>", api.ErrKind)
		wantError(t, l, "a", "map<i8,"+name+">", api.ErrKind)
	}
}

// TestKindsThatNoFileHas has definitions of each number of a kind: a type is none but
// those that the chapter names.
func TestKindsThatNoFileHas(t *testing.T) {
	t.Parallel()
	for k := -2; k < 20; k++ {
		l := bundle.Loaded{Names: []string{"a"}, Files: []api.File{{Defs: []api.Def{{Kind: k, Name: "T", Type: "i8"}}}}}
		switch k {
		case api.DefTypedef:
			wantType(t, l, "a", "T", "i8", api.I8)
		case api.DefEnum:
			wantType(t, l, "a", "T", "a.T", api.Enum)
		case api.DefStruct, api.DefUnion, api.DefException:
			wantType(t, l, "a", "T", "a.T", api.Struct)
		default:
			wantError(t, l, "a", "T", api.ErrKind)
			wantKey(t, l, "a.T", false)
		}
	}
}

func TestErrKey(t *testing.T) {
	t.Parallel()
	l := faulty(t)
	keys, others := good()
	for _, k := range keys {
		for _, v := range append(others, keys...) {
			for _, s := range []string{"set<" + k + ">", "map<" + k + "," + v + ">"} {
				if got := ask(l, "a", s); got.e != api.OK || got.whole == "" || got.kind != kindOf(s) {
					t.Errorf("Type(%s): %v", s, got)
				}
			}
		}
	}
	for _, k := range append(others, "D", "b.D", "list<D>", "list<list<D>>", "list<set<i8>>", "map<i8,D>") {
		wantError(t, l, "a", "set<"+k+">", api.ErrKey)
		wantError(t, l, "a", "list<set<"+k+">>", api.ErrKey)
		wantError(t, l, "a", "map<i8,set<"+k+">>", api.ErrKey)
		for _, v := range append(others, keys...) {
			wantError(t, l, "a", "map<"+k+","+v+">", api.ErrKey)
			wantError(t, l, "a", "map<i8,map<"+k+","+v+">>", api.ErrKey)
		}
	}
}

// TestErrKeyAmongAKeysAndAValuesErrors: a key's own errors go before ErrKey, and it
// before those of a map's value type.
func TestErrKeyAmongAKeysAndAValuesErrors(t *testing.T) {
	t.Parallel()
	l := faulty(t)
	_, others := good()
	for _, x := range faults() {
		for _, text := range []string{"list<" + x.text + ">", "map<i8," + x.text + ">", "list<list<" + x.text + ">>"} {
			wantError(t, l, "a", "set<"+text+">", x.e)
			wantError(t, l, "a", "map<"+text+",i8>", x.e)
			wantError(t, l, "a", "map<"+text+",set<S>>", x.e)
		}
		for _, k := range others {
			wantError(t, l, "a", "map<"+k+","+x.text+">", api.ErrKey)
			wantError(t, l, "a", "map<"+k+",list<"+x.text+">>", api.ErrKey)
			wantError(t, l, "a", "map<i8,map<"+k+","+x.text+">>", api.ErrKey)
			wantError(t, l, "a", "map<set<"+k+">,"+x.text+">", api.ErrKey)
		}
	}
}

// TestPairsOfErrors has each two errors, of which the one more to the left counts.
func TestPairsOfErrors(t *testing.T) {
	t.Parallel()
	l := faulty(t)
	for _, x := range faults() {
		for _, y := range faults() {
			for _, s := range []string{
				"map<" + x.text + "," + y.text + ">",
				"map<list<" + x.text + ">," + y.text + ">",
				"list<map<" + x.text + ",list<" + y.text + ">>>",
				"map<i8,map<E,map<" + x.text + "," + y.text + ">>>",
				"map<map<K," + x.text + ">,set<" + y.text + ">>",
				"set<map<" + x.text + "," + y.text + ">>",
				"map<map<" + x.text + ",i8>," + y.text + ">",
			} {
				wantError(t, l, "a", s, x.e)
			}
		}
	}
}

// TestPairsOfErrorsOfTypedefs has two errors of which one is behind a typedef, or both.
func TestPairsOfErrorsOfTypedefs(t *testing.T) {
	t.Parallel()
	for _, x := range faults() {
		for _, y := range faults() {
			l := faulty(t)
			l.Files[1].Defs = append(l.Files[1].Defs,
				api.Def{Kind: api.DefTypedef, Name: "TX", Type: "list<" + x.text + ">"},
				api.Def{Kind: api.DefTypedef, Name: "TY", Type: y.text},
				api.Def{Kind: api.DefTypedef, Name: "TXY", Type: "map<TX,TY>"})
			for _, s := range []string{"map<TX," + y.text + ">", "map<" + x.text + ",TY>", "map<TX,TY>", "TXY", "map<i8,TXY>", "map<TXY," + y.text + ">"} {
				wantError(t, l, "a", s, x.e)
			}
		}
	}
}

// TestErrDepthIsLast has types that are too deep, with another error ahead of the end.
func TestErrDepthIsLast(t *testing.T) {
	t.Parallel()
	for _, x := range faults() {
		l := faulty(t)
		l.Files[1].Defs = append(l.Files[1].Defs,
			api.Def{Kind: api.DefTypedef, Name: "T", Type: deep(api.MaxNest-2, x.text)},
			api.Def{Kind: api.DefTypedef, Name: "V", Type: deep(api.MaxNest-2, "T")})
		for _, s := range []string{"list<list<list<T>>>", deep(api.MaxNest, "T"), "V", "list<V>", "map<i8,V>", "set<V>", "map<V,Z>"} {
			wantError(t, l, "a", s, x.e)
		}
		wantError(t, l, "a", "map<list<D>,"+x.text+">", api.ErrKey)
		wantError(t, l, "a", "map<i8,map<list<D>,"+x.text+">>", api.ErrKey)
	}
}

// circle is typedefs in file a, each of which leads to the next one within the type that
// around tells of, and the last one to the first one.
func circle(n int, around string) string {
	text := ""
	for i := range n {
		next := "T" + strconv.Itoa((i+1)%n)
		text += "typedef " + strings.ReplaceAll(around, "%", next) + " T" + strconv.Itoa(i) + " "
	}
	return text
}

func TestCycles(t *testing.T) {
	t.Parallel()
	for _, around := range []string{"%", "a.%", "list<%>", "set<%>", "map<%,i8>", "map<i8,%>", "map<%,%>", "map<E,list<%>>", "map<K,map<a.E,map<L,%>>>", "map<string,map<K,list<list<%>>>>", "map<%,Z>", "map<i8,map<%,set<S>>>", "set<list<%>>"} {
		for n := 1; n <= 6; n++ {
			l := of(t, "r", "include 'a' typedef a.T0 R", "a", "enum E { X } struct S {} typedef i8 K typedef K L "+circle(n, around)+"typedef list<T0> V typedef map<E,V> W")
			for i := range n {
				name := "T" + strconv.Itoa(i)
				wantError(t, l, "a", name, api.ErrCycle)
				wantError(t, l, "a", "a."+name, api.ErrCycle)
				wantError(t, l, "a", "list<"+name+">", api.ErrCycle)
				wantError(t, l, "a", "set<"+name+">", api.ErrCycle)
				wantError(t, l, "a", "map<K,map<E,"+name+">>", api.ErrCycle)
				wantError(t, l, "a", "map<"+name+",Z>", api.ErrCycle)
			}
			wantError(t, l, "a", "V", api.ErrCycle)
			wantError(t, l, "a", "W", api.ErrCycle)
			wantError(t, l, "r", "R", api.ErrCycle)
			wantError(t, l, "r", "a.W", api.ErrCycle)
			wantType(t, l, "a", "map<K,L>", "map<i8,i8>", api.Map)
			wantKey(t, l, "a.T0", false)
		}
	}
}

// TestCyclesWithOtherErrors has an error that is met before typedefs are back, for each
// name of the cycle.
func TestCyclesWithOtherErrors(t *testing.T) {
	t.Parallel()
	for around, e := range map[string]api.Errno{"map<Z,%>": api.ErrName, "map<C,%>": api.ErrKind, "map<S,%>": api.ErrKey, "map<list<i8>,%>": api.ErrKey, "map<i8,map<Z,%>>": api.ErrName, "map<list<Z>,%>": api.ErrName, "map<set<S>,%>": api.ErrKey} {
		for n := 1; n <= 4; n++ {
			l := of(t, "a", "struct S {} const i8 C = 1 "+circle(n, around))
			for i := range n {
				wantError(t, l, "a", "T"+strconv.Itoa(i), e)
			}
		}
	}
	// The error is of one of the cycle alone: before it, or behind the way back.
	l := of(t, "a", "typedef T1 T0 typedef map<Z,T2> T1 typedef T0 T2 typedef V1 V0 typedef map<V0,Z> V1")
	for _, name := range []string{"T0", "T1", "T2"} {
		wantError(t, l, "a", name, api.ErrName)
	}
	wantError(t, l, "a", "V0", api.ErrCycle)
	wantError(t, l, "a", "V1", api.ErrCycle)
}

// TestCyclesOfSeveralFiles has files that include each other, which no loaded ones do.
func TestCyclesOfSeveralFiles(t *testing.T) {
	t.Parallel()
	typedef := func(name, text string) api.Def {
		return api.Def{Kind: api.DefTypedef, Name: name, Type: text}
	}
	l := bundle.Loaded{Names: []string{"a", "b", "c"}, Files: []api.File{
		{Includes: []string{"b", "a"}, Defs: []api.Def{typedef("T", "list<b.T>"), typedef("V", "b.V"), typedef("K", "i8")}},
		{Includes: []string{"c"}, Defs: []api.Def{typedef("T", "c.T"), typedef("V", "map<c.K,c.V>"), typedef("K", "c.K")}},
		{Includes: []string{"a"}, Defs: []api.Def{typedef("T", "map<i8,a.T>"), typedef("V", "set<a.K>"), typedef("K", "a.K")}},
	}}
	for _, file := range l.Names {
		wantError(t, l, file, "T", api.ErrCycle)
		wantError(t, l, file, "list<T>", api.ErrCycle)
		wantType(t, l, file, "K", "i8", api.I8)
	}
	// The same name in each file is no cycle.
	wantType(t, l, "a", "V", "map<i8,set<i8>>", api.Map)
	wantType(t, l, "b", "V", "map<i8,set<i8>>", api.Map)
	wantType(t, l, "c", "V", "set<i8>", api.Set)
}

// TestWholeTypesAtTheDepth has whole types of MaxNest, and of one more, by a text alone,
// and by typedefs that are of several parts of it.
func TestWholeTypesAtTheDepth(t *testing.T) {
	t.Parallel()
	deepest := deep(api.MaxNest, "i8")
	wantType(t, bundle.Loaded{}, "a", deepest, deepest, api.List)
	wantError(t, bundle.Loaded{}, "a", deep(api.MaxNest+1, "i8"), api.ErrForm)
	for n := range api.MaxNest + 1 {
		rest := api.MaxNest - n
		for _, inner := range []string{"i8", "S", "E"} {
			l := of(t, "a", "include 'b' typedef "+deep(n, inner)+" T typedef T V struct S {} enum E { X } typedef "+deep(rest, "T")+" W", "b", "typedef "+deep(n, "string")+" T")
			whole := deep(api.MaxNest, strings.NewReplacer("S", "a.S", "E", "a.E").Replace(inner))
			for _, name := range []string{"T", "V", "a.T"} {
				if n == 0 {
					break
				}
				wantType(t, l, "a", deep(rest, name), whole, api.List)
				if rest < api.MaxNest {
					wantError(t, l, "a", deep(rest+1, name), api.ErrDepth)
				}
				if rest+2 <= api.MaxNest {
					wantError(t, l, "a", deep(rest+2, name), api.ErrDepth)
					wantError(t, l, "a", deep(api.MaxNest, name), api.ErrDepth)
				}
			}
			wantType(t, l, "a", "W", whole, api.List)
			wantError(t, l, "a", "list<W>", api.ErrDepth)
			wantError(t, l, "a", "map<i8,W>", api.ErrDepth)
			wantError(t, l, "a", deep(api.MaxNest, "W"), api.ErrDepth)
			wantType(t, l, "a", deep(rest, "b.T"), deep(api.MaxNest, "string"), api.List)
		}
	}
}

// TestDepthOfEachKind has a list, a set and a map at the depth, each outermost and each
// innermost; key types have none.
func TestDepthOfEachKind(t *testing.T) {
	t.Parallel()
	l := of(t, "a", "enum E { X } typedef E K typedef list<i8> L typedef set<K> N typedef map<K,K> M typedef "+deep(api.MaxNest-1, "i8")+" D typedef list<D> DD typedef map<K,D> DM")
	for _, x := range [][2]string{{"L", "list<i8>"}, {"N", "set<a.E>"}, {"M", "map<a.E,a.E>"}} {
		wantType(t, l, "a", deep(api.MaxNest-1, x[0]), deep(api.MaxNest-1, x[1]), api.List)
		wantError(t, l, "a", deep(api.MaxNest, x[0]), api.ErrDepth)
		maps := strings.Repeat("map<K,", api.MaxNest-1)
		wholes := strings.Repeat("map<a.E,", api.MaxNest-1)
		ends := strings.Repeat(">", api.MaxNest-1)
		wantType(t, l, "a", maps+x[0]+ends, wholes+x[1]+ends, api.Map)
		wantError(t, l, "a", "map<K,"+maps+x[0]+ends+">", api.ErrDepth)
	}
	wantType(t, l, "a", "list<D>", deep(api.MaxNest, "i8"), api.List)
	wantType(t, l, "a", "map<i8,D>", "map<i8,"+deep(api.MaxNest-1, "i8")+">", api.Map)
	wantType(t, l, "a", "DM", "map<a.E,"+deep(api.MaxNest-1, "i8")+">", api.Map)
	for _, s := range []string{"list<DD>", "list<DM>", "map<i8,DD>", "map<K,DM>", "map<i8,list<D>>", "list<map<K,D>>", "list<list<D>>"} {
		wantError(t, l, "a", s, api.ErrDepth)
	}
	for _, s := range []string{"set<D>", "set<DD>", "map<DD,i8>", "map<list<DD>,Z>", "list<set<DD>>"} {
		wantError(t, l, "a", s, api.ErrKey)
	}
}
