package value_test

import (
	"fmt"
	"math"
	"slices"
	"strings"
	"testing"

	"assayer/api"
	"assayer/value"
)

func num(k int, n int64) api.Value { return api.Value{Kind: k, N: n} }

func i8(n int64) api.Value { return num(api.I8, n) }

func text(k int, s string) api.Value { return api.Value{Kind: k, S: s} }

func word(s string) api.Value { return text(api.String, s) }

func of(k int, l ...api.Value) api.Value { return api.Value{Kind: k, L: l} }

func list(l ...api.Value) api.Value { return of(api.List, l...) }

func set(l ...api.Value) api.Value { return of(api.Set, l...) }

func pairs(l ...api.Value) api.Value { return of(api.Map, l...) }

// i8s is a value of kind k with numbers in it.
func i8s(k int, l ...int64) api.Value {
	v := api.Value{Kind: k}
	for _, n := range l {
		v.L = append(v.L, i8(n))
	}
	return v
}

func rec(ids []int, l ...api.Value) api.Value {
	return api.Value{Kind: api.Struct, IDs: ids, L: l}
}

func field(id, req int, t, name string) api.SField {
	return api.SField{ID: id, Req: req, Type: t, Name: name}
}

func member(name string, n int64) api.Member { return api.Member{Name: name, Has: true, N: n} }

// The types of the schema that the tests are told of: structs of all kinds and enums.
func schema() api.Schema {
	const must, may = api.ReqRequired, api.ReqOptional
	return api.Schema{
		Enums: []api.SEnum{
			{Name: "a.Both", Members: []api.Member{member("X", 1)}},
			{Name: "a.E", Members: []api.Member{member("A", -3), member("B", 0), member("C", 7)}},
			{Name: "a.None"},
			{Name: "b.Wide", Members: []api.Member{member("A", math.MinInt32), member("B", math.MaxInt32)}},
		},
		Structs: []api.SStruct{
			{Kind: api.DefStruct, Name: "a.All", Fields: []api.SField{
				field(-2, 0, "bool", "b"), field(-1, 0, "i8", "c"), field(0, 0, "i16", "d"), field(1, 0, "i32", "e"), field(2, 0, "i64", "f"), field(3, 0, "double", "g"), field(4, 0, "string", "h"), field(5, 0, "binary", "i"),
				field(6, 0, "a.E", "j"), field(7, 0, "list<i8>", "k"), field(8, 0, "set<string>", "l"), field(9, 0, "map<i8,a.All>", "m"), field(10, 0, "a.U", "n"), field(11, 0, "a.Empty", "o"), field(12, 0, "a.Gone", "p"), field(13, 0, "list<", "q")}},
			{Kind: api.DefStruct, Name: "a.Both", Fields: []api.SField{field(1, may, "a.Both", "a")}},
			{Kind: api.DefException, Name: "a.Empty"},
			{Kind: api.DefStruct, Name: "a.Must", Fields: []api.SField{field(1, must, "i8", "a"), field(2, may, "i8", "b"), field(3, 0, "i8", "c"), field(4, must, "string", "d")}},
			{Kind: api.DefUnion, Name: "a.U", Fields: []api.SField{field(-1, may, "i8", "a"), field(2, 0, "string", "b"), field(3, 0, "a.U", "c")}},
			{Kind: api.DefException, Name: "b.X", Fields: []api.SField{field(1, 0, "string", "why"), field(2, must, "a.E", "what")}},
			{Kind: api.DefStruct, Name: "c.Deep", Fields: []api.SField{field(1, 0, "list<c.Deep>", "a"), field(2, 0, "set<c.Deep>", "b"), field(3, 0, "map<c.Deep,c.Deep>", "c"), field(4, 0, "c.Deep", "d"), field(5, 0, "i64", "e")}},
			{Kind: api.DefUnion, Name: "c.Never"},
		},
	}
}

// simple has a value for each type without a name.
var simple = map[string]api.Value{
	"bool": num(api.Bool, 0), "i8": i8(1), "i16": num(api.I16, 1), "i32": num(api.I32, 1), "i64": num(api.I64, 1), "double": num(api.Double, 1), "string": word("a"), "binary": text(api.Binary, "a"),
	"list<i8>": i8s(api.List, 1, 2), "set<i8>": i8s(api.Set, 1, 2), "map<i8,i8>": i8s(api.Map, 1, 2),
}

// show is a text of a value, cut if it is long.
func show(v api.Value) string {
	var b strings.Builder
	tell(&b, v)
	if s := b.String(); len(s) <= 300 {
		return s
	}
	return b.String()[:300] + ".."
}

func tell(b *strings.Builder, v api.Value) {
	if b.Len() > 300 {
		return
	}
	fmt.Fprintf(b, "%d(", v.Kind)
	if v.N != 0 {
		fmt.Fprintf(b, "%d ", v.N)
	}
	if v.S != "" {
		fmt.Fprintf(b, "%.50q ", v.S)
	}
	for _, part := range v.L {
		tell(b, part)
	}
	if len(v.IDs) > 0 {
		fmt.Fprintf(b, "%v", v.IDs[:min(len(v.IDs), 20)])
	}
	b.WriteString(")")
}

// wantCheck checks Check in the schema of the tests, and Fields if the type is a struct's.
func wantCheck(t *testing.T, typ string, v api.Value, want bool) {
	t.Helper()
	s := schema()
	if value.Check(s, typ, v) != want {
		t.Errorf("Check of %s as %.100q: %t", show(v), typ, !want)
	}
	x, ok := value.Struct(s, typ)
	if ok && value.Fields(s, x, v) != want {
		t.Errorf("Fields of %s as %.100q: %t", show(v), typ, !want)
	}
}

// wantAll checks that all of some values are of a type, or none.
func wantAll(t *testing.T, typ string, want bool, l ...api.Value) {
	t.Helper()
	for _, v := range l {
		wantCheck(t, typ, v, want)
	}
}

func TestEachKindAndEachOtherType(t *testing.T) {
	values := map[string]api.Value{"a.E": num(api.Enum, 7), "a.Empty": rec(nil), "a.U": rec([]int{2}, word("x"))}
	for typ, v := range simple {
		values[typ] = v
	}
	for typ, v := range values {
		wantCheck(t, typ, v, true)
		for k := -20; k <= 80; k++ {
			v := v
			same := v.Kind == k
			v.Kind = k
			wantCheck(t, typ, v, same)
		}
		for _, k := range []int{math.MinInt, math.MaxInt, 1<<32 + v.Kind, 256 + v.Kind, v.Kind - 256, -v.Kind, 1<<63 - 1 - v.Kind} {
			v := v
			v.Kind = k
			wantCheck(t, typ, v, false)
		}
		for other, v := range values {
			wantCheck(t, typ, v, other == typ)
		}
	}
}

func TestBools(t *testing.T) {
	wantAll(t, "bool", true, num(api.Bool, 0), num(api.Bool, 1))
	wantAll(t, "bool", false, num(api.Bool, -1), num(api.Bool, 2), num(api.Bool, 3), num(api.Bool, 256), num(api.Bool, 257), num(api.Bool, 1<<32), num(api.Bool, 1<<32+1), num(api.Bool, math.MinInt64), num(api.Bool, math.MinInt64+1), num(api.Bool, math.MaxInt64))
}

func TestIntegers(t *testing.T) {
	for _, x := range []struct {
		typ          string
		kind         int
		least, great int64
	}{
		{"i8", api.I8, -128, 127}, {"i16", api.I16, -32768, 32767}, {"i32", api.I32, -2147483648, 2147483647},
	} {
		for _, n := range []int64{x.least, x.least + 1, -2, -1, 0, 1, 2, x.great - 1, x.great} {
			wantCheck(t, x.typ, num(x.kind, n), true)
		}
		width := x.great - x.least + 1
		for _, n := range []int64{x.least - 1, x.least - 2, x.great + 1, x.great + 2, width, -width, width - 1, 1 - width, width + 1, 2 * width, 1 << 40, -1 << 40, math.MinInt64, math.MinInt64 + 1, math.MaxInt64, math.MaxInt64 - 1} {
			wantCheck(t, x.typ, num(x.kind, n), false)
		}
	}
	for _, n := range []int64{math.MinInt64, math.MinInt64 + 1, -1, 0, 1, 1 << 31, -1<<31 - 1, math.MaxInt64} {
		wantCheck(t, "i64", num(api.I64, n), true)
	}
}

func TestDoubles(t *testing.T) {
	for _, f := range []float64{0, math.Copysign(0, -1), 1, -1.5, math.Inf(1), math.Inf(-1), math.NaN(), math.MaxFloat64, math.SmallestNonzeroFloat64} {
		wantCheck(t, "double", num(api.Double, int64(math.Float64bits(f))), true)
	}
	wantAll(t, "double", true, num(api.Double, math.MinInt64), num(api.Double, math.MaxInt64), num(api.Double, -1), num(api.Double, 2))
}

func TestStringsAndBinaries(t *testing.T) {
	for _, s := range []string{"", "a", "\x00", "ä", "\uffff", "\U0010ffff", "a\uFFFDb"} {
		wantAll(t, "string", true, word(s))
		wantAll(t, "binary", true, text(api.Binary, s))
		wantAll(t, "string", false, text(api.Binary, s))
		wantAll(t, "binary", false, word(s))
	}
	for _, s := range []string{"\x80", "a\xff", "\xed\xa0\x80", "\xc0\x80", "\xf4\x90\x80\x80", "\xe2\x82"} {
		wantAll(t, "string", false, word(s))
		wantAll(t, "binary", true, text(api.Binary, s))
	}
	wantAll(t, "list<string>", false, list(word("a"), word("\xff")))
	wantAll(t, "map<binary,string>", true, pairs(text(api.Binary, "\xff"), word("a")))
	wantAll(t, "map<string,binary>", false, pairs(word("\xff"), text(api.Binary, "a")))
}

func TestEnums(t *testing.T) {
	for n := int64(-10); n < 20; n++ {
		wantCheck(t, "a.E", num(api.Enum, n), n == -3 || n == 0 || n == 7)
		wantCheck(t, "a.None", num(api.Enum, n), false)
	}
	wantAll(t, "b.Wide", true, num(api.Enum, math.MinInt32), num(api.Enum, math.MaxInt32))
	wantAll(t, "b.Wide", false, num(api.Enum, math.MinInt32-1), num(api.Enum, math.MaxInt32+1), num(api.Enum, 0), num(api.Enum, math.MinInt64), num(api.Enum, math.MaxInt64))
	wantAll(t, "a.E", false, num(api.Enum, 1<<32), num(api.Enum, 1<<32+7), num(api.I32, 7), num(api.Struct, 7))
	// Made by hand, with numbers that no enum has, and members that are not said to have one.
	far := api.Schema{Enums: []api.SEnum{{Name: "E", Members: []api.Member{{Name: "A", N: math.MinInt64}, {Name: "B", N: 5}, member("C", 1<<40)}}}}
	for n, want := range map[int64]bool{math.MinInt64: true, 5: true, 1 << 40: true, 0: false, 1: false, 1<<40 + 5: false, math.MaxInt64: false} {
		if value.Check(far, "E", num(api.Enum, n)) != want {
			t.Errorf("Check of the enum's number %d: %t", n, !want)
		}
	}
	wantAll(t, "E", false, num(api.Enum, 7))
	wantAll(t, "A", false, num(api.Enum, 7))
	wantAll(t, "a.E.C", false, num(api.Enum, 7))
}

// TestNamesOfBoth has a struct and an enum of one name: it is the struct's.
func TestNamesOfBoth(t *testing.T) {
	wantAll(t, "a.Both", true, rec(nil), rec([]int{1}, rec(nil)), rec([]int{1}, rec([]int{1}, rec(nil))))
	wantAll(t, "a.Both", false, num(api.Enum, 1), rec([]int{1}, num(api.Enum, 1)))
}

func TestLists(t *testing.T) {
	wantAll(t, "list<i8>", true, list(), i8s(api.List, 1), i8s(api.List, 2, 1), i8s(api.List, 1, 1), i8s(api.List, -128, 127, 0))
	wantAll(t, "list<i8>", false, i8s(api.List, 128), i8s(api.List, 1, 2, 128), i8s(api.List, 128, 1, 2), i8s(api.List, 1, -129, 2), i8s(api.Set, 1), i8s(api.Map, 1, 2))
	wantAll(t, "list<i8>", false, list(num(api.I16, 1)), list(i8(1), num(api.Bool, 1)), list(list()), list(i8(1), api.Value{}))
	wantAll(t, "list<list<i8>>", true, list(), list(list()), list(i8s(api.List, 2, 1), list(), i8s(api.List, 2, 1)))
	wantAll(t, "list<list<i8>>", false, list(i8(1)), list(list(list())), list(list(), i8s(api.List, 128)), list(set()))
	wantAll(t, "list<set<i8>>", true, list(i8s(api.Set, 1, 2), i8s(api.Set, 1)))
	wantAll(t, "list<set<i8>>", false, list(i8s(api.Set, 1), i8s(api.Set, 2, 1)))
	wantAll(t, "list<a.U>", false, list(rec([]int{2}, word("a")), rec(nil)))
}

func TestSets(t *testing.T) {
	wantAll(t, "set<i8>", true, set(), i8s(api.Set, 1), i8s(api.Set, 1, 2), i8s(api.Set, -128, -1, 0, 1, 127))
	wantAll(t, "set<i8>", false, i8s(api.Set, 2, 1), i8s(api.Set, 1, 1), i8s(api.Set, 1, 2, 2), i8s(api.Set, 1, 1, 2), i8s(api.Set, 1, 3, 2), i8s(api.Set, 0, -1), i8s(api.Set, 1, 2, 1))
	wantAll(t, "set<i8>", false, i8s(api.Set, 128), i8s(api.Set, 1, 128), i8s(api.Set, -129, 1), i8s(api.List, 1), set(num(api.I16, 1)), set(i8(1), num(api.I16, 2)))
	wantAll(t, "set<string>", true, set(word(""), word("a"), word("aa"), word("b")))
	wantAll(t, "set<string>", false, set(word("a"), word("")), set(word("b"), word("aa")), set(word("a"), word("a")))
	// A double's order is that of its bits: -1.0 is behind 1.0.
	one, minus := num(api.Double, 0x3ff<<52), num(api.Double, -0x401<<52)
	wantAll(t, "set<double>", true, set(one, minus))
	wantAll(t, "set<double>", false, set(minus, one))
	wantAll(t, "set<set<i8>>", true, set(set(), i8s(api.Set, 1), i8s(api.Set, 1, 2), i8s(api.Set, 2)))
	wantAll(t, "set<set<i8>>", false, set(i8s(api.Set, 1), set()), set(i8s(api.Set, 2, 1)), set(set(), set()), set(i8s(api.Set, 1, 2), i8s(api.Set, 2, 1)))
	wantAll(t, "set<list<i8>>", true, set(list(), i8s(api.List, 1), i8s(api.List, 2, 1)))
	wantAll(t, "set<a.Must>", false, set(rec([]int{1, 4}, i8(2), word("")), rec([]int{1, 4}, i8(1), word(""))))
	wantAll(t, "set<a.Must>", true, set(rec([]int{1, 2, 4}, i8(1), i8(0), word("")), rec([]int{1, 4}, i8(1), word(""))))
	wantAll(t, "set<a.Must>", false, set(rec([]int{1, 4}, i8(1), word("")), rec([]int{1, 2, 4}, i8(1), i8(0), word(""))))
}

func TestMaps(t *testing.T) {
	wantAll(t, "map<i8,i8>", true, pairs(), i8s(api.Map, 1, 2), i8s(api.Map, 1, 9, 2, 8), i8s(api.Map, 1, 1, 2, 1), i8s(api.Map, -128, 127, 127, -128))
	wantAll(t, "map<i8,i8>", false, i8s(api.Map, 1), i8s(api.Map, 1, 2, 3), i8s(api.Map, 1, 2, 3, 4, 5))
	wantAll(t, "map<i8,i8>", false, i8s(api.Map, 2, 1, 1, 2), i8s(api.Map, 1, 2, 1, 2), i8s(api.Map, 1, 2, 1, 3), i8s(api.Map, 1, 0, 3, 0, 2, 0), i8s(api.Map, 1, 0, 2, 0, 2, 0))
	wantAll(t, "map<i8,i8>", false, i8s(api.Map, 128, 1), i8s(api.Map, 1, 128), i8s(api.Map, 1, 1, 2, 128), i8s(api.Map, 1, 1, 128, 2), i8s(api.List, 1, 2), i8s(api.Set, 1, 2))
	wantAll(t, "map<i8,string>", true, pairs(i8(1), word("a")), pairs(i8(1), word("b"), i8(2), word("a")))
	wantAll(t, "map<i8,string>", false, pairs(word("a"), i8(1)), pairs(i8(1), i8(2)), pairs(word("a"), word("b")), pairs(i8(1)), pairs(i8(1), word("a"), i8(2)), pairs(i8(1), word("a"), word("b"), i8(2)))
	wantAll(t, "map<list<i8>,map<i8,bool>>", true, pairs(list(), pairs(), i8s(api.List, 3, 1), pairs(i8(1), num(api.Bool, 1))))
	wantAll(t, "map<list<i8>,map<i8,bool>>", false, pairs(list(), pairs(i8(1), num(api.Bool, 2))), pairs(list(), pairs(i8(1))), pairs(i8s(api.List, 1), pairs(), list(), pairs()))
	wantAll(t, "map<i8,set<i8>>", false, pairs(i8(1), i8s(api.Set, 2, 1)))
	wantAll(t, "map<set<i8>,i8>", false, pairs(i8s(api.Set, 2, 1), i8(1)))
}

func TestStructs(t *testing.T) {
	wantAll(t, "a.All", true, rec(nil), rec([]int{-1}, i8(1)), rec([]int{-2, -1, 0}, num(api.Bool, 1), i8(-128), num(api.I16, -32768)),
		rec([]int{1, 2, 3, 4, 5}, num(api.I32, 1<<31-1), num(api.I64, math.MinInt64), num(api.Double, -1), word("a"), text(api.Binary, "\xff")),
		rec([]int{6, 7, 8, 9, 10, 11}, num(api.Enum, -3), i8s(api.List, 2, 1), set(word("a"), word("b")), pairs(i8(1), rec([]int{-1}, i8(1))), rec([]int{2}, word("")), rec(nil)))
	// More numbers than values, and fewer.
	wantAll(t, "a.All", false, rec([]int{-1}), rec([]int{-1, 0}, i8(1)), rec(nil, i8(1)), rec([]int{-1}, i8(1), num(api.I16, 1)), rec([]int{-1}, i8(1), api.Value{}))
	// Out of order, and twice.
	wantAll(t, "a.All", false, rec([]int{0, -1}, num(api.I16, 1), i8(1)), rec([]int{-1, -1}, i8(1), i8(1)), rec([]int{-1, 0, 0}, i8(1), num(api.I16, 1), num(api.I16, 1)), rec([]int{-1, 1, 0}, i8(1), num(api.I32, 1), num(api.I16, 1)), rec([]int{-1, 0, -1}, i8(1), num(api.I16, 1), i8(1)))
	// Of no field: ahead of all, behind all, and far from all.
	wantAll(t, "a.All", false, rec([]int{-3}, i8(1)), rec([]int{14}, i8(1)), rec([]int{-1, 99}, i8(1), i8(1)), rec([]int{1<<32 - 1}, i8(1)), rec([]int{math.MinInt}, i8(1)), rec([]int{math.MaxInt}, i8(1)), rec([]int{-3, -1}, api.Value{}, i8(1)))
	// Of another type.
	wantAll(t, "a.All", false, rec([]int{-1}, num(api.I16, 1)), rec([]int{-1}, i8(128)), rec([]int{-2, -1}, i8(1), num(api.Bool, 1)), rec([]int{-2, -1}, num(api.Bool, 2), i8(1)), rec([]int{6}, num(api.Enum, 1)), rec([]int{7}, i8s(api.List, 128)), rec([]int{8}, set(word("b"), word("a"))), rec([]int{10}, rec(nil)), rec([]int{11}, rec([]int{1}, i8(1))))
	// Of types that are none.
	wantAll(t, "a.All", false, rec([]int{12}, rec(nil)), rec([]int{12}, num(api.Enum, 0)), rec([]int{12}, api.Value{}), rec([]int{13}, list()), rec([]int{13}, api.Value{}))
}

// TestFieldsBetween has fields with numbers that are not next to each other.
func TestFieldsBetween(t *testing.T) {
	x := api.SStruct{Kind: api.DefStruct, Fields: []api.SField{field(-10, 0, "i8", "a"), field(0, 0, "i8", "b"), field(10, 0, "i8", "c"), field(32767, 0, "i8", "d")}}
	for _, id := range []int{-11, -10, -9, -1, 0, 1, 9, 10, 11, 32766, 32767, 32768, 65536, 1 << 32, -1 << 32, math.MinInt} {
		want := id == -10 || id == 0 || id == 10 || id == 32767
		if value.Fields(schema(), x, rec([]int{id}, i8(1))) != want {
			t.Errorf("Fields of a value with the field %d: %t", id, !want)
		}
	}
}

// TestFieldsOfOneNumber has two fields with one number, as no schema has: the first one
// counts.
func TestFieldsOfOneNumber(t *testing.T) {
	x := api.SStruct{Kind: api.DefStruct, Fields: []api.SField{field(1, 0, "i8", "a"), field(1, 0, "i16", "b"), field(2, 0, "i8", "c")}}
	for _, f := range []struct {
		v    api.Value
		want bool
	}{{rec([]int{1}, i8(1)), true}, {rec([]int{1}, num(api.I16, 1)), false}, {rec([]int{1, 2}, i8(1), i8(1)), true}, {rec([]int{1, 3}, i8(1), i8(1)), false}} {
		if value.Fields(schema(), x, f.v) != f.want {
			t.Errorf("Fields of %s: %t", show(f.v), !f.want)
		}
	}
}

func TestRequiredFields(t *testing.T) {
	one, two, three, four := i8(1), i8(2), i8(3), word("four")
	wantAll(t, "a.Must", true, rec([]int{1, 4}, one, four), rec([]int{1, 2, 4}, one, two, four), rec([]int{1, 3, 4}, one, three, four), rec([]int{1, 2, 3, 4}, one, two, three, four))
	wantAll(t, "a.Must", false, rec(nil), rec([]int{1}, one), rec([]int{4}, four), rec([]int{2, 3}, two, three), rec([]int{1, 2, 3}, one, two, three), rec([]int{2, 3, 4}, two, three, four))
	wantAll(t, "a.Must", false, rec([]int{4, 1}, four, one), rec([]int{1, 4}, one, two), rec([]int{1, 4}, four, one), rec([]int{1, 4, 5}, one, four, one))
	wantAll(t, "b.X", true, rec([]int{2}, num(api.Enum, 0)), rec([]int{1, 2}, word("a"), num(api.Enum, -3)))
	wantAll(t, "b.X", false, rec(nil), rec([]int{1}, word("a")), rec([]int{2}, num(api.Enum, 1)))
	// Any other number in Req asks for nothing.
	for _, req := range []int{0, 2, 3, -1, 257, math.MinInt, 1<<32 + 1} {
		x := api.SStruct{Kind: api.DefStruct, Fields: []api.SField{field(1, req, "i8", "a")}}
		if !value.Fields(schema(), x, rec(nil)) {
			t.Errorf("a field of Req %d must be there", req)
		}
	}
}

func TestUnions(t *testing.T) {
	wantAll(t, "a.U", true, rec([]int{-1}, i8(1)), rec([]int{2}, word("a")), rec([]int{3}, rec([]int{3}, rec([]int{-1}, i8(1)))))
	wantAll(t, "a.U", false, rec(nil), rec([]int{-1, 2}, i8(1), word("a")), rec([]int{-1, 2, 3}, i8(1), word("a"), rec([]int{-1}, i8(1))), rec([]int{3}, rec(nil)), rec([]int{1}, i8(1)), rec([]int{2}, i8(1)), rec([]int{2}))
	wantAll(t, "c.Never", false, rec(nil), rec([]int{1}, i8(1)), rec([]int{1}))
	// One made by hand with a required field: that one must be there, and it alone.
	u := api.SStruct{Kind: api.DefUnion, Fields: []api.SField{field(1, api.ReqRequired, "i8", "a"), field(2, 0, "i8", "b")}}
	for v, want := range map[int]bool{1: true, 2: false} {
		if value.Fields(schema(), u, rec([]int{v}, i8(1))) != want {
			t.Errorf("Fields of a union with a required field, by field %d: %t", v, !want)
		}
	}
}

func TestMaybes(t *testing.T) {
	x := api.SStruct{Kind: api.DefMaybe, Fields: []api.SField{field(0, 0, "i8", "a"), field(1, 0, "string", "b")}}
	for _, c := range []struct {
		v    api.Value
		want bool
	}{
		{rec(nil), true}, {rec([]int{0}, i8(1)), true}, {rec([]int{1}, word("a")), true},
		{rec([]int{0, 1}, i8(1), word("a")), false}, {rec([]int{2}, i8(1)), false}, {rec([]int{0}, word("a")), false}, {rec([]int{0}), false}, {rec(nil, i8(1)), false}, {list(), false}, {api.Value{}, false},
	} {
		if value.Fields(schema(), x, c.v) != c.want {
			t.Errorf("Fields of %s as a DefMaybe: %t", show(c.v), !c.want)
		}
		// In a schema, by its name.
		s := schema()
		x.Name = "a.Maybe"
		s.Structs = slices.Insert(s.Structs, 3, x)
		if value.Check(s, "a.Maybe", c.v) != c.want || value.Check(s, "list<a.Maybe>", list(c.v)) != c.want {
			t.Errorf("Check of %s as a DefMaybe: %t", show(c.v), !c.want)
		}
	}
	// None of a struct, an exception or any other number asks for fewer.
	x.Fields[1].Type = "i8"
	for _, k := range []int{api.DefStruct, api.DefException, 0, 1, 7, 9, -5, 256 + api.DefUnion, math.MaxInt} {
		x.Kind = k
		if !value.Fields(schema(), x, rec(nil)) || !value.Fields(schema(), x, rec([]int{0, 1}, i8(1), i8(1))) {
			t.Errorf("Fields of a struct of Kind %d", k)
		}
	}
}

// TestFieldsOfAnotherStruct has a struct that is not in the schema, and one whose name
// another one there has: only what is handed in counts, and the schema has its types.
func TestFieldsOfAnotherStruct(t *testing.T) {
	for _, name := range []string{"", "a.All", "z.Z", "i8"} {
		x := api.SStruct{Kind: api.DefStruct, Name: name, Fields: []api.SField{field(1, 1, "a.All", "a"), field(2, 0, "a.E", "b")}}
		for _, c := range []struct {
			v    api.Value
			want bool
		}{
			{rec([]int{1}, rec(nil)), true}, {rec([]int{1, 2}, rec([]int{-1}, i8(1)), num(api.Enum, 7)), true},
			{rec(nil), false}, {rec([]int{-1}, i8(1)), false}, {rec([]int{1}, rec([]int{1}, rec(nil))), false}, {rec([]int{1, 2}, rec(nil), num(api.Enum, 1)), false},
		} {
			if value.Fields(schema(), x, c.v) != c.want {
				t.Errorf("Fields of %s: %t", show(c.v), !c.want)
			}
			if value.Fields(api.Schema{}, x, c.v) {
				t.Errorf("Fields of %s without a schema: true", show(c.v))
			}
		}
	}
	for k := -3; k < 20; k++ {
		v := rec(nil)
		v.Kind = k
		if value.Fields(api.Schema{}, api.SStruct{}, v) != (k == api.Struct) {
			t.Errorf("Fields of a value of Kind %d", k)
		}
	}
}

func TestStructsWithinAll(t *testing.T) {
	good, bad := rec([]int{5}, num(api.I64, 1)), rec([]int{5}, i8(1))
	two := rec([]int{5}, num(api.I64, 2))
	wantCheck(t, "c.Deep", good, true)
	wantCheck(t, "c.Deep", bad, false)
	for range 6 {
		around := func(a, b api.Value) []api.Value {
			return []api.Value{rec([]int{1}, list(a)), rec([]int{1}, list(a, a)), rec([]int{1}, list(b, a)), rec([]int{2}, set(a, b)), rec([]int{3}, pairs(a, a)), rec([]int{3}, pairs(a, b, b, a)), rec([]int{4}, a), rec([]int{1, 2, 3, 4, 5}, list(a), set(a), pairs(a, a), a, num(api.I64, 0))}
		}
		wantAll(t, "c.Deep", true, around(good, two)...)
		wantAll(t, "c.Deep", false, around(bad, two)...)
		wantAll(t, "c.Deep", false, rec([]int{1}, list(good, bad)), rec([]int{2}, set(good, bad)), rec([]int{2}, set(two, good)), rec([]int{2}, set(good, good)), rec([]int{3}, pairs(good, bad)), rec([]int{3}, pairs(bad, good)), rec([]int{3}, pairs(two, good, good, good)), rec([]int{3}, pairs(good, good, good, two)), rec([]int{4}, bad))
		good, two, bad = rec([]int{1, 5}, list(good, two), num(api.I64, 1)), rec([]int{2, 5}, set(good), num(api.I64, 1)), rec([]int{3, 5}, pairs(good, two, bad, two), num(api.I64, 1))
		wantCheck(t, "set<c.Deep>", set(good, two), true)
		wantCheck(t, "set<c.Deep>", set(two, good), false)
	}
	wantCheck(t, "list<map<a.E,list<set<a.U>>>>", list(pairs(), pairs(num(api.Enum, -3), list(), num(api.Enum, 7), list(set(), set(rec([]int{-1}, i8(1)), rec([]int{2}, word("")))))), true)
	wantCheck(t, "list<map<a.E,list<set<a.U>>>>", list(pairs(), pairs(num(api.Enum, -3), list(), num(api.Enum, 7), list(set(), set(rec([]int{2}, word("")), rec([]int{-1}, i8(1)))))), false)
}

// TestTypesThatAreNone holds values against texts that are no types, and against lists
// of types that are none: an empty list has no element that is not of its type.
func TestTypesThatAreNone(t *testing.T) {
	values := []api.Value{{}, i8(1), num(api.Enum, 1), rec(nil), list(), set(), pairs(), list(i8(1)), word(""), num(1, 1), num(-1, 0)}
	for _, typ := range []string{"", " ", "i8 ", "I8", "int", "list", "list<", "list<>", "list<i8", "list<i8>>", "list< i8>", "set<i8,i8>", "map<i8>", "map<i8,i8,i8>", "i8.a", "a.", ".a", "a..b", "a.Z", "z", "b.E", "All", "a.al", "a.All.h", "list<list<>>", "void", "a.All ", "\x00", "a.All\x00", strings.Repeat("list<", 13) + "i8" + strings.Repeat(">", 13)} {
		for _, v := range values {
			wantCheck(t, typ, v, false)
		}
	}
	wantAll(t, "list<a.Z>", true, list())
	wantAll(t, "set<a.Z>", true, set())
	wantAll(t, "map<a.Z,i8>", true, pairs())
	wantAll(t, "map<i8,a.Z>", true, pairs())
	for _, v := range values {
		wantAll(t, "list<a.Z>", false, list(v))
		wantAll(t, "set<a.Z>", false, set(v))
		wantAll(t, "map<a.Z,i8>", false, pairs(v), pairs(v, i8(1)))
		wantAll(t, "map<i8,a.Z>", false, pairs(i8(1)), pairs(i8(1), v))
	}
	deep := strings.Repeat("list<", 12) + "i8" + strings.Repeat(">", 12)
	v := i8(1)
	for range 12 {
		v = list(v, v)
	}
	wantCheck(t, deep, v, true)
}

// TestOtherPartsAreNotMinded has something in each part that a kind gives no meaning.
func TestOtherPartsAreNotMinded(t *testing.T) {
	for typ, v := range simple {
		v.IDs = []int{5, 5}
		if v.Kind != api.String && v.Kind != api.Binary {
			v.S = "\xff"
		}
		if len(v.L) == 0 {
			v.L = []api.Value{{}, rec([]int{1})}
		}
		if v.Kind >= api.String {
			v.N = math.MinInt64
		}
		wantCheck(t, typ, v, true)
	}
	v := num(api.Enum, 7)
	v.S, v.L, v.IDs = "\xff", []api.Value{{}}, []int{2, 1}
	wantCheck(t, "a.E", v, true)
	v = rec([]int{2}, word(""))
	v.S, v.N = "\xff", 99
	wantCheck(t, "a.U", v, true)
}
