package value_test

import (
	"fmt"
	"math"
	"math/big"
	"math/rand/v2"
	"slices"
	"sort"
	"strings"
	"testing"

	"assayer/api"
	"assayer/order"
	"assayer/value"
)

// This file tells the chapter's words in another way, and holds Check, Fields and Kind
// against them: types are cut by their signs, normal form is asked of the whole of each
// list, set and map, and of each struct it is told which of its fields are there.

// bits is how many bits the numbers of a type have.
var bits = map[string]uint{"i8": 8, "i16": 16, "i32": 32, "i64": 64}

// toldOf is what Check is to answer of a type whose text is one.
func toldOf(s api.Schema, typ string, v api.Value) bool {
	if toldKind(s, typ) != v.Kind || v.Kind == 0 {
		return false
	}
	switch typ {
	case "bool":
		return -1 < v.N && v.N < 2
	case "i8", "i16", "i32", "i64":
		half := new(big.Int).Lsh(big.NewInt(1), bits[typ]-1)
		n := big.NewInt(v.N)
		return n.Cmp(half) < 0 && n.Cmp(new(big.Int).Neg(half)) >= 0
	case "double", "binary":
		return true
	case "string":
		return string([]rune(v.S)) == v.S // runes that are none would be others now
	}
	if word, inner, ok := strings.Cut(typ, "<"); ok {
		return order.Is(v) && (word != "map" || len(v.L)%2 == 0) && toldElements(s, word, inner[:len(inner)-1], v)
	}
	for _, x := range s.Structs {
		if x.Name == typ {
			return toldFields(s, x, v)
		}
	}
	numbers := map[int64]bool{}
	for _, x := range s.Enums {
		for _, m := range x.Members {
			numbers[m.N] = numbers[m.N] || x.Name == typ
		}
	}
	return numbers[v.N]
}

// toldKind is what Kind is to answer of a type whose text is one.
func toldKind(s api.Schema, typ string) int {
	word, _, _ := strings.Cut(typ, "<")
	for other, v := range simple {
		if other, _, _ := strings.Cut(other, "<"); other == word {
			return v.Kind
		}
	}
	for _, x := range s.Structs {
		if x.Name == typ {
			return api.Struct
		}
	}
	for _, x := range s.Enums {
		if x.Name == typ {
			return api.Enum
		}
	}
	return 0
}

func toldElements(s api.Schema, word, inner string, v api.Value) bool {
	types := []string{inner, inner}
	if word == "map" {
		open, i := 0, 0
		for ; open > 0 || inner[i] != ','; i++ {
			open += strings.Count(inner[i:i+1], "<") - strings.Count(inner[i:i+1], ">")
		}
		types = []string{inner[:i], inner[i+1:]}
	}
	all := true
	for i, w := range v.L {
		all = toldOf(s, types[i%2], w) && all
	}
	return all
}

// toldFields is what Fields is to answer.
func toldFields(s api.Schema, x api.SStruct, v api.Value) bool {
	if v.Kind != api.Struct || len(v.IDs) != len(v.L) {
		return false
	}
	there := map[int]api.Value{}
	for i, id := range v.IDs {
		there[id] = v.L[i]
	}
	if len(there) != len(v.IDs) || !sort.IntsAreSorted(v.IDs) {
		return false
	}
	for _, f := range x.Fields {
		w, ok := there[f.ID]
		if !ok && f.Req == api.ReqRequired || ok && !toldOf(s, f.Type, w) {
			return false
		}
		delete(there, f.ID)
	}
	most, least := math.MaxInt, 0
	if x.Kind == api.DefUnion {
		least = 1
	}
	if x.Kind == api.DefUnion || x.Kind == api.DefMaybe {
		most = 1
	}
	return len(there) == 0 && least <= len(v.L) && len(v.L) <= most
}

// wantTold checks Check, and Fields if the type is a struct's; it returns whether v is of the type.
func wantTold(t *testing.T, s api.Schema, typ string, v api.Value) bool {
	t.Helper()
	want := toldOf(s, typ, v)
	if value.Check(s, typ, v) != want {
		t.Fatalf("Check of %s as %s: %t", show(v), typ, !want)
	}
	if k := value.Kind(s, typ); k != toldKind(s, typ) || want && k != v.Kind {
		t.Fatalf("Kind of %s: %d", typ, k)
	}
	if x, ok := value.Struct(s, typ); ok && value.Fields(s, x, v) != want {
		t.Fatalf("Fields of %s as %s: %t", show(v), typ, !want)
	}
	if want && !order.Is(v) {
		t.Fatalf("%s is of type %s, and not in normal form", show(v), typ)
	}
	return want
}

// listsOf is all lists of up to n of some things.
func listsOf[T any](n int, of []T) [][]T {
	l := [][]T{nil}
	for from := 0; n > 0; n-- {
		to := len(l)
		for _, x := range l[from:to] {
			for _, y := range of {
				l = append(l, append(slices.Clone(x), y))
			}
		}
		from = to
	}
	return l
}

// TestAllSmallValues has all values of a few parts, as all types of a small schema.
func TestAllSmallValues(t *testing.T) {
	t.Parallel()
	s := api.Schema{
		Enums: []api.SEnum{{Name: "E", Members: []api.Member{member("A", 1), member("B", 2)}}},
		Structs: []api.SStruct{
			{Kind: api.DefMaybe, Name: "M", Fields: []api.SField{field(1, 0, "i8", "a"), field(2, 0, "bool", "b")}},
			{Kind: api.DefStruct, Name: "R", Fields: []api.SField{field(1, 1, "i8", "a"), field(2, 0, "i8", "b")}},
			{Kind: api.DefStruct, Name: "S", Fields: []api.SField{field(1, 0, "i8", "a"), field(2, 2, "bool", "b"), field(3, 0, "set<i8>", "c")}},
			{Kind: api.DefUnion, Name: "U", Fields: []api.SField{field(1, 0, "i8", "a"), field(2, 0, "U", "b")}},
		},
	}
	leaves := []api.Value{i8(0), i8(1), i8(128), num(api.Bool, 0), num(api.Bool, 2), num(api.Enum, 1), num(api.Enum, 0), word("a"), word("\xff")}
	few := []api.Value{i8(0), i8(1), num(api.Bool, 1), num(api.Enum, 2)}
	values := slices.Clone(leaves)
	for _, l := range listsOf(4, few) {
		values = append(values, list(l...), set(l...), pairs(l...))
	}
	for _, ids := range listsOf(3, []int{1, 2, 3}) {
		for _, l := range listsOf(3, few) {
			if len(l) <= 2 || len(ids) >= 2 {
				values = append(values, rec(ids, l...))
			}
		}
	}
	inner := []api.Value{i8(0), i8(1), i8s(api.Set, 0), i8s(api.Set, 1, 0), i8s(api.Set, 0, 1), rec(nil), rec([]int{1}, i8(0)), rec([]int{2}, i8(0)), rec([]int{2}, num(api.Bool, 1)), rec([]int{1, 2}, i8(1), num(api.Bool, 0))}
	for _, l := range listsOf(3, inner) {
		values = append(values, list(l...), set(l...), pairs(l...))
		if len(l) <= 2 {
			for _, ids := range listsOf(2, []int{1, 2, 3}) {
				values = append(values, rec(ids, l...))
			}
		}
	}
	types := []string{"bool", "i8", "string", "E", "M", "R", "S", "U", "Z", "list<i8>", "set<i8>", "map<i8,i8>", "list<E>", "set<E>", "map<i8,bool>", "map<i8,E>", "list<Z>", "list<set<i8>>", "set<set<i8>>", "list<S>", "set<S>", "set<R>", "set<M>", "map<i8,S>", "map<S,i8>", "map<S,S>", "map<i8,set<i8>>", "list<U>"}
	counts := map[string]int{}
	for _, typ := range types {
		for _, v := range values {
			if wantTold(t, s, typ, v) {
				counts[typ]++
			}
		}
		if counts[typ] < 2 && !slices.Contains([]string{"Z", "list<Z>", "bool", "string", "E"}, typ) {
			t.Errorf("%d values are of the type %s", counts[typ], typ)
		}
	}
}

// maker makes types, schemas and values.
type maker struct{ *rand.Rand }

func pick[T any](m maker, l []T) T { return l[m.IntN(len(l))] }

var madeNames = []string{"a.A", "a.B", "a.C", "b.D", "b.E", "b.F"}

func (m maker) typ(deep int) string {
	switch n := m.IntN(10); {
	case n < 4 && deep > 0:
		return fmt.Sprintf(pick(m, []string{"list<%s>", "set<%s>"}), m.typ(deep-1))
	case n < 6 && deep > 0:
		return "map<" + m.typ(deep-1) + "," + m.typ(deep-1) + ">"
	case n < 8:
		return pick(m, madeNames)
	}
	return pick(m, []string{"bool", "i8", "i16", "i32", "i64", "double", "string", "binary"})
}

func (m maker) schema() (s api.Schema) {
	for _, name := range madeNames {
		if n := m.IntN(8); n < 2 {
			x := api.SEnum{Name: name}
			for range m.IntN(4) {
				x.Members = append(x.Members, member("m", m.Int64N(7)-3))
			}
			s.Enums = append(s.Enums, x)
		} else if n < 7 {
			s.Structs = append(s.Structs, m.strukt(name))
		}
	}
	return s
}

func (m maker) strukt(name string) api.SStruct {
	x := api.SStruct{Kind: pick(m, []int{api.DefStruct, api.DefStruct, api.DefUnion, api.DefException, api.DefMaybe}), Name: name}
	for id := -2; id < 4; id++ {
		if m.IntN(2) == 0 {
			x.Fields = append(x.Fields, field(id, m.IntN(7)%3, m.typ(2), "f"))
		}
	}
	return x
}

// number is one at an edge or near 0.
func (m maker) number() int64 {
	return pick(m, []int64{0, 1, m.Int64N(9) - 4, 1<<pick(m, []uint{7, 15, 31, 63}) - 1, -1 << pick(m, []uint{7, 15, 31, 63})})
}

// value is one that is nearly of a type: most often it is.
func (m maker) value(s api.Schema, typ string, deep int) api.Value {
	v := api.Value{Kind: toldKind(s, typ)}
	word, inner, _ := strings.Cut(typ, "<")
	switch v.Kind {
	case api.Bool:
		v.N = m.Int64N(2)
	case api.I8, api.I16, api.I32, api.I64, api.Enum, api.Double:
		v.N = m.number()
		for range 20 {
			if toldOf(s, typ, v) {
				break
			}
			v.N = m.number()
		}
	case api.String, api.Binary:
		v.S = pick(m, []string{"", "a", "b", "\u00e4", "ab"})
	case api.Struct:
		v = m.fields(s, typ, deep)
	case api.List, api.Set, api.Map:
		types := m.cut(word, inner)
		n := min(m.IntN(4), deep*3)
		if v.Kind == api.Map {
			n *= 2
		}
		for i := range n {
			v.L = append(v.L, m.value(s, types[i%2], deep-1))
		}
	}
	if w, e := order.Normal(v); e == api.OK {
		v = w
	}
	if m.IntN(60) == 0 {
		v = m.spoilt(v)
	}
	return v
}

// cut is the types within a type: of a map's keys and values, or twice that of elements.
func (m maker) cut(word, inner string) []string {
	inner = inner[:len(inner)-1]
	if word != "map" {
		return []string{inner, inner}
	}
	for i := range inner {
		if inner[i] == ',' && strings.Count(inner[:i], "<") == strings.Count(inner[:i], ">") {
			return []string{inner[:i], inner[i+1:]}
		}
	}
	return nil
}

func (m maker) fields(s api.Schema, typ string, deep int) api.Value {
	v := api.Value{Kind: api.Struct}
	i := slices.IndexFunc(s.Structs, func(x api.SStruct) bool { return x.Name == typ })
	x := s.Structs[i]
	only := m.IntN(len(x.Fields) + 1)
	for i, f := range x.Fields {
		one := x.Kind == api.DefUnion || x.Kind == api.DefMaybe
		if deep > 0 && (one && i == only || !one && (f.Req == api.ReqRequired || m.IntN(2) == 0)) {
			v.IDs = append(v.IDs, f.ID)
			v.L = append(v.L, m.value(s, f.Type, deep-1))
		}
	}
	return v
}

// spoilt is a value with one thing changed.
func (m maker) spoilt(v api.Value) api.Value {
	v = order.Copy(v)
	n := len(v.L)
	switch m.IntN(8) {
	case 0:
		v.Kind = pick(m, []int{0, 2, 3, 4, 6, 8, 10, 11, 12, 13, 14, 15, 16, 17})
	case 1:
		v.N = m.number()
	case 2:
		v.S += "\xff"
	case 3:
		v.IDs = append(v.IDs, m.IntN(8)-3)
	case 4:
		v.L = append(v.L, i8(m.number()))
	case 5:
		if n > 1 {
			i, j := m.IntN(n), m.IntN(n)
			v.L[i], v.L[j] = v.L[j], v.L[i]
		}
	case 6:
		if n > 0 {
			v.L = append(v.L, v.L[m.IntN(n)])
		}
	case 7:
		if n > 0 && len(v.IDs) == n {
			i := m.IntN(n)
			v.L, v.IDs = slices.Delete(v.L, i, i+1), slices.Delete(v.IDs, i, i+1)
		}
	}
	return v
}

func TestMadeValues(t *testing.T) {
	t.Parallel()
	m := maker{rand.New(rand.NewPCG(14, 1))}
	counts := map[bool]int{}
	kinds := map[[2]int]int{}
	for range 600 {
		s := m.schema()
		types := append(slices.Clone(madeNames), m.typ(3), m.typ(4))
		for _, typ := range types {
			for range 4 {
				v := m.value(s, typ, 4)
				is := wantTold(t, s, typ, v)
				counts[is]++
				if is {
					kinds[[2]int{v.Kind, min(len(v.L), 3)}]++
				}
				v = m.spoilt(v)
				counts[wantTold(t, s, typ, v)]++
				wantTold(t, s, pick(m, types), v)
			}
		}
	}
	if counts[true] < 5000 || counts[false] < 5000 {
		t.Errorf("made values that are of a type, and that are not: %v", counts)
	}
	for _, k := range []int{api.List, api.Set, api.Map, api.Struct} {
		for _, n := range []int{0, 2, 3} { // 3 is for more, too
			if kinds[[2]int{k, n}] < 50 {
				t.Errorf("made values of kind %d with %d parts: %d", k, n, kinds[[2]int{k, n}])
			}
		}
	}
}
