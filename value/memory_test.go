package value_test

import (
	"reflect"
	"slices"
	"strings"
	"testing"
	"unsafe"

	"assayer/api"
	"assayer/order"
	"assayer/value"
)

// walk calls look for a thing and for all that is in it, also in the unused ends of
// lists if far.
func walk(v reflect.Value, far bool, look func(reflect.Value)) {
	look(v)
	switch v.Kind() {
	case reflect.Slice:
		if far {
			v = v.Slice(0, v.Cap())
		}
		for i := range v.Len() {
			walk(v.Index(i), far, look)
		}
	case reflect.Struct:
		for i := range v.NumField() {
			walk(v.Field(i), far, look)
		}
	}
}

// copied is a thing with all its lists made anew, with their unused ends if far; lists
// without elements are nil.
func copied(v reflect.Value, far bool) reflect.Value {
	out := reflect.New(v.Type()).Elem()
	switch v.Kind() {
	case reflect.Slice:
		if far {
			v = v.Slice(0, v.Cap())
		}
		for i := range v.Len() {
			out = reflect.Append(out, copied(v.Index(i), far))
		}
	case reflect.Struct:
		for i := range v.NumField() {
			out.Field(i).Set(copied(v.Field(i), far))
		}
	case reflect.String:
		out.SetString(own(v.String()))
	default:
		out.Set(v)
	}
	return out
}

// own is a copy of a text that is no constant's memory.
func own(s string) string { return string([]byte(s)) }

// plain is a copy of a thing, with nil for each list without elements.
func plain[T any](x T) T { return copied(reflect.ValueOf(x), false).Interface().(T) }

// whole is a copy of a thing, with what is in the unused ends of its lists.
func whole[T any](x T) T { return copied(reflect.ValueOf(x), true).Interface().(T) }

// roomy is a copy of a thing, with a list behind each list's end that is not empty.
func roomy[T any](x T) T {
	v := reflect.New(reflect.TypeOf(x)).Elem()
	v.Set(reflect.ValueOf(plain(x)))
	walk(v, false, func(v reflect.Value) {
		if v.Kind() == reflect.Slice {
			n := v.Len()
			l := reflect.MakeSlice(v.Type(), n+2, n+2)
			reflect.Copy(l, v)
			for i := range n {
				l.Index(i).Set(v.Index(i))
			}
			spoil(l.Index(n))
			spoil(l.Index(n + 1))
			v.Set(l.Slice(0, n))
		}
	})
	return v.Interface().(T)
}

// spoil changes all numbers, texts and bools of a thing, in its place.
func spoil(v reflect.Value) {
	walk(v, true, func(v reflect.Value) {
		switch v.Kind() {
		case reflect.String:
			v.SetString(v.String() + "x")
		case reflect.Bool:
			v.SetBool(!v.Bool())
		case reflect.Int, reflect.Int64:
			v.SetInt(v.Int() + 1)
		}
	})
}

// span is memory: of a list's elements, or of a text's bytes.
type span struct{ from, to uintptr }

// spans is the memory of all lists and texts in a thing.
func spans(x any) (l []span) {
	walk(reflect.ValueOf(x), false, func(v reflect.Value) {
		switch {
		case v.Kind() == reflect.Slice && v.Cap() > 0:
			l = append(l, span{v.Pointer(), v.Pointer() + uintptr(v.Cap())*v.Type().Elem().Size()})
		case v.Kind() == reflect.String && v.Len() > 0:
			from := uintptr(unsafe.Pointer(unsafe.StringData(v.String())))
			l = append(l, span{from, from + uintptr(v.Len())})
		}
	})
	return l
}

// wantApart checks that no memory of l is memory of m.
func wantApart(t *testing.T, what string, l, m []span) {
	t.Helper()
	for _, x := range l {
		for _, y := range m {
			if x.from < y.to && y.from < x.to {
				t.Fatalf("%s share memory", what)
			}
		}
	}
}

// rich is the schema of the tests, with defaults.
func rich() api.Schema {
	s := plain(schema())
	for i := range s.Structs {
		for j := range s.Structs[i].Fields {
			f := &s.Structs[i].Fields[j]
			f.HasInit, f.Init = true, rec([]int{1, 2}, list(word(own("a")), word(own("b"))), pairs(i8(1), set(text(api.Binary, own("c")), rec([]int{3}, i8(4)))))
		}
	}
	s.Services = []api.SService{{Name: own("a.S"), Methods: []api.SMethod{{Name: own("m"), Ret: own("void"), Args: s.Structs[0].Fields}}}}
	return s
}

// typesAndValues are types, and values of which each is of some type or of none.
func typesAndValues() (types []string, values []api.Value) {
	types = []string{"list<a.All>", "set<set<i8>>", "map<i8,map<i8,string>>", "a.All", "a.E", "a.Must", "a.U", "a.Z", "", "list<", "c.Deep"}
	values = []api.Value{
		{}, i8(1), num(api.Enum, 7), word(own("\xff")), rec(nil), rec([]int{1, 4}, i8(1), word(own("x"))), rec([]int{4, 1}, word(own("x")), i8(1)), rec([]int{2}, word("u")), rec([]int{1, 2}, i8(1)),
		list(rec([]int{8, 9}, set(word("b"), word("c")), pairs(i8(1), rec(nil)))), list(rec([]int{8}, set(word("c"), word("b")))), set(set(), i8s(api.Set, 1, 2)), set(i8s(api.Set, 2, 1)), pairs(i8(1), pairs(i8(2), word(own("y")))), pairs(i8(1), pairs(i8(2))), pairs(i8(2), pairs(), i8(1), pairs()),
		rec([]int{1, 2, 3}, list(rec(nil)), set(rec(nil), rec([]int{5}, num(api.I64, 1))), pairs(rec(nil), rec(nil))), {Kind: api.List, N: 3, S: own("s"), L: []api.Value{rec(nil)}, IDs: []int{7}},
	}
	return types, values
}

func TestArgumentsAreNotChanged(t *testing.T) {
	types, values := typesAndValues()
	s, l := roomy(rich()), roomy(values)
	schemaBefore, valuesBefore := whole(s), whole(l)
	for _, typ := range types {
		x, ok := value.Struct(rich(), typ)
		x = roomy(x)
		structBefore := whole(x)
		value.Struct(s, typ)
		value.Enum(s, typ)
		if value.Kind(s, typ) != value.Kind(schema(), typ) {
			t.Errorf("Kind of %s: what is behind a list's end counts", typ)
		}
		for i, v := range l {
			want := value.Check(schema(), typ, values[i])
			if value.Check(s, typ, v) != want || ok && value.Fields(s, x, v) != want {
				t.Errorf("Check of %s as %s: what is behind a list's end counts", show(v), typ)
			}
		}
		if !reflect.DeepEqual(whole(x), structBefore) {
			t.Errorf("%s: a struct was changed", typ)
		}
	}
	if !reflect.DeepEqual(whole(s), schemaBefore) || !reflect.DeepEqual(whole(l), valuesBefore) {
		t.Error("an argument was changed")
	}
}

// TestUnusedEndsAreNotMinded has what is asked for behind each list's end.
func TestUnusedEndsAreNotMinded(t *testing.T) {
	s := schema()
	s.Structs, s.Enums = s.Structs[:2], s.Enums[:1]
	wantStruct(t, s, "a.Must", -1)
	wantEnum(t, s, "a.E", -1)
	wantKind(t, s, "a.Must", 0)
	wantKind(t, s, "a.E", 0)
	s = schema()
	s.Enums[1].Members = s.Enums[1].Members[:2]
	if value.Check(s, "a.E", num(api.Enum, 7)) || !value.Check(s, "a.E", num(api.Enum, 0)) {
		t.Error("a member behind a list's end counts")
	}
	x, _ := value.Struct(s, "a.Must")
	x.Fields = x.Fields[:3]
	if !value.Fields(s, x, rec([]int{1}, i8(1))) || value.Fields(s, x, rec([]int{1, 4}, i8(1), word("a"))) {
		t.Error("a field behind a list's end counts")
	}
	v := i8s(api.Set, 1, 2, 2)
	v.L = v.L[:2]
	wantCheck(t, "set<i8>", v, true)
	v = rec([]int{1, 4, 5}, i8(1), word("a"))
	v.IDs = v.IDs[:2]
	wantCheck(t, "a.Must", v, true)
	v = rec([]int{1, 4}, i8(1), word("a"))
	v.IDs = v.IDs[:1]
	wantCheck(t, "a.Must", v, false)
	v.L = v.L[:1]
	wantCheck(t, "a.Must", v, false)
}

func TestAnswersAreNewMemory(t *testing.T) {
	s := rich()
	before := whole(s)
	structs, enums := 0, 0
	for _, name := range []string{"a.All", "a.Both", "a.E", "a.Empty", "a.Must", "a.None", "a.U", "b.Wide", "b.X", "a.Z"} {
		name := own(name)
		x, ok := value.Struct(s, name)
		y, _ := value.Struct(s, name)
		e, is := value.Enum(s, name)
		f, _ := value.Enum(s, name)
		of := [][]span{spans(s), spans(name), spans(x), spans(y), spans(e), spans(f)}
		for i := range of {
			for j := range of[:i] {
				wantApart(t, "arguments and answers of "+name, of[i], of[j])
			}
		}
		for _, l := range of[2:] {
			for i := range l {
				wantApart(t, "parts of an answer of "+name, l[i:i+1], l[i+1:])
			}
		}
		if ok {
			structs++
		}
		if is {
			enums++
		}
		kept := whole(y)
		spoil(reflect.ValueOf(&x).Elem())
		spoil(reflect.ValueOf(&e).Elem())
		again, _ := value.Struct(s, name)
		if !reflect.DeepEqual(whole(y), kept) || !reflect.DeepEqual(plain(again), plain(y)) || !reflect.DeepEqual(whole(s), before) {
			t.Errorf("what is done to an answer of %s changes other things", name)
		}
	}
	if structs != 6 || enums != 4 {
		t.Errorf("%d structs and %d enums", structs, enums)
	}
}

// TestArgumentsAreNotKept changes what was handed in, and asks what is told of it then.
func TestArgumentsAreNotKept(t *testing.T) {
	types, values := typesAndValues()
	for _, typ := range types {
		s := rich()
		x, ok := value.Struct(s, typ)
		e, is := value.Enum(s, typ)
		structBefore, enumBefore := whole(x), whole(e)
		for _, v := range values {
			value.Check(s, typ, v)
			value.Fields(s, x, v)
		}
		spoil(reflect.ValueOf(&s).Elem())
		if !reflect.DeepEqual(whole(x), structBefore) || !reflect.DeepEqual(whole(e), enumBefore) {
			t.Errorf("%s: what is done to the argument changes the answer", typ)
		}
		y, still := value.Struct(rich(), typ)
		f, stays := value.Enum(rich(), typ)
		if ok != still || is != stays || !reflect.DeepEqual(plain(x), plain(y)) || !reflect.DeepEqual(plain(e), plain(f)) {
			t.Errorf("%s: another answer than before", typ)
		}
	}
}

// TestAnswersHangOnTheArgumentsAlone asks of one name in schemas where it stands for
// other things, after one another.
func TestAnswersHangOnTheArgumentsAlone(t *testing.T) {
	schemas := []api.Schema{
		{}, schema(), rich(),
		{Enums: []api.SEnum{{Name: "a.U", Members: []api.Member{member("M", 5)}}}},
		{Structs: []api.SStruct{{Kind: api.DefStruct, Name: "a.E", Fields: []api.SField{field(2, 0, "a.U", "a")}}, {Kind: api.DefUnion, Name: "a.U", Fields: []api.SField{field(2, 0, "i8", "b")}}}},
		{Structs: []api.SStruct{{Kind: api.DefStruct, Name: "a.U"}}, Enums: []api.SEnum{{Name: "a.E", Members: []api.Member{member("M", 5)}}}},
	}
	values := []api.Value{rec(nil), rec([]int{2}, word("a")), rec([]int{2}, i8(1)), list(), num(api.Enum, -3), rec([]int{2}, rec([]int{2}, i8(1))), num(api.Enum, 5), num(api.Enum, 7), list(num(api.Enum, 5)), list(rec(nil))}
	want := map[[3]int]bool{}
	types := []string{"a.E", "a.U", "list<a.E>", "list<a.U>"}
	for round := range 4 {
		for n := range schemas {
			if round%2 == 1 {
				n = len(schemas) - 1 - n
			}
			for i, typ := range types {
				for j, v := range values {
					at := [3]int{n, i, j}
					got := value.Check(schemas[n], typ, v)
					if round > 0 && got != want[at] {
						t.Fatalf("Check of %s as %s has another answer", show(v), typ)
					}
					want[at] = got
				}
			}
		}
	}
	held := 0
	for _, is := range want {
		if is {
			held++
		}
	}
	if held < 15 {
		t.Errorf("%d values are of a type", held)
	}
}

// TestStrangeSchemas has schemas made by hand that no files have: no call panics.
func TestStrangeSchemas(t *testing.T) {
	_, values := typesAndValues()
	for i, s := range []api.Schema{
		{Structs: make([]api.SStruct, 3), Enums: make([]api.SEnum, 3)},
		{Structs: []api.SStruct{{Name: "b"}, {Name: "a"}, {Name: "b"}}, Enums: []api.SEnum{{Name: "a"}, {Name: ""}, {Name: "a"}}},
		{Structs: []api.SStruct{{Kind: -1, Name: "a", Fields: make([]api.SField, 5)}}},
		{Structs: []api.SStruct{{Kind: api.DefUnion, Name: "a", Fields: []api.SField{field(2, 1, "a", ""), field(1, 1, "b", ""), field(2, 0, "list<a>", "")}}}},
		{Enums: []api.SEnum{{Name: "a", Members: []api.Member{member("", 7), member("", -7), member("", 7), {}}}}},
	} {
		for _, typ := range []string{"", "a", "b", "c", "list<a>", "set<b>", "map<a,b>"} {
			value.Kind(s, typ)
			value.Enum(s, typ)
			x, _ := value.Struct(s, typ)
			for _, v := range values {
				got := value.Check(s, typ, v)
				fields := value.Fields(s, x, v)
				if got != value.Check(plain(s), typ, v) || fields != value.Fields(plain(s), x, v) {
					t.Errorf("schema %d: two answers of %s as %s", i, show(v), typ)
				}
			}
		}
	}
}

// TestListsInAnyOrder has a struct, an enum and a schema whose lists do not ascend.
func TestListsInAnyOrder(t *testing.T) {
	s := schema()
	slices.Reverse(s.Structs)
	slices.Reverse(s.Enums)
	for i := range s.Structs {
		slices.Reverse(s.Structs[i].Fields)
	}
	for i := range s.Enums {
		slices.Reverse(s.Enums[i].Members)
	}
	for i, x := range s.Structs {
		wantStruct(t, s, x.Name, i)
	}
	for i, x := range s.Enums {
		wantEnum(t, s, x.Name, i)
	}
	types, values := typesAndValues()
	for _, typ := range types {
		for _, v := range values {
			if value.Check(s, typ, v) != value.Check(schema(), typ, v) {
				t.Errorf("Check of %s as %s, in another order", show(v), typ)
			}
		}
	}
}

func TestNoListsAndEmptyOnes(t *testing.T) {
	s := api.Schema{Structs: []api.SStruct{{Kind: api.DefStruct, Name: "A", Fields: []api.SField{}}}, Enums: []api.SEnum{{Name: "B", Members: []api.Member{}}}, Services: []api.SService{}}
	for typ, k := range map[string]int{"A": api.Struct, "list<A>": api.List, "set<A>": api.Set, "map<A,B>": api.Map} {
		for _, s := range []api.Schema{s, plain(s)} {
			v, w := api.Value{Kind: k}, api.Value{Kind: k, L: []api.Value{}, IDs: []int{}}
			if !value.Check(s, typ, v) || !value.Check(s, typ, w) {
				t.Errorf("Check of an empty value as %s: false", typ)
			}
		}
	}
	wantStruct(t, s, "A", 0)
	wantEnum(t, s, "B", 0)
}

// TestDeepValues has as many levels of nesting as any value may have: most often two are
// made in each step.
func TestDeepValues(t *testing.T) {
	t.Parallel()
	const steps = 1 << 15
	for i, around := range []func(v api.Value) api.Value{
		func(v api.Value) api.Value { return rec([]int{1}, list(v)) },
		func(v api.Value) api.Value { return rec([]int{1}, list(rec(nil), v, rec(nil))) },
		func(v api.Value) api.Value { return rec([]int{2}, set(rec(nil), v)) },
		func(v api.Value) api.Value { return rec([]int{3}, pairs(rec(nil), rec(nil), v, rec(nil))) },
		func(v api.Value) api.Value { return rec([]int{3}, pairs(rec(nil), v)) },
		func(v api.Value) api.Value { return rec([]int{4, 5}, v, num(api.I64, 1)) },
	} {
		good, bad := rec([]int{5}, num(api.I64, 1)), rec([]int{5}, i8(1))
		for range steps {
			good, bad = around(good), around(bad)
		}
		s := schema()
		x, _ := value.Struct(s, "c.Deep")
		if !value.Check(s, "c.Deep", good) || !value.Fields(s, x, good) || !value.Check(s, "set<c.Deep>", set(rec(nil), good)) {
			t.Errorf("%d: a deep value is none", i)
		}
		if value.Check(s, "c.Deep", bad) || value.Fields(s, x, bad) || value.Check(s, "list<c.Deep>", list(good, bad)) || value.Check(s, "set<c.Deep>", set(good, rec(nil))) {
			t.Errorf("%d: a deep value is one", i)
		}
	}
}

// TestValuesWithinThemselves has values made by hand that have no end: no call fails to
// have one.
func TestValuesWithinThemselves(t *testing.T) {
	t.Parallel()
	for id, k := range map[int]int{1: api.List, 2: api.Set, 3: api.Map} {
		v := rec([]int{id}, of(k, rec(nil), rec(nil)))
		v.L[0].L[1] = v
		s := schema()
		x, _ := value.Struct(s, "c.Deep")
		if value.Check(s, "c.Deep", v) || value.Fields(s, x, v) || value.Check(s, "list<c.Deep>", list(v)) {
			t.Errorf("a value with itself in it is one: a %d", k)
		}
	}
	v := rec([]int{4}, i8(1))
	v.L[0] = v
	if wantCheck(t, "c.Deep", v, false); value.Check(schema(), "a.All", v) {
		t.Error("a struct with itself in it is one")
	}
}

// TestLongValues has very many parts, very long texts, and very many fields.
func TestLongValues(t *testing.T) {
	t.Parallel()
	const n = 100000
	l, s, m := of(api.List), of(api.Set), of(api.Map)
	r, x := rec(nil), api.SStruct{Kind: api.DefStruct, Name: "x.X"}
	e := api.SEnum{Name: "x.E"}
	for i := range int64(n) {
		w := num(api.I32, i)
		l.L = append(l.L, num(api.I32, n-i))
		s.L = append(s.L, w)
		m.L = append(m.L, w, rec([]int{5}, num(api.I64, i)))
		r.L = append(r.L, w)
		r.IDs = append(r.IDs, int(2*i))
		x.Fields = append(x.Fields, field(int(2*i), int(i%3), "i32", "f"))
		e.Members = append(e.Members, member("m", 2*i))
	}
	for typ, v := range map[string]api.Value{"list<i32>": l, "set<i32>": s, "map<i32,c.Deep>": m, "list<set<i32>>": list(s, s)} {
		wantCheck(t, typ, v, true)
		v = order.Copy(v)
		v.L = append(v.L, v.L[len(v.L)-1], i8(1))
		wantCheck(t, typ, v, false)
	}
	wantCheck(t, "set<i32>", of(api.Set, l.L...), false)
	c := schema()
	if !value.Fields(c, x, r) {
		t.Error("a value with very many fields is none")
	}
	for _, i := range []int{1, n/2 + 1 - n/2%3, n - 1} {
		v := order.Copy(r)
		v.L, v.IDs = slices.Delete(v.L, i, i+1), slices.Delete(v.IDs, i, i+1)
		if value.Fields(c, x, v) != (i%3 != 1) {
			t.Errorf("a value without its field %d", i)
		}
		v = order.Copy(r)
		v.IDs[i]++
		if value.Fields(c, x, v) {
			t.Errorf("a value with a field behind its field %d", i)
		}
	}
	c.Enums, c.Structs = append(c.Enums, e), append(c.Structs, x)
	evens := of(api.Set)
	for i := range int64(n) {
		evens.L = append(evens.L, num(api.Enum, 2*i))
	}
	if !value.Check(c, "set<x.E>", evens) || value.Check(c, "x.E", num(api.Enum, n+1)) || value.Check(c, "x.E", num(api.Enum, 2*n)) || !value.Check(c, "list<x.X>", list(r, r)) {
		t.Error("values of very long enums and structs")
	}
	long := strings.Repeat("ab\u00e4", 1<<20)
	wantCheck(t, "set<string>", set(word(long), word(long+"a")), true)
	wantCheck(t, "set<string>", set(word(long+"a"), word(long)), false)
	wantCheck(t, "string", word(long+"\xc3"), false)
	for _, typ := range []string{strings.Repeat("list<", 1<<20), strings.Repeat("a.", 1<<20), strings.Repeat("a", 1<<20)} {
		wantKind(t, c, typ, 0)
		wantCheck(t, typ, list(), false)
	}
}
