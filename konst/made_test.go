package konst_test

import (
	"math"
	"math/rand/v2"
	"slices"
	"strconv"
	"strings"
	"testing"
	"unicode/utf8"

	"assayer/alias"
	"assayer/api"
	"assayer/bundle"
	"assayer/field"
	"assayer/kind"
	"assayer/konst"
	"assayer/order"
)

// This file tells the chapter's words in another way, and holds Eval against them: with a
// list of what is still to do and one of the values so far, in one loop, and without layer
// 10. Each evaluation knows its depth, and the constants because of whose names it is there.

// task is an evaluation.
type task struct {
	file, typ string
	c         api.Const
	depth     int
	above     []string // whole names
}

// step is what is to do: an evaluation, or something else between evaluations.
type step func(m *machine) api.Errno

// machine is a computation. The last step is the next one.
type machine struct {
	l     bundle.Loaded
	steps []step
	done  []api.Value
	count int
}

// computed is what Eval is to answer.
func computed(l bundle.Loaded, file, typ string, c api.Const) (api.Value, api.Errno) {
	m := &machine{l: l}
	m.then(evaluation(task{file: file, typ: typ, c: c, depth: 1}))
	for len(m.steps) > 0 {
		next := m.steps[len(m.steps)-1]
		m.steps = m.steps[:len(m.steps)-1]
		if e := next(m); e != api.OK {
			return api.Value{}, e
		}
	}
	return m.done[0], api.OK
}

// then has the next steps done in this order, ahead of all others.
func (m *machine) then(steps ...step) {
	for _, s := range slices.Backward(steps) {
		m.steps = append(m.steps, s)
	}
}

// has notes a value.
func (m *machine) has(v api.Value) api.Errno {
	m.done = append(m.done, v)
	return api.OK
}

// within is an evaluation within another one.
func (k task) within(typ string, c api.Const) step {
	k.typ, k.c, k.depth = typ, c, k.depth+1
	return evaluation(k)
}

func evaluation(k task) step {
	return func(m *machine) api.Errno {
		m.count++
		switch {
		case k.depth > api.MaxDepth:
			return api.ErrDepth
		case m.count > api.MaxEvals:
			return api.ErrLong
		case k.c.Kind == api.ConName:
			return m.name(k)
		}
		return m.other(k)
	}
}

// definition is the definition with a name in a file; visible tells whether a file sees
// another one.
func (m *machine) definition(file, name string) (api.Def, bool) {
	for i, f := range m.l.Files {
		for _, d := range f.Defs {
			if m.l.Names[i] == file && d.Name == name {
				return d, true
			}
		}
	}
	return api.Def{}, false
}

func (m *machine) visible(from, file string) bool {
	if i := slices.Index(m.l.Names, from); i >= 0 {
		return from == file || slices.Contains(m.l.Files[i].Includes, file)
	}
	return false
}

// denoted is the home and the definition that the parts of a name denote.
func (m *machine) denoted(file string, parts []string) (home string, d api.Def, ok bool) {
	switch {
	case len(parts) == 1:
		d, ok = m.definition(file, parts[0])
		return file, d, ok
	case len(parts) == 2 && m.visible(file, parts[0]):
		d, ok = m.definition(parts[0], parts[1])
		return parts[0], d, ok
	}
	return "", d, false
}

func (m *machine) name(k task) api.Errno {
	if n := slices.Index([]string{"false", "true"}, k.c.S); n >= 0 {
		if k.typ != "bool" {
			return api.ErrValue
		}
		return m.has(num(api.Bool, int64(n)))
	}
	parts := strings.Split(k.c.S, ".")
	if home, d, ok := m.denoted(k.file, parts); ok && d.Kind == api.DefConst {
		whole := home + "." + d.Name
		if slices.Contains(k.above, whole) {
			return api.ErrCycle
		}
		k.file, k.above = home, append(slices.Clip(k.above), whole)
		m.then(k.within(k.typ, d.Init))
		return api.OK
	}
	home, d, ok := m.denoted(k.file, parts[:len(parts)-1])
	is := func(x api.Member) bool { return x.Name == parts[len(parts)-1] }
	if !ok || d.Kind != api.DefEnum || !slices.ContainsFunc(d.Members, is) {
		return api.ErrName
	}
	members, e := told(d.Members)
	if e != api.OK {
		return e
	}
	x := members[slices.IndexFunc(members, is)]
	if k.typ == home+"."+d.Name {
		return m.has(num(api.Enum, x.N))
	}
	return m.integer(k.typ, x.N)
}

// integer notes a number as a value of an integer type.
func (m *machine) integer(typ string, n int64) api.Errno {
	for _, x := range integers() {
		if x.typ == typ && x.least <= n && n <= x.great {
			return m.has(num(x.kind, n))
		}
	}
	return api.ErrValue
}

// other is an evaluation of what is no name, by the type.
func (m *machine) other(k task) api.Errno {
	c := k.c
	switch {
	case k.typ == "bool" && c.Kind == api.ConInt && (c.N == 0 || c.N == 1):
		return m.has(num(api.Bool, c.N))
	case k.typ == "double" && c.Kind == api.ConInt:
		return m.has(double(float64(c.N)))
	case k.typ == "double" && c.Kind == api.ConDouble:
		return m.has(double(math.Float64frombits(c.D)))
	case k.typ == "string" && c.Kind == api.ConText && utf8.ValidString(c.S):
		return m.has(word(c.S))
	case k.typ == "binary" && c.Kind == api.ConText:
		return m.has(api.Value{Kind: api.Binary, S: c.S})
	}
	h, name, a, b, _ := kind.Head(k.typ)
	switch h {
	case 0:
		return m.defined(k, strings.Split(name, "."))
	case api.List, api.Set, api.Map:
		return m.container(k, h, a, b)
	}
	if c.Kind != api.ConInt {
		return api.ErrValue
	}
	return m.integer(k.typ, c.N)
}

// container is an evaluation for a list, a set or a map.
func (m *machine) container(k task, h int, a, b string) api.Errno {
	c, types := k.c, []string{a, a}
	wanted := api.ConList
	if h == api.Map {
		wanted, types = api.ConMap, []string{a, b}
	}
	if c.Kind != api.ConList && c.Kind != api.ConMap || c.Kind != wanted && len(c.L) > 0 {
		return api.ErrValue
	}
	var steps []step
	for i, x := range c.L {
		steps = append(steps, k.within(types[i%2], x))
	}
	m.then(append(steps, func(m *machine) api.Errno { return m.gather(h, len(c.L)) })...)
	return api.OK
}

// gather makes the last n values one.
func (m *machine) gather(h, n int) api.Errno {
	l := slices.Clone(m.done[len(m.done)-n:])
	m.done = m.done[:len(m.done)-n]
	width := map[int]int{api.List: 0, api.Set: 1, api.Map: 2}[h]
	if width == 0 {
		return m.has(list(l...))
	}
	v := api.Value{Kind: h}
	for i := 0; i < n; i += width {
		at := 0
		for at < len(v.L) && order.Cmp(v.L[at], l[i]) < 0 {
			at += width
		}
		if at == len(v.L) || order.Cmp(v.L[at], l[i]) != 0 {
			v.L = slices.Insert(v.L, at, l[i:i+width]...)
		} else if h == api.Map {
			return api.ErrTwice
		}
	}
	return m.has(v)
}

// defined is an evaluation for an enum or a struct.
func (m *machine) defined(k task, parts []string) api.Errno {
	d, _ := m.definition(parts[0], strings.Join(parts[1:], "."))
	switch d.Kind {
	case api.DefEnum:
		if k.c.Kind != api.ConInt {
			return api.ErrValue
		}
		members, e := told(d.Members)
		if e == api.OK && !slices.ContainsFunc(members, func(x api.Member) bool { return x.N == k.c.N }) {
			e = api.ErrValue
		}
		if e != api.OK {
			return e
		}
		return m.has(num(api.Enum, k.c.N))
	case api.DefStruct, api.DefUnion, api.DefException:
		if k.c.Kind == api.ConMap {
			return m.record(k, parts[0], d)
		}
	}
	return api.ErrValue
}

// record is an evaluation for a struct.
func (m *machine) record(k task, home string, d api.Def) api.Errno {
	ids, e := field.IDs(d.Fields)
	if e != api.OK {
		return e
	}
	values := map[int]api.Value{}
	var steps []step
	for i := 0; i < len(k.c.L); i += 2 {
		key, c := k.c.L[i], k.c.L[i+1]
		id := 0
		steps = append(steps, func(m *machine) api.Errno {
			at := slices.IndexFunc(d.Fields, func(f api.Field) bool { return f.Name == key.S })
			switch {
			case key.Kind != api.ConText:
				return api.ErrValue
			case at < 0:
				return api.ErrName
			}
			id = ids[at]
			if _, is := values[id]; is {
				return api.ErrTwice
			}
			typ, _, e := alias.Type(m.l, home, d.Fields[at].Type)
			m.then(k.within(typ, c))
			return e
		}, func(m *machine) api.Errno {
			values[id] = m.done[len(m.done)-1]
			m.done = m.done[:len(m.done)-1]
			return api.OK
		})
	}
	m.then(append(steps, func(m *machine) api.Errno {
		v := rec(nil)
		for _, at := range field.Order(ids) {
			x, is := values[ids[at]]
			if is {
				v.IDs, v.L = append(v.IDs, ids[at]), append(v.L, x)
			} else if d.Fields[at].Req == api.ReqRequired {
				return api.ErrReq
			}
		}
		if d.Kind == api.DefUnion && len(v.L) != 1 {
			return api.ErrReq
		}
		return m.has(v)
	})...)
	return api.OK
}

// wantComputed holds what Eval answers against the chapter's words.
func wantComputed(t *testing.T, l bundle.Loaded, file, typ string, c api.Const) api.Errno {
	t.Helper()
	want, e := computed(l, file, typ, c)
	v, got := konst.Eval(l, file, typ, c)
	if got != e || !same(v, want) {
		t.Errorf("Eval in %q of %s as %s: %s, %d; not %s, %d\n%s", file, cut(c), typ, cut(v), got, cut(want), e, cut(l))
	}
	return e
}

// TestAllSmallConstants has all constants with up to two parts, and some more, for types of
// all kinds.
func TestAllSmallConstants(t *testing.T) {
	t.Parallel()
	l := of(t, "a", "include 'b' enum E { A = 1, B = 2 } enum Bad { A, B = 0 } struct S { 1: i8 x 2: b.R y 3: Z z } union U { 1: i8 x 2: set<i8> y } exception X { 1: required E x } struct Bad2 { 0: i8 x } const i8 K = 1 const i8 C = [C] const i8 D = D const list<i8> L = [2, 1, 2] const i8 M = {2: 1} const i8 S2 = {'x': 1}",
		"b", "struct R { 1: required list<i8> x } enum F { G = 1 }")
	var atoms []api.Const
	for _, s := range []string{"1", "2", "200", "1.0", "'x'", "'y'", "'\xff'", "true", "K", "C", "D", "L", "M", "S2", "E.A", "Bad.A", "b.F.G", "Z", "[]", "{}"} {
		atoms = append(atoms, written(t, s))
	}
	constants := slices.Concat(atoms, []api.Const{row(), table()})
	for _, x := range atoms {
		constants = append(constants, row(x), row(row(x)), table(quoted("y"), row(x)), table(quoted("y"), table(quoted("x"), row(x))))
		for _, y := range atoms {
			constants = append(constants, row(x, y), table(x, y), table(x, y, x, y), table(whole(1), x, whole(2), y), table(x, whole(1), y, whole(2)), table(quoted("x"), x, quoted("y"), y), table(quoted("y"), row(x, y)))
		}
	}
	types := []string{"bool", "i8", "i16", "i64", "double", "string", "binary", "a.E", "a.Bad", "b.F", "a.S", "a.U", "a.X", "a.Bad2", "b.R", "list<i8>", "set<i8>", "map<i8,i8>", "map<double,string>", "list<list<i8>>", "list<a.X>", "set<a.E>", "map<i64,set<i8>>", "a.Z", "a.K"}
	count := map[api.Errno]int{}
	for _, c := range constants {
		for _, typ := range types {
			count[wantComputed(t, l, "a", typ, c)]++
		}
	}
	for _, e := range []api.Errno{api.OK, api.ErrRange, api.ErrName, api.ErrTwice, api.ErrCycle, api.ErrValue, api.ErrReq} {
		if count[e] < 50 {
			t.Errorf("what was found: %v", count)
			break
		}
	}
}

// maker makes files and constants, by a source of numbers that begins the same each time.
type maker struct {
	*rand.Rand
	l     bundle.Loaded
	types []string // whole
}

func (r *maker) rarely(often int) bool { return r.IntN(often) == 0 }

func one[T any](r *maker, l []T) T { return l[r.IntN(len(l))] }

func (r *maker) key() string {
	return one(r, []string{"bool", "i8", "i16", "i32", "i64", "double", "string", "binary", "a.E0", "b.E0", "c.E1"})
}

func (r *maker) typ(depth int) string {
	if depth == 0 {
		if r.IntN(3) == 0 {
			return one(r, []string{"a.S0", "a.S1", "b.S0", "b.S1", "c.S0", "c.S1"})
		}
		return r.key()
	}
	switch r.IntN(3) {
	case 0:
		return "set<" + r.key() + ">"
	case 1:
		return "map<" + r.key() + "," + r.typ(depth-1) + ">"
	}
	return "list<" + r.typ(depth-1) + ">"
}

// files is three files that include each other, with enums, structs and constants; most of
// them have no error.
func (r *maker) files() {
	r.l = bundle.Loaded{Names: []string{"c", "b", "a"}, Files: make([]api.File, 3)}
	for range 12 {
		r.types = append(r.types, r.typ(r.IntN(4)))
	}
	r.types = append(r.types, "i8", "i8", "i64", "a.E0", "list<i8>", "a.S0", "b.S1")
	for i := range r.l.Files {
		f := &r.l.Files[i]
		f.Includes = slices.Clone(r.l.Names)
		if r.rarely(3) {
			f.Includes = slices.Clone(r.l.Names[:i])
		}
		for j := range 2 {
			f.Defs = append(f.Defs, r.enum("E"+strconv.Itoa(j)), r.record("S"+strconv.Itoa(j)))
		}
		f.Defs = append(f.Defs, api.Def{Kind: api.DefTypedef, Name: "T", Type: one(r, r.types)})
		for j, typ := range r.types {
			f.Defs = append(f.Defs, api.Def{Kind: api.DefConst, Name: "K" + strconv.Itoa(j), Type: typ})
		}
	}
	for i, f := range r.l.Files {
		for j, d := range f.Defs {
			if d.Kind == api.DefConst {
				f.Defs[j].Init = r.constant(r.l.Names[i], d.Type, 4)
			}
		}
	}
	r.l.Files[0].Defs = append(r.l.Files[0].Defs, chain(50, whole(5)).Files[0].Defs[:50]...)
}

func (r *maker) enum(name string) api.Def {
	d := api.Def{Kind: api.DefEnum, Name: name}
	for i := range 1 + r.IntN(4) {
		x := api.Member{Name: "M" + strconv.Itoa(i), Has: r.rarely(2), N: int64(10 * r.IntN(40) * (1 - 2*r.IntN(2)))}
		if r.rarely(60) {
			x.Name, x.N = "M0", 1<<31
		}
		d.Members = append(d.Members, x)
	}
	return d
}

func (r *maker) record(name string) api.Def {
	d := api.Def{Kind: one(r, []int{api.DefStruct, api.DefStruct, api.DefUnion, api.DefException}), Name: name}
	for i := range 1 + r.IntN(4) {
		f := api.Field{Name: "f" + strconv.Itoa(i), Type: one(r, r.types), HasID: r.rarely(2), ID: int64(100*r.IntN(300) + i + 1)}
		if r.rarely(4) {
			f.Req = 1 + r.IntN(2)
		}
		if r.rarely(15) {
			f.Type = one(r, []string{"T", "T", "Z", "K0", "set<a.S0>", "list<"})
		}
		if r.rarely(150) {
			f.ID, f.Name = 1, "f0"
		}
		d.Fields = append(d.Fields, f)
	}
	return d
}

// constant is one that most often has a value of the type.
func (r *maker) constant(file, typ string, depth int) api.Const {
	if r.rarely(50) {
		return one(r, []api.Const{whole(1), quoted("f0"), named("true"), row(), table(), named("Z"), {Kind: api.ConDouble, D: 7}, row(whole(1)), {}})
	}
	if r.rarely(6) || depth == 0 && r.rarely(2) {
		if c, ok := r.reference(file, typ); ok {
			return c
		}
	}
	if typ == "i8" && r.rarely(60) {
		return named("c.C" + strconv.Itoa(r.IntN(50)))
	}
	h, name, a, b, _ := kind.Head(typ)
	n := r.IntN(4)
	switch {
	case depth <= 0:
		n = r.IntN(2)
	case r.rarely(30):
		n = 40
	}
	switch h {
	case api.Bool:
		return one(r, []api.Const{whole(0), whole(1), named("true"), named("false")})
	case api.I8, api.I16, api.I32, api.I64:
		return whole(one(r, []int64{0, 1, 2, 3, 4, -5, 100, 127, -128, 10 * int64(r.IntN(10))}))
	case api.Double:
		return one(r, []api.Const{whole(2), whole(1<<60 + 1), {Kind: api.ConDouble, D: r.Uint64()}, {Kind: api.ConDouble}})
	case api.String, api.Binary:
		return quoted(one(r, []string{"", "a", "b", "ab", "é", strconv.Itoa(r.IntN(1000))}))
	case api.List, api.Set:
		c := row()
		for range n {
			c.L = append(c.L, r.constant(file, a, depth-1))
		}
		return c
	case api.Map:
		c := table()
		for range n % 5 {
			c.L = append(c.L, r.constant(file, a, depth-1), r.constant(file, b, depth-1))
		}
		return c
	}
	home, short, _ := strings.Cut(name, ".")
	d, _ := (&machine{l: r.l}).definition(home, short)
	if d.Kind == api.DefEnum {
		members, _ := told(d.Members)
		if len(members) == 0 {
			return whole(0)
		}
		return whole(one(r, members).N)
	}
	return r.fields(file, home, d, depth)
}

// fields is a constant for a struct.
func (r *maker) fields(file, home string, d api.Def, depth int) api.Const {
	c := table()
	only := r.IntN(len(d.Fields) + 1)
	for i, f := range d.Fields {
		there := f.Req == api.ReqRequired || depth > 0 && r.rarely(3)
		if d.Kind == api.DefUnion {
			there = i == only
		}
		if there != r.rarely(60) {
			typ, _, _ := alias.Type(r.l, home, f.Type)
			c.L = append(c.L, quoted(f.Name), r.constant(file, typ, depth-1))
		}
		if r.rarely(300) {
			c.L = append(c.L, whole(1), whole(1))
		}
		if r.rarely(300) {
			c.L = append(c.L, quoted("z"), whole(1))
		}
	}
	return c
}

// reference is a name of a constant or of a member, most often of that type.
func (r *maker) reference(file, typ string) (api.Const, bool) {
	home := one(r, append(slices.Clone(r.l.Files[slices.Index(r.l.Names, file)].Includes), file))
	f := r.l.Files[slices.Index(r.l.Names, home)]
	var names []string
	for _, d := range f.Defs {
		switch {
		case d.Kind == api.DefConst && (d.Type == typ || r.rarely(100)):
			names = append(names, home+"."+d.Name)
			if home == file {
				names = append(names, d.Name)
			}
		case d.Kind == api.DefEnum && (home+"."+d.Name == typ || r.rarely(100)):
			names = append(names, home+"."+d.Name+"."+one(r, d.Members).Name)
		}
	}
	if len(names) == 0 {
		return api.Const{}, false
	}
	return named(one(r, names)), true
}

func TestMadeFiles(t *testing.T) {
	t.Parallel()
	r := &maker{Rand: rand.New(rand.NewPCG(15, 1))}
	count, kinds := map[api.Errno]int{}, map[int]int{}
	for range 60 {
		r.types = nil
		r.files()
		schema := schemaOf(r.l)
		for i, file := range r.l.Names {
			for j, d := range r.l.Files[i].Defs {
				if d.Kind != api.DefConst || d.Name[0] != 'K' {
					continue
				}
				for _, x := range []struct {
					typ string
					c   api.Const
				}{{d.Type, d.Init}, {d.Type, r.constant(file, d.Type, 4)}, {one(r, r.types), d.Init}, {"list<" + d.Type + ">", row(items(1+r.IntN(20), named(d.Name))...)}, {"i64", named("K" + strconv.Itoa(j))}} {
					count[wantComputed(t, r.l, file, x.typ, x.c)]++
					v, _ := konst.Eval(r.l, file, x.typ, x.c)
					kinds[v.Kind]++
					wantValueOf(t, schema, x.typ, v)
				}
			}
		}
	}
	for _, e := range []api.Errno{api.OK, api.ErrForm, api.ErrLong, api.ErrRange, api.ErrDepth, api.ErrName, api.ErrTwice, api.ErrCycle, api.ErrKind, api.ErrKey, api.ErrValue, api.ErrReq} {
		if count[e] < 5 {
			t.Errorf("what was found: %v", count)
			break
		}
	}
	for _, k := range []int{api.Bool, api.I8, api.I16, api.I32, api.I64, api.Double, api.String, api.Binary, api.Enum, api.List, api.Set, api.Map, api.Struct} {
		if kinds[k] < 20 {
			t.Errorf("the kinds: %v", kinds)
			break
		}
	}
}
