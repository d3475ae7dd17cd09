package konst_test

import (
	"slices"
	"strconv"
	"testing"

	"assayer/api"
	"assayer/bundle"
)

// chain is n constants C0, C1, .. of which each one names the next one, and the last one is
// c. (A parsed file has MaxDefs at the most; here one file has all of them.)
func chain(n int, c api.Const) bundle.Loaded {
	var f api.File
	for i := range n {
		init := named("C" + strconv.Itoa(i+1))
		if i == n-1 {
			init = c
		}
		f.Defs = append(f.Defs, api.Def{Kind: api.DefConst, Name: "C" + strconv.Itoa(i), Type: "i8", Init: init})
	}
	f.Defs = append(f.Defs,
		api.Def{Kind: api.DefStruct, Name: "S", Fields: []api.Field{{Type: "S", Name: "x"}, {Type: "list<S>", Name: "l"}, {Type: "map<i8,S>", Name: "m"}, {Type: "i8", Name: "i"}, {Type: "list<i8>", Name: "n"}}},
		api.Def{Kind: api.DefEnum, Name: "E", Members: []api.Member{{Name: "A"}}})
	return bundle.Loaded{Names: []string{"a"}, Files: []api.File{f}}
}

// name is that of the constant whose evaluation, because of its name, takes n evaluations
// within each other in a chain of so many constants.
func name(length, n int) api.Const { return named("C" + strconv.Itoa(length-n+1)) }

// items is n constants.
func items(n int, c api.Const) []api.Const { return slices.Repeat([]api.Const{c}, n) }

// TestDepthOfNames has constants that name others, as deep as may be, and deeper.
func TestDepthOfNames(t *testing.T) {
	t.Parallel()
	l := chain(60, whole(5))
	member, truth := chain(60, named("E.A")), chain(60, named("true"))
	for n := 2; n <= 61; n++ {
		if n > api.MaxDepth {
			for _, l := range []bundle.Loaded{l, member, truth} {
				wantEval(t, l, "a", "i8", name(60, n), api.Value{}, api.ErrDepth)
				wantEval(t, l, "a", "bool", name(60, n), api.Value{}, api.ErrDepth)
			}
			continue
		}
		wantEval(t, l, "a", "i8", name(60, n), i8(5), api.OK)
		wantEval(t, member, "a", "i8", name(60, n), i8(0), api.OK)
		wantEval(t, truth, "a", "bool", name(60, n), num(api.Bool, 1), api.OK)
	}
}

// TestDepthOfParts has lists, maps and structs around a constant, each of which adds 1 to
// its depth.
func TestDepthOfParts(t *testing.T) {
	t.Parallel()
	l := chain(60, whole(5))
	for _, more := range []int{0, 1} {
		for _, x := range []struct {
			around int
			typ    string
			write  func(c api.Const) api.Const
			want   api.Value
		}{
			{1, "list<i8>", func(c api.Const) api.Const { return row(c) }, list(i8(5))},
			{1, "list<i8>", func(c api.Const) api.Const { return row(whole(1), c) }, i8s(api.List, 1, 5)},
			{1, "set<i8>", func(c api.Const) api.Const { return row(c) }, set(i8(5))},
			{1, "map<i8,i8>", func(c api.Const) api.Const { return table(c, whole(1)) }, i8s(api.Map, 5, 1)},
			{1, "map<i8,i8>", func(c api.Const) api.Const { return table(whole(1), c) }, i8s(api.Map, 1, 5)},
			{1, "a.S", func(c api.Const) api.Const { return table(quoted("i"), c) }, rec([]int{-4}, i8(5))},
			{2, "a.S", func(c api.Const) api.Const { return table(quoted("n"), row(c)) }, rec([]int{-5}, list(i8(5)))},
			{3, "list<list<list<i8>>>", func(c api.Const) api.Const { return row(row(row(c))) }, list(list(list(i8(5))))},
			{3, "a.S", func(c api.Const) api.Const {
				return table(quoted("l"), row(table(quoted("i"), c)))
			}, rec([]int{-2}, list(rec([]int{-4}, i8(5))))},
		} {
			e := api.OK
			if more > 0 {
				x.want, e = api.Value{}, api.ErrDepth
			}
			wantEval(t, l, "a", x.typ, x.write(name(60, api.MaxDepth-x.around+more)), x.want, e)
		}
	}
}

// TestDepthOfStructs has structs within each other, deeper than a text may have them.
func TestDepthOfStructs(t *testing.T) {
	t.Parallel()
	l := chain(1, whole(5))
	for n := 1; n <= 100; n++ {
		c, v := table(), rec(nil)
		for range n - 1 {
			c, v = table(quoted("x"), c), rec([]int{-1}, v)
		}
		e := api.OK
		if n > api.MaxDepth {
			v, e = api.Value{}, api.ErrDepth
		}
		wantEval(t, l, "a", "a.S", c, v, e)
	}
}

// TestTheDepthGoesBack has many constants beside each other, each as deep as may be.
func TestTheDepthGoesBack(t *testing.T) {
	t.Parallel()
	l := chain(60, whole(5))
	deepest := name(60, api.MaxDepth-1)
	wantEval(t, l, "a", "list<i8>", row(items(10, deepest)...), i8s(api.List, 5, 5, 5, 5, 5, 5, 5, 5, 5, 5), api.OK)
	wantEval(t, l, "a", "map<i8,i8>", table(whole(1), deepest, deepest, deepest, whole(0), deepest), i8s(api.Map, 0, 5, 1, 5, 5, 5), api.OK)
	c := table(quoted("i"), deepest, quoted("x"), table(quoted("i"), name(60, api.MaxDepth-2)), quoted("n"), row(name(60, api.MaxDepth-2)))
	wantEval(t, l, "a", "a.S", c, rec([]int{-5, -4, -1}, list(i8(5)), i8(5), rec([]int{-4}, i8(5))), api.OK)
	c.L[5].L[0] = name(60, api.MaxDepth-1)
	wantEval(t, l, "a", "a.S", c, api.Value{}, api.ErrDepth)
}

// TestHowManyEvaluations has constants that take as many as may be, and one more.
func TestHowManyEvaluations(t *testing.T) {
	t.Parallel()
	l := chain(60, whole(5))
	for _, x := range []struct {
		typ   string
		takes int // evaluations an item
		item  api.Const
	}{
		{"i8", 1, whole(5)}, {"i8", 2, named("C59")}, {"i8", 4, named("C57")}, {"i8", 1, named("E.A")}, {"bool", 1, named("true")}, {"bool", 1, named("false")}, {"list<i8>", 1, row()}, {"list<i8>", 1, table()}, {"list<i8>", 3, row(whole(1), whole(1))}, {"set<i8>", 4, row(whole(1), whole(1), whole(1))},
		{"map<i8,i8>", 5, table(whole(1), whole(1), whole(2), whole(2))}, {"map<i8,i8>", 4, table(named("C59"), named("E.A"))}, {"a.S", 1, table()}, {"a.S", 2, table(quoted("i"), whole(1))}, {"a.S", 4, table(quoted("i"), named("C59"), quoted("n"), row())}, {"list<list<i8>>", 5, row(row(whole(1)), row(whole(1)))},
	} {
		for left := range x.takes {
			// Alone, the list is one; then as many items as there is room for.
			n := (api.MaxEvals - 1 - left) / x.takes
			c := row(items(n, x.item)...)
			wantError := func(e api.Errno) {
				t.Helper()
				if v, got := evaluated(l, x.typ, c); got != e || (e != api.OK) != same(v, api.Value{}) {
					t.Errorf("%d times %s as %s: %s, %d; not %d", n, cut(x.item), x.typ, cut(v), got, e)
				}
			}
			wantError(api.OK)
			room := api.MaxEvals - 1 - n*x.takes
			if x.takes > room {
				c.L = append(c.L, x.item)
				wantError(api.ErrLong)
			}
		}
	}
}

// TestTheLastEvaluations has the numbers MaxEvals and the next one of each kind of place.
func TestTheLastEvaluations(t *testing.T) {
	t.Parallel()
	for room := range 6 { // evaluations that are left for the constant
		for _, x := range []struct {
			c      api.Const
			typ    string
			wanted int // evaluations until the error
			e      api.Errno
		}{
			{quoted("x"), "i8", 1, api.ErrValue}, {named("Z"), "i8", 1, api.ErrName}, {named("C59"), "string", 2, api.ErrValue}, {named("E.A"), "bool", 1, api.ErrValue}, {named("C55"), "string", 6, api.ErrValue},
			{row(whole(1), quoted("x")), "list<i8>", 3, api.ErrValue}, {row(whole(1), named("Z"), whole(1)), "list<i8>", 3, api.ErrName}, {table(whole(1), whole(1), whole(1), whole(1)), "map<i8,i8>", 5, api.ErrTwice}, {table(whole(1), quoted("x"), whole(1)), "map<i8,i8>", 1, api.ErrValue},
			{table(quoted("i"), whole(1), quoted("z"), whole(1)), "a.S", 2, api.ErrName}, {table(quoted("i"), whole(1), quoted("i"), whole(1)), "a.S", 2, api.ErrTwice}, {table(quoted("i"), whole(1), quoted("n"), row(whole(200))), "a.S", 4, api.ErrValue}, {row(), "a.S", 1, api.ErrValue}, {table(whole(1), whole(1)), "a.S", 1, api.ErrValue},
		} {
			e := x.e
			if x.wanted > room {
				e = api.ErrLong
			}
			// Four are those of what is around it and of i, the others those of the items of n.
			c := table(quoted("n"), row(items(api.MaxEvals-room-4, whole(1))...), quoted("i"), whole(1), quoted("y"), x.c)
			l := chain(60, whole(5))
			l.Files[0].Defs = append(l.Files[0].Defs, api.Def{Kind: api.DefStruct, Name: "R", Fields: []api.Field{{Type: "list<i8>", Name: "n"}, {Type: "i8", Name: "i"}, {Type: x.typ, Name: "y"}}})
			wantEval(t, l, "a", "list<a.R>", row(c), api.Value{}, e)
		}
	}
}

// TestDepthAheadOfNumber has an evaluation that is too deep and one too many at once, and
// one of both a little earlier.
func TestDepthAheadOfNumber(t *testing.T) {
	t.Parallel()
	l := chain(60, whole(5))
	tooDeep := name(60, api.MaxDepth) // as an item of a list
	for d, e := range []api.Errno{api.ErrDepth, api.ErrDepth, api.ErrDepth, api.ErrLong, api.ErrLong} {
		n := api.MaxEvals - 1 - (api.MaxDepth - 1) + d - 2
		c := row(append(items(n, whole(1)), tooDeep)...)
		wantEval(t, l, "a", "list<i8>", c, api.Value{}, e)
	}
}

// TestLimitsAheadOfOtherErrors has evaluations that do not take place, of constants with
// errors; and errors ahead of an evaluation that would not take place.
func TestLimitsAheadOfOtherErrors(t *testing.T) {
	t.Parallel()
	for _, c := range []api.Const{quoted("x"), named("Z"), named("C59"), named("C0"), named("E.Z"), row(quoted("x")), {}, whole(200)} {
		l := chain(60, c)
		wantEval(t, l, "a", "i8", name(60, api.MaxDepth+1), api.Value{}, api.ErrDepth)
		_, e := evaluated(l, "i8", row(items(api.MaxEvals-1, whole(1))...))
		if e != api.OK {
			t.Errorf("a list that is not too long: %d", e)
		}
		wantEval(t, l, "a", "list<i8>", row(append(items(api.MaxEvals-1, whole(1)), c)...), api.Value{}, api.ErrLong)
	}
	long := append(items(100, whole(1)), quoted("x"))
	wantEval(t, chain(1, whole(1)), "a", "list<i8>", row(append(long, items(1000, whole(1))...)...), api.Value{}, api.ErrValue)
	wantEval(t, chain(1, whole(1)), "a", "map<i8,i8>", row(items(100000, whole(1))...), api.Value{}, api.ErrValue)
	wantEval(t, chain(1, whole(1)), "a", "list<i8>", row(items(100000, whole(1))...), api.Value{}, api.ErrLong)
	wantEval(t, chain(1, whole(1)), "a", "a.S", table(append(items(1000, quoted("z")), whole(1), whole(1))...), api.Value{}, api.ErrName)
	many := table()
	for i := range 2000 {
		many.L = append(many.L, whole(int64(i%100)), whole(1))
	}
	wantEval(t, chain(1, whole(1)), "a", "map<i8,i8>", many, api.Value{}, api.ErrLong) // and not ErrTwice
}

// TestCyclesAheadOfDepth has cycles of many lengths: a constant that is being evaluated
// is found where it is named, one evaluation ahead of where it would be too deep.
func TestCyclesAheadOfDepth(t *testing.T) {
	t.Parallel()
	for n := 1; n <= 60; n++ {
		e := api.ErrCycle
		if n >= api.MaxDepth {
			e = api.ErrDepth
		}
		l := chain(n, named("a.C0"))
		wantEval(t, l, "a", "i8", named("C0"), api.Value{}, e)
		wantEval(t, l, "a", "string", named("a.C0"), api.Value{}, e)
		if n > 1 {
			wantEval(t, l, "a", "i8", l.Files[0].Defs[0].Init, api.Value{}, e)
		}
		if n >= api.MaxDepth-1 {
			e = api.ErrDepth
		}
		wantEval(t, l, "a", "list<i8>", row(named("C0")), api.Value{}, e)
	}
	// The list names a constant whose evaluation is number MaxEvals, and which names itself.
	l := chain(1, named("C0"))
	for d, e := range []api.Errno{api.ErrCycle, api.ErrCycle, api.ErrLong, api.ErrLong} {
		wantEval(t, l, "a", "list<i8>", row(append(items(api.MaxEvals-4+d, whole(1)), named("C0"))...), api.Value{}, e)
	}
}

// TestAConstantWithItselfInIt has constants that no file has, and no end.
func TestAConstantWithItselfInIt(t *testing.T) {
	t.Parallel()
	circle := api.Const{Kind: api.ConList, L: make([]api.Const, 2)}
	circle.L[0], circle.L[1] = circle, circle
	spiral := table(quoted("x"), api.Const{})
	spiral.L[1] = spiral
	wide := table(quoted("l"), row(table(), table(), api.Const{}))
	wide.L[1].L[2] = wide
	for _, l := range []bundle.Loaded{chain(1, whole(1)), chain(1, circle), chain(1, spiral)} {
		wantEval(t, l, "a", "list<list<list<i8>>>", circle, api.Value{}, api.ErrValue)
		wantEval(t, l, "a", "list<i8>", circle, api.Value{}, api.ErrValue)
		wantEval(t, l, "a", "i8", circle, api.Value{}, api.ErrValue)
		wantEval(t, l, "a", "a.S", circle, api.Value{}, api.ErrValue)
		wantEval(t, l, "a", "a.S", spiral, api.Value{}, api.ErrDepth)
		wantEval(t, l, "a", "a.S", wide, api.Value{}, api.ErrDepth)
		wantEval(t, l, "a", "map<i8,i8>", spiral, api.Value{}, api.ErrValue)
	}
	wantEval(t, chain(1, circle), "a", "list<list<i8>>", named("C0"), api.Value{}, api.ErrValue)
	wantEval(t, chain(1, spiral), "a", "a.S", named("C0"), api.Value{}, api.ErrDepth)
}
