package order_test

import (
	"fmt"
	"math"
	"slices"
	"strings"
	"testing"

	"assayer/api"
	"assayer/order"
)

// Kinds in groups, as the chapter has them.
var (
	signedKinds = []int{api.Bool, api.I8, api.I16, api.I32, api.I64, api.Enum}
	textKinds   = []int{api.String, api.Binary}
	listKinds   = []int{api.List, api.Set, api.Map}
	otherKinds  = []int{0, 1, 5, 7, 9, 18, 19, 31, 32, 33, 35, 43, 64, 66, 67, 74, 76, 77, 78, 99, 128, 130, 131, 140, 256 + 14, 1<<16 + 15, 1 << 32, 1<<32 + 3, 1<<32 + 13, math.MaxInt, math.MaxInt - 1, -1, -2, -3, -4, -10, -12, -13, -14, -15, -50, -51, -64 + 11, math.MinInt, math.MinInt + 2, math.MinInt + 12}
)

func num(k int, n int64) api.Value { return api.Value{Kind: k, N: n} }

func i8(n int64) api.Value { return num(api.I8, n) }

func text(k int, s string) api.Value { return api.Value{Kind: k, S: s} }

func word(s string) api.Value { return text(api.String, s) }

func of(k int, l ...api.Value) api.Value { return api.Value{Kind: k, L: l} }

func list(l ...api.Value) api.Value { return of(api.List, l...) }

func set(l ...api.Value) api.Value { return of(api.Set, l...) }

func pairs(l ...api.Value) api.Value { return of(api.Map, l...) }

// i8s is a value of kind k with numbers in it.
func i8s(k int, l ...int64) api.Value {
	v := api.Value{Kind: k}
	for _, n := range l {
		v.L = append(v.L, i8(n))
	}
	return v
}

func rec(ids []int, l ...api.Value) api.Value {
	return api.Value{Kind: api.Struct, IDs: ids, L: l}
}

// show is a text of a value, cut if it is long.
func show(v api.Value) string {
	var b strings.Builder
	tell(&b, v)
	if s := b.String(); len(s) <= 300 {
		return s
	}
	return b.String()[:300] + ".."
}

func tell(b *strings.Builder, v api.Value) {
	if b.Len() > 300 {
		return
	}
	fmt.Fprintf(b, "%d(", v.Kind)
	if v.N != 0 {
		fmt.Fprintf(b, "%d ", v.N)
	}
	if v.S != "" {
		fmt.Fprintf(b, "%.50q ", v.S)
	}
	for _, part := range v.L {
		tell(b, part)
	}
	if len(v.IDs) > 0 {
		fmt.Fprintf(b, "%v", v.IDs[:min(len(v.IDs), 20)])
	}
	b.WriteString(")")
}

// same tells whether values have the same in all fields, whatever their kind.
func same(v, w api.Value) bool {
	return v.Kind == w.Kind && v.N == w.N && v.S == w.S && slices.Equal(v.IDs, w.IDs) && slices.EqualFunc(v.L, w.L, same)
}

// wantCmp checks Cmp of a and b, and of b and a.
func wantCmp(t *testing.T, a, b api.Value, want int) {
	t.Helper()
	if got := order.Cmp(a, b); got != want {
		t.Errorf("Cmp of %s and %s: %d, not %d", show(a), show(b), got, want)
	}
	if got := order.Cmp(b, a); got != -want {
		t.Errorf("Cmp of %s and %s: %d, not %d", show(b), show(a), got, -want)
	}
}

// wantAscending checks Cmp of any two of some values, each of which is less than the next.
func wantAscending(t *testing.T, l ...api.Value) {
	t.Helper()
	for i, a := range l {
		for j, b := range l[:i+1] {
			want := 1
			if i == j {
				want = 0
			}
			wantCmp(t, a, b, want)
		}
	}
}

// wantNormal checks that v's normal form is w, in all fields, and the normal form of w
// as well; and what Is tells of both.
func wantNormal(t *testing.T, v, w api.Value) {
	t.Helper()
	got, e := order.Normal(v)
	if e != api.OK || !same(got, w) {
		t.Errorf("Normal of %s: %s, %d; not %s", show(v), show(got), e, show(w))
	}
	if got, e = order.Normal(w); e != api.OK || !same(got, w) {
		t.Errorf("Normal of %s, which is normal: %s, %d", show(w), show(got), e)
	}
	if want := order.Cmp(v, w) == 0; order.Is(v) != want {
		t.Errorf("Is of %s: %t", show(v), !want)
	}
	if !order.Is(w) {
		t.Errorf("Is of %s, which is normal: false", show(w))
	}
}

// wantIs checks that a value is its own normal form.
func wantIs(t *testing.T, v api.Value) {
	t.Helper()
	wantNormal(t, v, v)
	if !order.Is(v) {
		t.Errorf("Is of %s: false", show(v))
	}
}

// wantNot checks that v has another normal form, w.
func wantNot(t *testing.T, v, w api.Value) {
	t.Helper()
	wantNormal(t, v, w)
	if order.Is(v) {
		t.Errorf("Is of %s: true", show(v))
	}
}

func TestKindsComeFirst(t *testing.T) {
	kinds := slices.Concat(signedKinds, textKinds, listKinds, otherKinds, []int{api.Double, api.Struct})
	slices.Sort(kinds)
	for i, k := range kinds {
		for j, l := range kinds {
			want := 0
			if i < j {
				want = -1
			} else if i > j {
				want = 1
			}
			wantCmp(t, num(k, 1), num(l, 1), want)
			if i != j {
				great := api.Value{Kind: min(k, l), N: 99, S: "z", L: []api.Value{i8(9), i8(9)}, IDs: []int{9, 9}}
				wantCmp(t, great, api.Value{Kind: max(k, l)}, -1)
			}
		}
	}
}

func TestNumbersByTheirSign(t *testing.T) {
	numbers := []int64{math.MinInt64, math.MinInt64 + 1, math.MinInt32 - 1, math.MinInt32, -129, -128, -2, -1, 0, 1, 2, 127, 128, math.MaxInt32, math.MaxInt32 + 1, math.MaxInt64 - 1, math.MaxInt64}
	for _, k := range signedKinds {
		var l []api.Value
		for _, n := range numbers {
			l = append(l, num(k, n))
		}
		wantAscending(t, l...)
	}
}

func TestDoublesWithoutASign(t *testing.T) {
	var l []api.Value
	for _, n := range []int64{0, 1, 2, math.MaxInt32, math.MaxInt64 - 1, math.MaxInt64, math.MinInt64, math.MinInt64 + 1, math.MinInt32, -2, -1} {
		l = append(l, num(api.Double, n))
	}
	wantAscending(t, l...)
	double := func(f float64) api.Value { return num(api.Double, int64(math.Float64bits(f))) }
	wantAscending(t, double(0), double(0.5), double(1), double(math.Inf(1)), double(math.Copysign(0, -1)), double(-0.5), double(-1), double(math.Inf(-1)))
}

func TestTextsByTheirBytes(t *testing.T) {
	for _, k := range textKinds {
		var l []api.Value
		for _, s := range []string{"", "\x00", "\x00\x00", "\x00a", "\x01", "A", "Z", "a", "a\x00", "aa", "ab", "b", "z", "\x7f", "\x80", "\x80a", "\xc3", "\xc3\xa9", "\xc3\xff", "\xe2\x82\xac", "\xef\xbf\xbf", "\xf0\x9f\x98\x80", "\xff", "\xff\x00", "\xff\xff"} {
			l = append(l, text(k, s))
		}
		wantAscending(t, l...)
		long := strings.Repeat("x", 70000)
		wantAscending(t, text(k, long), text(k, long+"\x00"), text(k, long+"y"), text(k, long[1:]+"z"))
	}
}

func TestListsByTheirElements(t *testing.T) {
	for _, k := range listKinds {
		l := []api.Value{i8s(k), i8s(k, -5), i8s(k, -5, 9), i8s(k, 1), i8s(k, 1, 1), i8s(k, 1, 1, 0), i8s(k, 1, 2), i8s(k, 1, 2, 1), i8s(k, 1, 2, 3), i8s(k, 1, 2, 3, 4), i8s(k, 1, 3), i8s(k, 2), i8s(k, 2, 0)}
		wantAscending(t, l...)
		wantAscending(t, of(k, num(api.Double, 7)), of(k, num(api.Double, -7)), of(k, num(api.I16, -7)), of(k, word("a")), of(k, word("b")), of(k, of(k)), of(k, of(k), of(k)), of(k, of(k, i8(1))))
	}
	// A set and a map are compared as they are, in normal form or not.
	wantAscending(t, i8s(api.Set, 1, 3, 2), i8s(api.Set, 3, 1, 2), i8s(api.Set, 3, 2, 1))
	wantAscending(t, i8s(api.Set, 1), i8s(api.Set, 1, 1))
	wantAscending(t, i8s(api.Map, 1, 9, 2, 0), i8s(api.Map, 2, 0, 1, 9))
	wantAscending(t, i8s(api.Map, 1, 2), i8s(api.Map, 1, 2, 0), i8s(api.Map, 1, 3))
}

func TestStructsByNumbersAndValues(t *testing.T) {
	ids := func(l ...int) []int { return l }
	wantAscending(t, rec(nil), rec(ids(-3), i8(9)), rec(ids(-2), i8(8)), rec(ids(1), i8(0)), rec(ids(1), i8(1)), rec(ids(1, 2), i8(1), i8(0)), rec(ids(1, 2, 1), i8(1), i8(0), i8(5)), rec(ids(1, 2), i8(1), i8(1)), rec(ids(1, 3), i8(1), i8(0)), rec(ids(1), i8(2)), rec(ids(2), i8(0)), rec(ids(2, 1), i8(0), i8(0)))
	wantAscending(t, rec(ids(math.MinInt), i8(0)), rec(ids(-1), i8(0)), rec(ids(0), i8(0)), rec(ids(math.MaxInt), i8(0)))
	// A number counts ahead of its value, and both ahead of the next number.
	wantCmp(t, rec(ids(1, 9), i8(9), i8(9)), rec(ids(2, 1), i8(1), i8(1)), -1)
	wantCmp(t, rec(ids(1, 9), i8(1), i8(9)), rec(ids(1, 2), i8(2), i8(1)), -1)
	wantCmp(t, rec(ids(1, 2), i8(1), i8(9)), rec(ids(1, 3), i8(1), i8(0)), -1)
	// As far as they go, and then by the number of values.
	wantCmp(t, rec(ids(1), i8(5)), rec(ids(1, 2), i8(5), i8(0)), -1)
	wantCmp(t, rec(ids(1), rec(ids(2), i8(5))), rec(ids(1), rec(ids(2), i8(6))), -1)
}

func TestStructsWithUnlikeNumbersOfNumbersAndValues(t *testing.T) {
	ids := func(l ...int) []int { return l }
	// More numbers than values: what has no value isn't compared.
	wantCmp(t, rec(ids(1, 2), i8(5)), rec(ids(1, 3), i8(5)), 0)
	wantCmp(t, rec(ids(1, 2, 3), i8(5)), rec(ids(1), i8(5)), 0)
	wantCmp(t, rec(ids(7)), rec(nil), 0)
	wantCmp(t, rec(ids(7)), rec(ids(8)), 0)
	wantCmp(t, rec(ids(7)), rec(ids(3), i8(0)), -1)
	wantCmp(t, rec(ids(1, 9), i8(5)), rec(ids(1, 2), i8(5), i8(0)), -1)
	// More values than numbers: they count by their number alone.
	wantCmp(t, rec(nil, i8(5)), rec(nil, i8(6)), 0)
	wantCmp(t, rec(nil, i8(5)), rec(ids(1), i8(6)), 0)
	wantCmp(t, rec(ids(1), i8(1), i8(5)), rec(ids(1), i8(1), i8(6)), 0)
	wantCmp(t, rec(ids(1), i8(1), i8(5)), rec(ids(1), i8(2), i8(4)), -1)
	wantCmp(t, rec(ids(1), i8(1), i8(5)), rec(ids(1, 2), i8(1), word("z")), 0)
	wantCmp(t, rec(ids(1), i8(1), i8(5)), rec(ids(1, 2, 3), i8(1), i8(0), i8(0)), -1)
	wantCmp(t, rec(nil, i8(9)), rec(nil, i8(1), i8(1)), -1)
	wantCmp(t, rec(nil, i8(9)), rec(ids(1)), 1)
	wantCmp(t, rec(ids(5), i8(1)), rec(nil, i8(0), i8(0)), -1)
	wantCmp(t, rec(ids(5), i8(1), i8(1)), rec(ids(4, 3, 2), i8(1)), 1)
	wantCmp(t, rec(ids(5, 6), i8(1)), rec(ids(5), i8(1), i8(1)), -1)
}

func TestOtherFieldsAreNotCompared(t *testing.T) {
	junk := api.Value{N: 5, S: "x", L: []api.Value{i8(1), i8(2)}, IDs: []int{1, 2}}
	wantEqual := func(k int, keep func(v, w *api.Value)) {
		t.Helper()
		v, w := junk, api.Value{}
		v.Kind, w.Kind = k, k
		keep(&v, &w)
		wantCmp(t, v, w, 0)
		wantCmp(t, list(v), list(w), 0)
		wantCmp(t, set(v, i8(1)), set(w, i8(2)), -1)
	}
	for _, k := range append(signedKinds, api.Double) {
		wantEqual(k, func(v, w *api.Value) { w.N = v.N })
	}
	for _, k := range textKinds {
		wantEqual(k, func(v, w *api.Value) { w.S = v.S })
	}
	for _, k := range listKinds {
		wantEqual(k, func(v, w *api.Value) { w.L = v.L })
	}
	wantEqual(api.Struct, func(v, w *api.Value) { w.L, w.IDs = v.L, v.IDs })
	for _, k := range otherKinds {
		wantEqual(k, func(v, w *api.Value) {})
	}
}

func TestValuesWithinEachOther(t *testing.T) {
	for _, around := range []func(v api.Value) api.Value{
		func(v api.Value) api.Value { return list(i8(1), v) },
		func(v api.Value) api.Value { return set(v) },
		func(v api.Value) api.Value { return pairs(i8(1), v) },
		func(v api.Value) api.Value { return pairs(v, i8(0)) },
		func(v api.Value) api.Value { return rec([]int{4}, v) },
		func(v api.Value) api.Value { return rec([]int{4, 4}, list(), set(list(v))) },
	} {
		wantAscending(t, around(num(1, 5)), around(num(api.Bool, 9)), around(i8(-1)), around(i8(0)), around(num(api.Double, -1)), around(word("\x7f")), around(word("\x80")), around(rec(nil)), around(rec([]int{1}, i8(0))), around(pairs()), around(set()), around(set(i8(1))), around(list()))
		wantCmp(t, around(num(99, 1)), around(num(99, 2)), 0)
		wantCmp(t, around(rec([]int{5})), around(rec(nil)), 0)
	}
}

func TestSetsAreSorted(t *testing.T) {
	wantNot(t, i8s(api.Set, 2, 1, 2), i8s(api.Set, 1, 2))
	wantNot(t, i8s(api.Set, 2, 1), i8s(api.Set, 1, 2))
	wantNot(t, i8s(api.Set, 1, 1), i8s(api.Set, 1))
	wantNot(t, i8s(api.Set, 7, 7, 7, 7), i8s(api.Set, 7))
	wantNot(t, i8s(api.Set, 1, 0, -1, -128, 127), i8s(api.Set, -128, -1, 0, 1, 127))
	wantIs(t, i8s(api.Set))
	wantIs(t, i8s(api.Set, 9))
	wantIs(t, i8s(api.Set, -3, -1, 0, 4, 500))
	wantNot(t, set(word("b"), word("\x80"), word("a"), word(""), word("a")), set(word(""), word("a"), word("b"), word("\x80")))
	wantNot(t, set(num(api.Double, -1), num(api.Double, 1), num(api.Double, -2)), set(num(api.Double, 1), num(api.Double, -2), num(api.Double, -1)))
	wantNot(t, set(word(""), i8(500), num(api.Bool, 1), num(api.Enum, 0)), set(num(api.Bool, 1), i8(500), word(""), num(api.Enum, 0)))
}

func TestSetsWithEqualElementsInEveryOrder(t *testing.T) {
	want := i8s(api.Set, 1, 2, 3)
	var all func(l []int64, n int)
	all = func(l []int64, n int) {
		if n == 0 {
			for _, x := range []int64{1, 2, 3} {
				if !slices.Contains(l, x) {
					return
				}
			}
			if v := i8s(api.Set, l...); len(l) == 3 && slices.IsSorted(l) {
				wantIs(t, v)
			} else {
				wantNot(t, v, want)
			}
			return
		}
		for _, x := range []int64{1, 2, 3} {
			all(append(l[:len(l):len(l)], x), n-1)
		}
	}
	for n := 3; n <= 6; n++ {
		all(nil, n)
	}
}

func TestElementsThatBecomeEqual(t *testing.T) {
	wantNot(t, set(i8s(api.Set, 2, 1), i8s(api.Set, 1, 2), i8s(api.Set, 1, 1, 2)), set(i8s(api.Set, 1, 2)))
	wantNot(t, set(i8s(api.List, 2, 1), i8s(api.List, 1, 2)), set(i8s(api.List, 1, 2), i8s(api.List, 2, 1)))
	wantNot(t, set(i8s(api.Set, 3), i8s(api.Set, 4, 1)), set(i8s(api.Set, 1, 4), i8s(api.Set, 3)))
	wantNot(t, set(rec([]int{2, 1}, i8(5), i8(6)), rec([]int{1, 2}, i8(6), i8(5))), set(rec([]int{1, 2}, i8(6), i8(5))))
	wantNot(t, pairs(i8s(api.Set, 2, 1), i8s(api.Set, 4, 3), i8s(api.Set, 1, 2), i8s(api.Set, 3, 4)), pairs(i8s(api.Set, 1, 2), i8s(api.Set, 3, 4)))
	wantNot(t, pairs(i8s(api.Set, 5), i8(0), i8s(api.Set, 6, 1), i8(1)), pairs(i8s(api.Set, 1, 6), i8(1), i8s(api.Set, 5), i8(0)))
}

func TestMapsAreSortedByTheirKeys(t *testing.T) {
	wantNot(t, i8s(api.Map, 3, 1, 2, 9, 3, 1), i8s(api.Map, 2, 9, 3, 1))
	wantNot(t, i8s(api.Map, 2, 1, 1, 2), i8s(api.Map, 1, 2, 2, 1))
	wantNot(t, i8s(api.Map, 1, 2, 1, 2), i8s(api.Map, 1, 2))
	wantNot(t, i8s(api.Map, 1, 5, 0, 7, 1, 5, 0, 7, 1, 5), i8s(api.Map, 0, 7, 1, 5))
	wantNot(t, i8s(api.Map, 5, 0, -5, 0, 0, 0), i8s(api.Map, -5, 0, 0, 0, 5, 0))
	wantIs(t, i8s(api.Map))
	wantIs(t, i8s(api.Map, 9, 1))
	wantIs(t, i8s(api.Map, 1, 9, 2, 8, 3, 8, 4, -8))
	wantIs(t, i8s(api.Map, 1, 1, 2, 1))
	wantNot(t, pairs(word("b"), word("x"), word("a"), word("y"), i8(5), word("z")), pairs(i8(5), word("z"), word("a"), word("y"), word("b"), word("x")))
}

func TestStructsAreSortedByTheirNumbers(t *testing.T) {
	ids := func(l ...int) []int { return l }
	wantNot(t, rec(ids(2, 1), i8(5), i8(6)), rec(ids(1, 2), i8(6), i8(5)))
	wantNot(t, rec(ids(5, -1, 3), i8(1), word("b"), i8(1)), rec(ids(-1, 3, 5), word("b"), i8(1), i8(1)))
	wantNot(t, rec(ids(math.MaxInt, 0, math.MinInt), i8(1), i8(2), i8(3)), rec(ids(math.MinInt, 0, math.MaxInt), i8(3), i8(2), i8(1)))
	wantIs(t, rec(nil))
	wantIs(t, rec(ids(0), i8(5)))
	wantIs(t, rec(ids(-4, 0, 1, 40000), i8(5), i8(4), i8(4), i8(9)))
	wantNot(t, rec(ids(1), i8s(api.Set, 2, 1)), rec(ids(1), i8s(api.Set, 1, 2)))
	wantNot(t, rec(ids(7, 2), i8s(api.Set, 2, 1), i8s(api.Map, 2, 1, 1, 2)), rec(ids(2, 7), i8s(api.Map, 1, 2, 2, 1), i8s(api.Set, 1, 2)))
}

func TestListsStayInTheirOrder(t *testing.T) {
	wantIs(t, i8s(api.List))
	wantIs(t, i8s(api.List, 3, 3, 1))
	wantIs(t, i8s(api.List, 5))
	wantIs(t, list(i8s(api.Set, 2, 3), i8s(api.Set, 1, 2), i8s(api.Set, 2, 3)))
	wantNot(t, list(i8s(api.Set, 3, 2), i8s(api.Map, 2, 1, 1, 2), i8s(api.Set, 2, 2, 1)), list(i8s(api.Set, 2, 3), i8s(api.Map, 1, 2, 2, 1), i8s(api.Set, 1, 2)))
	wantNot(t, list(rec([]int{2, 1}, i8(1), i8(2)), i8(0), i8(0)), list(rec([]int{1, 2}, i8(2), i8(1)), i8(0), i8(0)))
}

func TestOtherKindsAreReturnedAsTheyAre(t *testing.T) {
	inside := []api.Value{i8s(api.Set, 2, 1, 2), i8s(api.Map, 1), rec([]int{1}), list(rec([]int{1, 1}, i8(1), i8(1))), {}}
	kinds := slices.Concat(signedKinds, textKinds, otherKinds, []int{api.Double})
	for _, k := range kinds {
		v := api.Value{Kind: k, N: 500, S: "\xff", L: inside, IDs: []int{3, 3, 1}}
		wantIs(t, v)
		wantIs(t, list(v, v))
		wantIs(t, rec([]int{1, 2}, v, v))
		wantIs(t, set(v))
		wantNot(t, set(v, v), set(v))
		wantIs(t, pairs(v, v))
		wantNot(t, pairs(v, v, v, v), pairs(v, v))
		wantIs(t, num(k, -7))
		wantIs(t, api.Value{Kind: k})
	}
}

// TestFieldsWithoutMeaning has lists, sets, maps and structs with something in fields
// that no sentence gives a meaning there: a normal form has nothing in them, and Is does
// not ask.
func TestFieldsWithoutMeaning(t *testing.T) {
	for _, v := range []api.Value{i8s(api.List, 2, 1), i8s(api.Set, 1, 2), i8s(api.Map, 1, 2), rec([]int{1, 2}, i8(1), i8(2)), i8s(api.Set, 2, 1)} {
		more := v
		more.N, more.S = 5, "x"
		if v.Kind != api.Struct {
			more.IDs = []int{7, 3}
		}
		want, _ := order.Normal(v)
		if w, e := order.Normal(more); e != api.OK || !same(w, want) {
			t.Errorf("Normal of %s: %s, %d", show(more), show(w), e)
		}
		if order.Is(more) != order.Is(v) {
			t.Errorf("Is of %s: %t", show(more), order.Is(more))
		}
		if w := order.Copy(more); !same(w, more) {
			t.Errorf("Copy of %s: %s", show(more), show(w))
		}
	}
}

func TestCopyHasAllThatIsThere(t *testing.T) {
	all := api.Value{N: -5, S: "a\xff", L: []api.Value{i8s(api.Set, 2, 1), rec([]int{1}), {Kind: 99, S: "b", IDs: []int{-1}}}, IDs: []int{3, 1, 3, -2}}
	kinds := slices.Concat(signedKinds, textKinds, listKinds, otherKinds, []int{api.Double, api.Struct})
	for _, k := range kinds {
		all.Kind = k
		for _, v := range []api.Value{all, {Kind: k}, list(all, all), {Kind: k, L: []api.Value{all}}} {
			if w := order.Copy(v); !same(w, v) {
				t.Errorf("Copy of %s: %s", show(v), show(w))
			}
		}
	}
}
