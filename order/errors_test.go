package order_test

import (
	"testing"

	"assayer/api"
	"assayer/order"
)

// wantError checks that a value has no normal form, and why not.
func wantError(t *testing.T, v api.Value, e api.Errno) {
	t.Helper()
	if w, got := order.Normal(v); got != e || !same(w, api.Value{}) {
		t.Errorf("Normal of %s: %s, %d; not error %d", show(v), show(w), got, e)
	}
	if order.Is(v) {
		t.Errorf("Is of %s: true", show(v))
	}
}

// fault is a value without a normal form, and the error that says why.
type fault struct {
	v api.Value
	e api.Errno
}

// faults are some with one error each.
func faults() []fault {
	return []fault{
		{i8s(api.Map, 1), api.ErrArg},
		{i8s(api.Map, 2, 2, 1), api.ErrArg},
		{rec([]int{1}), api.ErrArg},
		{rec(nil, i8(1)), api.ErrArg},
		{i8s(api.Map, 1, 2, 1, 3), api.ErrTwice},
		{i8s(api.Map, 1, 3, 5, 0, 1, 2), api.ErrTwice},
		{rec([]int{1, 1}, i8(1), i8(1)), api.ErrTwice},
		{rec([]int{1, 0, 1}, i8(1), i8(2), i8(3)), api.ErrTwice},
	}
}

func TestMapsWithoutAnEnd(t *testing.T) {
	wantError(t, i8s(api.Map, 1), api.ErrArg)
	wantError(t, i8s(api.Map, 1, 1, 1), api.ErrArg)
	wantError(t, i8s(api.Map, 1, 2, 3, 4, 5), api.ErrArg)
	// Ahead of what else is wrong with it.
	wantError(t, i8s(api.Map, 1, 2, 1, 3, 5), api.ErrArg)
}

func TestMapsWithEqualKeysAndOtherValues(t *testing.T) {
	wantError(t, i8s(api.Map, 1, 2, 1, 3), api.ErrTwice)
	wantError(t, i8s(api.Map, 1, 3, 1, 2), api.ErrTwice)
	wantError(t, i8s(api.Map, 1, 2, 5, 5, 1, 3), api.ErrTwice)
	wantError(t, i8s(api.Map, 5, 5, 1, 2, 0, 7, 1, 3), api.ErrTwice)
	wantError(t, pairs(i8(1), i8(2), i8(1), num(api.I16, 2)), api.ErrTwice)
	wantError(t, pairs(word("k"), list(), word("k"), list(i8(0))), api.ErrTwice)
	// In each place among three.
	wantError(t, i8s(api.Map, 1, 2, 1, 2, 1, 3), api.ErrTwice)
	wantError(t, i8s(api.Map, 1, 2, 1, 3, 1, 2), api.ErrTwice)
	wantError(t, i8s(api.Map, 1, 3, 1, 2, 1, 2), api.ErrTwice)
	// Keys that are equal in normal form alone.
	wantError(t, pairs(i8s(api.Set, 1, 2), i8(0), i8s(api.Set, 2, 1), i8(1)), api.ErrTwice)
	// Keys, or values, that differ in what isn't compared.
	wantNot(t, pairs(i8(1), num(99, 1), i8(1), num(99, 1)), pairs(i8(1), num(99, 1)))
	if w, e := order.Normal(pairs(num(99, 1), num(99, 2), num(99, 3), num(99, 4))); e != api.OK || len(w.L) != 2 {
		t.Errorf("two pairs that are equal: %s, %d", show(w), e)
	}
	wantError(t, pairs(num(99, 1), i8(2), num(99, 3), i8(4)), api.ErrTwice)
}

func TestStructsThatAreNone(t *testing.T) {
	wantError(t, rec([]int{1}), api.ErrArg)
	wantError(t, rec(nil, i8(1)), api.ErrArg)
	wantError(t, rec([]int{1, 2}, i8(1)), api.ErrArg)
	wantError(t, rec([]int{1}, i8(1), i8(2)), api.ErrArg)
	// Ahead of two equal numbers.
	wantError(t, rec([]int{1, 1}, i8(1)), api.ErrArg)
	wantError(t, rec([]int{1, 1}, i8(1), i8(1), i8(1)), api.ErrArg)
	wantError(t, rec([]int{1, 1}), api.ErrArg)

	wantError(t, rec([]int{1, 1}, i8(1), i8(2)), api.ErrTwice)
	wantError(t, rec([]int{1, 1}, i8(1), i8(1)), api.ErrTwice)
	wantError(t, rec([]int{1, 2, 1}, i8(1), i8(1), i8(1)), api.ErrTwice)
	wantError(t, rec([]int{3, 2, 1, -1, 2}, i8(1), i8(1), i8(1), i8(1), i8(1)), api.ErrTwice)
	wantError(t, rec([]int{0, 0}, num(99, 1), num(99, 1)), api.ErrTwice)
}

// TestPartsComeFirst has a value that is wrong, with a part that is wrong in it.
func TestPartsComeFirst(t *testing.T) {
	for _, f := range faults() {
		wantError(t, pairs(f.v), f.e)
		wantError(t, pairs(i8(1), i8(2), i8(1), i8(3), i8(4), f.v), f.e)
		wantError(t, pairs(i8(1), i8(2), i8(1), f.v), f.e)
		wantError(t, pairs(i8(1), i8(2), f.v), f.e)
		wantError(t, rec(nil, f.v), f.e)
		wantError(t, rec([]int{1, 2}, f.v), f.e)
		wantError(t, rec([]int{1, 1}, i8(1), f.v), f.e)
		wantError(t, rec([]int{1, 1, 2}, i8(1), f.v), f.e)
	}
}

// arounds put two values into one that is not wrong itself.
func arounds() []func(v, w api.Value) api.Value {
	return []func(v, w api.Value) api.Value{
		func(v, w api.Value) api.Value { return list(v, w) },
		func(v, w api.Value) api.Value { return set(v, w) },
		func(v, w api.Value) api.Value { return pairs(v, w) },
		func(v, w api.Value) api.Value { return pairs(i8(5), v, w, i8(4)) },
		func(v, w api.Value) api.Value { return pairs(i8(5), v, i8(4), w) },
		func(v, w api.Value) api.Value { return rec([]int{2, 1}, v, w) },
		func(v, w api.Value) api.Value { return rec([]int{9, 3, 4, 2}, word("a"), v, word("b"), w) },
		func(v, w api.Value) api.Value { return list(list(set(v)), rec([]int{1}, w)) },
		func(v, w api.Value) api.Value { return list(rec([]int{2}, pairs(i8(1), v)), w) },
		func(v, w api.Value) api.Value { return set(i8s(api.Set, 9, 8), set(list(v), i8(0)), list(w)) },
	}
}

// TestTheFirstErrorOfTheParts has each pair of errors in one value, each in its place:
// the order is that of the parts as they are written, not of their normal form.
func TestTheFirstErrorOfTheParts(t *testing.T) {
	fine := []api.Value{i8(100), word("z"), list(), i8s(api.Set, 3, 1), {Kind: 99, L: []api.Value{i8s(api.Map, 1)}}}
	for _, around := range arounds() {
		for _, f := range faults() {
			for _, g := range faults() {
				wantError(t, around(f.v, g.v), f.e)
			}
			for _, v := range fine {
				wantError(t, around(v, f.v), f.e)
				wantError(t, around(f.v, v), f.e)
			}
		}
	}
}

// TestErrorsWithinOtherKinds has errors in what isn't examined.
func TestErrorsWithinOtherKinds(t *testing.T) {
	for _, f := range faults() {
		for _, k := range []int{api.I8, api.Double, api.String, api.Binary, api.Enum, 0, 99, -1} {
			wantIs(t, of(k, f.v))
			wantIs(t, list(of(k, f.v)))
			wantError(t, list(of(k, f.v), f.v), f.e)
		}
	}
}

// TestNoErrors has what looks like an error, and is none.
func TestNoErrors(t *testing.T) {
	wantIs(t, i8s(api.List, 1))
	wantIs(t, i8s(api.List, 1, 2, 1, 3))
	wantNot(t, i8s(api.Set, 1, 2, 1, 3), i8s(api.Set, 1, 2, 3))
	wantIs(t, i8s(api.Set, 1))
	wantIs(t, rec([]int{1, 2}, i8(1), i8(1)))
	wantIs(t, pairs(i8(1), i8(2), num(api.I16, 1), i8(3)))
	wantIs(t, pairs(word(""), i8(2), text(api.Binary, ""), i8(3)))
}
