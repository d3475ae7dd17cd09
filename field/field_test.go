package field_test

import (
	"math"
	"slices"
	"strconv"
	"strings"
	"testing"

	"assayer/api"
	"assayer/field"
)

// own is a field with a number of its own.
func own(name string, id int64) api.Field {
	return api.Field{HasID: true, ID: id, Type: "i8", Name: name}
}

// without is a field without a number.
func without(name string) api.Field { return api.Field{Type: "i8", Name: name} }

// show tells the beginning of a list of fields.
func show(l []api.Field) string {
	var s []string
	for _, f := range l[:min(len(l), 40)] {
		name := strconv.Quote(f.Name[:min(len(f.Name), 20)])
		if f.HasID {
			name = strconv.FormatInt(f.ID, 10) + ": " + name
		}
		s = append(s, name)
	}
	return strconv.Itoa(len(l)) + " fields " + strings.Join(s, ", ")
}

// wantIDs checks that the fields have these numbers.
func wantIDs(t *testing.T, l []api.Field, want ...int) {
	t.Helper()
	if ids, e := field.IDs(l); e != api.OK || !slices.Equal(ids, want) {
		t.Errorf("%s: %v, %d; not %v", show(l), ids[:min(len(ids), 40)], e, want[:min(len(want), 40)])
	}
}

// wantError checks that the fields have this error, and no numbers.
func wantError(t *testing.T, e api.Errno, l ...api.Field) {
	t.Helper()
	if ids, got := field.IDs(l); got != e || len(ids) > 0 {
		t.Errorf("%s: %v, %d; not %d", show(l), ids[:min(len(ids), 40)], got, e)
	}
}

// wantOrder checks the order of numbers.
func wantOrder(t *testing.T, ids []int, want ...int) {
	t.Helper()
	if l := field.Order(ids); !slices.Equal(l, want) {
		t.Errorf("Order of %v: %v, not %v", ids[:min(len(ids), 40)], l[:min(len(l), 40)], want[:min(len(want), 40)])
	}
}

func TestExamples(t *testing.T) {
	wantIDs(t, []api.Field{own("a", 1), without("b"), own("c", 32767), without("d")}, 1, -1, 32767, -2)
	wantOrder(t, []int{5, -1, 3, 5, -2, 3}, 4, 1, 2, 5, 0, 3)
}

func TestNoFields(t *testing.T) {
	wantIDs(t, nil)
	wantIDs(t, []api.Field{})
	wantIDs(t, []api.Field{own("a", 0)}[:0])
}

func TestFieldsThatAllHaveNumbers(t *testing.T) {
	wantIDs(t, []api.Field{own("a", 7)}, 7)
	wantIDs(t, []api.Field{own("a", 1), own("b", 2), own("c", 3)}, 1, 2, 3)
	wantIDs(t, []api.Field{own("a", 300), own("b", 2), own("c", 32767), own("d", 1), own("e", 256)}, 300, 2, 32767, 1, 256)
}

func TestFieldsThatHaveNoNumbers(t *testing.T) {
	wantIDs(t, []api.Field{without("a")}, -1)
	wantIDs(t, []api.Field{without("a"), without("b"), without("c")}, -1, -2, -3)
	wantIDs(t, []api.Field{without("c"), without("b"), without("a")}, -1, -2, -3)
	var l []api.Field
	var want []int
	for i := range api.MaxFields {
		l, want = append(l, without("f"+strconv.Itoa(i))), append(want, -1-i)
		wantIDs(t, l, want...)
	}
}

// TestMixedFields has fields with a number and without one in all orders.
func TestMixedFields(t *testing.T) {
	for n := range 11 {
		for mask := range 1 << n {
			var l []api.Field
			var want []int
			down := 0
			for i := range n {
				name := string(rune('a' + i))
				if mask>>i&1 == 1 {
					l, want = append(l, own(name, int64(10*n-i))), append(want, 10*n-i)
				} else {
					down--
					l, want = append(l, without(name)), append(want, down)
				}
			}
			wantIDs(t, l, want...)
		}
	}
}

// TestOwnNumbersTakeNoneAway has own numbers whose negatives the other fields get.
func TestOwnNumbersTakeNoneAway(t *testing.T) {
	wantIDs(t, []api.Field{own("a", 1), without("b"), own("c", 2), without("d")}, 1, -1, 2, -2)
	wantIDs(t, []api.Field{without("a"), without("b"), own("c", 1), own("d", 2), without("e"), own("f", 3)}, -1, -2, 1, 2, -3, 3)
	wantIDs(t, []api.Field{own("a", 5), without("b"), own("c", 6), without("d"), own("e", 7), without("f")}, 5, -1, 6, -2, 7, -3)
}

func TestLeastAndGreatestNumber(t *testing.T) {
	wantIDs(t, []api.Field{own("a", 1)}, 1)
	wantIDs(t, []api.Field{own("a", 2)}, 2)
	wantIDs(t, []api.Field{own("a", 32766)}, 32766)
	wantIDs(t, []api.Field{own("a", 32767)}, 32767)
	wantIDs(t, []api.Field{own("a", 32767), own("b", 1)}, 32767, 1)
}

// TestNumbersOutOfRange has among them such as are in range when they are cut to 8, 16
// or 32 bits.
func TestNumbersOutOfRange(t *testing.T) {
	for _, id := range []int64{0, -1, -2, -32767, -32768, 32768, 32769, 65535, 65536, 1<<16 + 1, 1<<16 + 32767, -1<<16 + 1, math.MaxInt32, 1 << 32, 1<<32 + 1, 1<<32 + 32767, -1<<32 + 1, math.MinInt32, 1 << 48, 1<<48 + 1, math.MaxInt64, math.MinInt64, math.MinInt64 + 1} {
		wantError(t, api.ErrRange, own("a", id))
		wantError(t, api.ErrRange, own("a", 1), own("b", id))
		wantError(t, api.ErrRange, without("a"), own("b", id), own("c", 2))
		wantError(t, api.ErrRange, own("a", id), without("b"))
	}
}

// TestAllNumbers has each number that a field may have, in one list.
func TestAllNumbers(t *testing.T) {
	var l []api.Field
	var want []int
	for i := range 32767 {
		l, want = append(l, own("f"+strconv.Itoa(i), int64(i+1))), append(want, i+1)
	}
	wantIDs(t, l, want...)
	slices.Reverse(l)
	slices.Reverse(want)
	wantIDs(t, l, want...)
	wantIDs(t, append(l, without("g"), without("h")), append(want, -1, -2)...)
	wantError(t, api.ErrTwice, append(l, own("g", 17))...)
	wantError(t, api.ErrRange, append(l, own("g", 32768))...)
}

// TestNumberOfAFieldWithout has something in a field's number, which is none as HasID
// says.
func TestNumberOfAFieldWithout(t *testing.T) {
	for _, id := range []int64{0, 1, 2, -1, 5, 32767, 32768, math.MaxInt64, math.MinInt64} {
		a, b := without("a"), without("b")
		a.ID, b.ID = id, id
		wantIDs(t, []api.Field{a}, -1)
		wantIDs(t, []api.Field{a, b}, -1, -2)
		wantIDs(t, []api.Field{own("c", 5), a, own("d", 1), b, own("e", 2)}, 5, -1, 1, -2, 2)
		wantIDs(t, []api.Field{a, own("c", 5), b}, -1, 5, -2)
	}
}

// TestNamesAreCompared bytewise: these are all different.
func TestNamesAreCompared(t *testing.T) {
	names := []string{"", "a", "A", "aa", "a\x00", "\x00", "\x00a", "a.b", "a ", " a", "\u00e9", "e\u0301", "\xff", "\xfe", "\xff\xff", "\ufffd", strings.Repeat("a", 40), strings.Repeat("a", 41), strings.Repeat("a", 1000), strings.Repeat("a", 999) + "b", "i8", "struct", "1", "-1"}
	var l []api.Field
	var want []int
	for i, name := range names {
		l, want = append(l, without(name)), append(want, -1-i)
	}
	wantIDs(t, l, want...)
	for i, name := range names {
		wantError(t, api.ErrTwice, append(l[:len(names):len(names)], without(name))...)
		wantError(t, api.ErrTwice, append(l[:len(names):len(names)], own(name, 1))...)
		wantError(t, api.ErrTwice, own(name, 1), without(name))
		wantIDs(t, []api.Field{own(name, 1), without(names[(i+1)%len(names)])}, 1, -1)
	}
}

// TestOnlyNumbersAndNamesCount has fields whose other parts are wrong or the same.
func TestOnlyNumbersAndNamesCount(t *testing.T) {
	a := api.Field{Name: "a", Req: 77, Type: "no type", HasInit: true, Init: api.Const{Kind: 99, S: "b"}}
	b := api.Field{Name: "b", Req: 77, Type: "no type", HasInit: true, Init: api.Const{Kind: 99, S: "b"}}
	wantIDs(t, []api.Field{a, b}, -1, -2)
	wantIDs(t, []api.Field{{Name: "a"}, {Name: "b", HasID: true, ID: 3}}, -1, 3)
	wantError(t, api.ErrTwice, a, api.Field{Name: "a"})
	b.HasID, b.ID = true, 9
	wantIDs(t, []api.Field{a, b}, -1, 9)
	wantError(t, api.ErrTwice, b, own("c", 9))
}

func TestOrderOfFew(t *testing.T) {
	wantOrder(t, nil)
	wantOrder(t, []int{})
	for _, id := range []int{0, 1, -1, 7, math.MinInt, math.MaxInt} {
		wantOrder(t, []int{id}, 0)
	}
	wantOrder(t, []int{1, 2}, 0, 1)
	wantOrder(t, []int{2, 1}, 1, 0)
	wantOrder(t, []int{2, 2}, 0, 1)
}

func TestOrderOfNumbersThatRise(t *testing.T) {
	wantOrder(t, []int{1, 2, 3, 4, 5}, 0, 1, 2, 3, 4)
	wantOrder(t, []int{-30, -2, 0, 7, 32767}, 0, 1, 2, 3, 4)
}

func TestOrderOfNumbersThatFall(t *testing.T) {
	wantOrder(t, []int{5, 4, 3, 2, 1}, 4, 3, 2, 1, 0)
	wantOrder(t, []int{-1, -2, -3, -4}, 3, 2, 1, 0)
	wantOrder(t, []int{32767, 1, -1, -2}, 3, 2, 1, 0)
}

func TestOrderOfEqualNumbers(t *testing.T) {
	wantOrder(t, []int{3, 3, 3, 3}, 0, 1, 2, 3)
	wantOrder(t, []int{0, 0, 0}, 0, 1, 2)
	wantOrder(t, []int{2, 1, 2, 1, 2, 1}, 1, 3, 5, 0, 2, 4)
	wantOrder(t, []int{-1, 1, -1, 1}, 0, 2, 1, 3)
}

func TestOrderOfNegativeAndPositiveNumbers(t *testing.T) {
	wantOrder(t, []int{1, -1, 32767, -2}, 3, 1, 0, 2)
	wantOrder(t, []int{-1, 10, 9, -10, 0, -9}, 3, 5, 0, 4, 2, 1)
	wantOrder(t, []int{100, -99, 99, -100}, 3, 1, 2, 0)
}

// TestOrderOfFarNumbers has numbers whose differences no int holds, and such as are
// alike when they are cut to 8, 16 or 32 bits.
func TestOrderOfFarNumbers(t *testing.T) {
	wantOrder(t, []int{math.MaxInt, math.MinInt}, 1, 0)
	wantOrder(t, []int{math.MinInt, math.MaxInt}, 0, 1)
	wantOrder(t, []int{math.MaxInt, -1, 0, math.MinInt, 1}, 3, 1, 2, 4, 0)
	wantOrder(t, []int{math.MinInt, math.MaxInt, math.MinInt, math.MaxInt}, 0, 2, 1, 3)
	wantOrder(t, []int{math.MaxInt, math.MaxInt - 1, math.MinInt + 1, math.MinInt}, 3, 2, 1, 0)
	wantOrder(t, []int{1 << 32, 1 << 16, 1 << 8, 0, -1 << 8, -1 << 16, -1 << 32}, 6, 5, 4, 3, 2, 1, 0)
	wantOrder(t, []int{1<<53 + 1, 1 << 53}, 1, 0)
}

// TestOrderOfMany has enough numbers for a way of sorting that does not keep the order
// of equal ones to be seen.
func TestOrderOfMany(t *testing.T) {
	const n = 5000
	var ids, rise, fall, same []int
	for i := range n {
		ids, rise, fall, same = append(ids, (i*7)%5-2), append(rise, i), append(fall, -i), append(same, 9)
	}
	var down, wanted []int
	for i := range n {
		down = append(down, n-1-i)
	}
	for id := -2; id <= 2; id++ {
		for i := range n {
			if ids[i] == id {
				wanted = append(wanted, i)
			}
		}
	}
	wantOrder(t, rise, rise...)
	wantOrder(t, fall, down...)
	wantOrder(t, same, rise...)
	wantOrder(t, ids, wanted...)
}

// TestOrderOfFields has the numbers that IDs tells.
func TestOrderOfFields(t *testing.T) {
	ids, e := field.IDs([]api.Field{without("a"), own("b", 3), without("c"), own("d", 1), without("e"), own("f", 32767)})
	if e != api.OK {
		t.Fatalf("%d", e)
	}
	wantOrder(t, ids, 4, 2, 0, 3, 1, 5)
}
