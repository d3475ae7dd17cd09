package field_test

import (
	"reflect"
	"slices"
	"strconv"
	"strings"
	"testing"
	"unsafe"

	"assayer/api"
	"assayer/field"
)

// lists are some without an error, and some with one.
func lists() [][]api.Field {
	c := api.Const{Kind: api.ConList, L: []api.Const{{Kind: api.ConInt, N: 5}, {Kind: api.ConText, S: "t"}}}
	a := api.Field{HasID: true, ID: 7, Req: api.ReqOptional, Type: "list<i8>", Name: "a", HasInit: true, Init: c}
	b := api.Field{ID: 3, Req: api.ReqRequired, Type: "i8", Name: "b", HasInit: true, Init: c}
	return [][]api.Field{
		nil, {a}, {b}, {a, b}, {b, a}, {b, own("c", 1), a, without("d")}, fill(30, "f"),
		{a, a}, {b, b}, {a, b, own("c", 7)}, {b, own("c", 0)}, {a, b, own("d", 32768), without("e")},
	}
}

// numbers are lists of numbers.
func numbers() [][]int {
	return [][]int{nil, {1}, {2, 1}, {1, 2}, {3, 3, 3}, {5, -1, 3, 5, -2, 3}, {30, 29, 28, 27, 26, 25, 24, 23, 22, 21, 20, 19, 18, 17, 16, 15, 14}}
}

// copied is a copy of fields, with all that is in them.
func copied(l []api.Field) []api.Field {
	l = slices.Clone(l)
	for i := range l {
		l[i].Init.L = slices.Clone(l[i].Init.L)
	}
	return l
}

// apart tells whether lists of numbers share no memory.
func apart(l, m []int) bool {
	if cap(l) == 0 || cap(m) == 0 {
		return true
	}
	x, y := uintptr(unsafe.Pointer(unsafe.SliceData(l))), uintptr(unsafe.Pointer(unsafe.SliceData(m)))
	size := unsafe.Sizeof(int(0))
	return x+uintptr(cap(l))*size <= y || y+uintptr(cap(m))*size <= x
}

func TestFieldsAreNotChanged(t *testing.T) {
	behind := []api.Field{own("behind", 44), without("behind too")}
	for _, l := range lists() {
		roomy := append(copied(l), copied(behind)...)[:len(l)]
		before := copied(roomy[:len(l)+2])
		ids, e := field.IDs(roomy)
		if !reflect.DeepEqual(roomy[:len(l)+2], before) {
			t.Errorf("%s: an argument was changed", show(l))
		}
		want, wanted := field.IDs(l)
		if e != wanted || !slices.Equal(ids, want) {
			t.Errorf("%s: what is behind it counts: %v, %d", show(l), ids, e)
		}
	}
}

func TestNumbersAreNotChanged(t *testing.T) {
	for _, ids := range numbers() {
		roomy := append(slices.Clone(ids), -77, 99)[:len(ids)]
		before := slices.Clone(roomy[:len(ids)+2])
		l := field.Order(roomy)
		if !slices.Equal(roomy[:len(ids)+2], before) {
			t.Errorf("Order of %v: an argument was changed", ids)
		}
		if !slices.Equal(l, field.Order(ids)) {
			t.Errorf("Order of %v: what is behind it counts: %v", ids, l)
		}
		if !apart(l, roomy) {
			t.Errorf("Order of %v: an argument and an answer share memory", ids)
		}
	}
}

func TestAnswersAreNewMemory(t *testing.T) {
	for _, l := range lists() {
		x, _ := field.IDs(l)
		y, _ := field.IDs(l)
		if !apart(x, y) {
			t.Errorf("%s: two answers share memory", show(l))
		}
		want := slices.Clone(y)
		for i := range x[:cap(x)] {
			x[:cap(x)][i] = 12345
		}
		if z, _ := field.IDs(l); !slices.Equal(y, want) || !slices.Equal(z, want) {
			t.Errorf("%s: what is done to an answer changes another one", show(l))
		}
	}
	for _, ids := range numbers() {
		x, y := field.Order(ids), field.Order(ids)
		if !apart(x, y) {
			t.Errorf("Order of %v: two answers share memory", ids)
		}
		want := slices.Clone(y)
		for i := range x[:cap(x)] {
			x[:cap(x)][i] = 12345
		}
		if !slices.Equal(y, want) || !slices.Equal(field.Order(ids), want) {
			t.Errorf("Order of %v: what is done to an answer changes another one", ids)
		}
	}
}

// TestAnswersHangOnTheArgumentsAlone asks for all, after one another, in all orders.
func TestAnswersHangOnTheArgumentsAlone(t *testing.T) {
	for i, l := range lists() {
		ids, e := field.IDs(l)
		for j, m := range lists() {
			field.IDs(m)
			field.Order(numbers()[j%len(numbers())])
			if again, f := field.IDs(l); f != e || !slices.Equal(again, ids) {
				t.Fatalf("%d after %d has another answer", i, j)
			}
		}
	}
	for i, ids := range numbers() {
		l := field.Order(ids)
		for j, other := range numbers() {
			field.Order(other)
			if !slices.Equal(field.Order(ids), l) {
				t.Fatalf("%d after %d has another order", i, j)
			}
		}
	}
}

// TestFarTooManyFields has far more of them than a struct may have, and very long names.
func TestFarTooManyFields(t *testing.T) {
	const n = 100000
	l := fill(n, "f")
	ids, e := field.IDs(l)
	if e != api.OK || len(ids) != n || ids[0] != -1 || ids[n-1] != -n {
		t.Errorf("%d numbers, %d", len(ids), e)
	}
	if order := field.Order(ids); len(order) != n || order[0] != n-1 || order[n-1] != 0 {
		t.Errorf("%d indices", len(order))
	}
	wantError(t, api.ErrTwice, append(l, without("f77"))...)
	wantError(t, api.ErrRange, append(l, own("f77", 1<<40))...)

	long := strings.Repeat("a", 1<<20)
	l = nil
	for i := range 20 {
		l = append(l, own(long+strconv.Itoa(i), int64(20-i)))
	}
	if ids, e := field.IDs(l); e != api.OK || len(ids) != 20 || ids[19] != 1 {
		t.Errorf("%v, %d", ids, e)
	}
	wantError(t, api.ErrTwice, append(l, without(long+"7"))...)
}

// TestAConstantWithItselfInIt has fields that no file has.
func TestAConstantWithItselfInIt(t *testing.T) {
	circle := api.Const{Kind: api.ConList, L: make([]api.Const, 2)}
	circle.L[0], circle.L[1] = circle, circle
	a, b := without("a"), own("b", 4)
	a.HasInit, a.Init, b.HasInit, b.Init = true, circle, true, circle
	wantIDs(t, []api.Field{a, b}, -1, 4)
	wantError(t, api.ErrTwice, a, b, a)
}
