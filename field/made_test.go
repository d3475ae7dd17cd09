package field_test

import (
	"math"
	"math/rand/v2"
	"slices"
	"strconv"
	"testing"

	"assayer/api"
	"assayer/field"
)

// told is what the chapter says of fields, told field by field from those before it.
func told(l []api.Field) (ids []int, e api.Errno) {
	for i, f := range l {
		if f.HasID && (f.ID < 1 || 32767 < f.ID) {
			return nil, api.ErrRange
		}
		for _, g := range l[:i] {
			if f.Name == g.Name || f.HasID && g.HasID && f.ID == g.ID {
				return nil, api.ErrTwice
			}
		}
	}
	for i, f := range l {
		id := int(f.ID)
		if !f.HasID {
			id = 0
			for _, g := range l[:i+1] {
				if !g.HasID {
					id--
				}
			}
		}
		ids = append(ids, id)
	}
	return ids, api.OK
}

// toldOrder puts each index where as many stand before it as have a less number, or the
// same one and stand before it.
func toldOrder(ids []int) []int {
	l := make([]int, len(ids))
	for i := range ids {
		at := 0
		for j := range ids {
			if ids[j] < ids[i] || ids[j] == ids[i] && j < i {
				at++
			}
		}
		l[at] = i
	}
	return l
}

// wantTold checks IDs and Order of fields, and that no two have the same number.
func wantTold(t *testing.T, l []api.Field) api.Errno {
	t.Helper()
	ids, e := field.IDs(l)
	want, wanted := told(l)
	if e != wanted || !slices.Equal(ids, want) {
		t.Fatalf("%s: %v, %d; not %v, %d", show(l), ids, e, want, wanted)
	}
	order := field.Order(ids)
	if !slices.Equal(order, toldOrder(ids)) {
		t.Fatalf("Order of %v: %v", ids, order)
	}
	for i := 1; i < len(order); i++ {
		if ids[order[i-1]] >= ids[order[i]] {
			t.Fatalf("%s: a number twice: %v", show(l), ids)
		}
	}
	return e
}

// TestAllSmallLists has all lists of up to five fields, with few names and numbers.
func TestAllSmallLists(t *testing.T) {
	t.Parallel()
	var some []api.Field
	for _, name := range []string{"a", "b", "c"} {
		some = append(some, without(name), own(name, 0), own(name, 1), own(name, 32767), own(name, 32768))
	}
	seen := map[api.Errno]int{}
	var extend func(l []api.Field)
	extend = func(l []api.Field) {
		seen[wantTold(t, l)]++
		if len(l) < 5 {
			for _, f := range some {
				extend(append(l[:len(l):len(l)], f))
			}
		}
	}
	extend(nil)
	if seen[api.OK] < 100 || seen[api.ErrRange] < 1000 || seen[api.ErrTwice] < 1000 || len(seen) != 3 {
		t.Errorf("%v", seen)
	}
}

// TestMadeLists has longer lists, of which some have an error.
func TestMadeLists(t *testing.T) {
	t.Parallel()
	r := rand.New(rand.NewPCG(12, 1))
	seen := map[api.Errno]int{}
	for range 30000 {
		n := r.IntN(40)
		var l []api.Field
		for i := range n {
			f := without("f" + strconv.Itoa(i))
			if f.HasID = r.IntN(2) == 0; f.HasID || r.IntN(3) == 0 {
				f.ID = 1 + int64(r.IntN(32767))
			}
			if i > 0 && r.IntN(100) == 0 {
				f.Name = l[r.IntN(i)].Name
			}
			if i > 0 && r.IntN(100) == 0 {
				f.ID = l[r.IntN(i)].ID
			}
			if r.IntN(150) == 0 {
				f.ID = []int64{0, -1, 32768, math.MinInt64, math.MaxInt64, 1<<32 + 5}[r.IntN(6)]
			}
			l = append(l, f)
		}
		seen[wantTold(t, l)]++
	}
	if seen[api.OK] < 5000 || seen[api.ErrRange] < 1000 || seen[api.ErrTwice] < 2000 || len(seen) != 3 {
		t.Errorf("%v", seen)
	}
}

// TestOrderOfAllSmallLists has all lists of up to six numbers out of six.
func TestOrderOfAllSmallLists(t *testing.T) {
	t.Parallel()
	some := []int{math.MinInt, -2, -1, 0, 1, math.MaxInt}
	var extend func(ids []int)
	extend = func(ids []int) {
		if l := field.Order(ids); !slices.Equal(l, toldOrder(ids)) {
			t.Fatalf("Order of %v: %v", ids, l)
		}
		if len(ids) < 6 {
			for _, id := range some {
				extend(append(ids[:len(ids):len(ids)], id))
			}
		}
	}
	extend(nil)
}

// TestOrderOfMadeLists has longer lists, of numbers of which many or few are equal.
func TestOrderOfMadeLists(t *testing.T) {
	t.Parallel()
	r := rand.New(rand.NewPCG(12, 2))
	for range 2000 {
		var ids []int
		n, shift := r.IntN(150), r.IntN(64)
		for range n {
			ids = append(ids, int(r.Uint64())>>shift)
		}
		if l := field.Order(ids); !slices.Equal(l, toldOrder(ids)) {
			t.Fatalf("Order of %v: %v", ids, l)
		}
	}
}
