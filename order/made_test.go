package order_test

import (
	"fmt"
	"math/big"
	"math/rand/v2"
	"slices"
	"strings"
	"testing"

	"assayer/api"
	"assayer/order"
)

// This file tells the chapter's words in another way, and holds Cmp, Normal and Is
// against them: each value has a text, and values are compared as their texts are.

// sortText is a text that is less than that of another number if the number is less.
func sortText(n int64, signed bool) string {
	x := big.NewInt(n)
	if signed {
		x.Add(x, new(big.Int).Lsh(big.NewInt(1), 63))
	} else if n < 0 {
		x.Add(x, new(big.Int).Lsh(big.NewInt(1), 64))
	}
	return fmt.Sprintf("%020d", x)
}

// textOf is the text of a value in which each struct has as many numbers as values.
// None is the beginning of another one.
func textOf(v api.Value) string {
	s := sortText(int64(v.Kind), true)
	switch v.Kind {
	case api.Bool, api.I8, api.I16, api.I32, api.I64, api.Enum:
		s += sortText(v.N, true)
	case api.Double:
		s += sortText(v.N, false)
	case api.String, api.Binary:
		s += fmt.Sprintf("%x ", v.S)
	case api.List, api.Set, api.Map:
		for _, part := range v.L {
			s += "+" + textOf(part)
		}
		s += "!"
	case api.Struct:
		for i, part := range v.L {
			s += "+" + sortText(int64(v.IDs[i]), true) + textOf(part)
		}
		s += "!"
	}
	return s
}

// aligned makes of two values such as have a text, and are compared as they are: of
// structs, where they are held against each other, a list of as many numbers and values
// as both have, and of how many values each has.
func aligned(a, b api.Value) (v, w api.Value) {
	v, w = api.Value{Kind: a.Kind, N: a.N, S: a.S}, api.Value{Kind: b.Kind, N: b.N, S: b.S}
	if a.Kind != b.Kind {
		return v, w
	}
	n := min(len(a.L), len(b.L))
	if a.Kind == api.Struct {
		n = min(n, len(a.IDs), len(b.IDs))
		v.Kind, w.Kind = api.List, api.List
	}
	for i := range n {
		if a.Kind == api.Struct {
			v.L, w.L = append(v.L, num(api.I64, int64(a.IDs[i]))), append(w.L, num(api.I64, int64(b.IDs[i])))
		}
		x, y := aligned(a.L[i], b.L[i])
		v.L, w.L = append(v.L, x), append(w.L, y)
	}
	if a.Kind == api.Struct {
		v.L, w.L = append(v.L, num(api.I64, int64(len(a.L)))), append(w.L, num(api.I64, int64(len(b.L))))
	} else {
		v.L, w.L = append(v.L, make([]api.Value, len(a.L)-n)...), append(w.L, make([]api.Value, len(b.L)-n)...)
	}
	return v, w
}

// told is what Cmp is to answer.
func told(a, b api.Value) int {
	v, w := aligned(a, b)
	return strings.Compare(textOf(v), textOf(w))
}

// toldNormal is what Normal is to answer: it gathers the parts by their texts.
func toldNormal(v api.Value) (w api.Value, e api.Errno) {
	if v.Kind < api.Struct || api.List < v.Kind {
		return v, api.OK
	}
	var parts []api.Value
	for _, part := range v.L {
		part, e := toldNormal(part)
		if e != api.OK {
			return api.Value{}, e
		}
		parts = append(parts, part)
	}
	if v.Kind == api.List {
		return api.Value{Kind: v.Kind, L: parts}, api.OK
	}
	if v.Kind == api.Map && len(parts)%2 == 1 || v.Kind == api.Struct && len(v.IDs) != len(parts) {
		return api.Value{}, api.ErrArg
	}
	entries, e := gathered(v, parts)
	if e != api.OK {
		return api.Value{}, e
	}
	var texts []string
	for s := range entries {
		texts = append(texts, s)
	}
	slices.Sort(texts)
	w.Kind = v.Kind
	for _, s := range texts {
		x := entries[s]
		w.L = append(w.L, x.parts...)
		if v.Kind == api.Struct {
			w.IDs = append(w.IDs, x.id)
		}
	}
	return w, api.OK
}

// entry is an element of a set, a pair of a map or a field of a struct.
type entry struct {
	id    int
	parts []api.Value
}

// gathered is the entries of a set, a map or a struct by the texts of what they are
// sorted by, or the error that two of them make together.
func gathered(v api.Value, parts []api.Value) (map[string]entry, api.Errno) {
	entries := map[string]entry{}
	step := 1
	if v.Kind == api.Map {
		step = 2
	}
	for i := 0; i < len(parts); i += step {
		x := entry{parts: parts[i : i+step]}
		s := textOf(parts[i])
		if v.Kind == api.Struct {
			x.id = v.IDs[i]
			s = sortText(int64(x.id), true)
		}
		y, is := entries[s]
		if is && (v.Kind == api.Struct || v.Kind == api.Map && textOf(x.parts[1]) != textOf(y.parts[1])) {
			return nil, api.ErrTwice
		}
		if !is {
			entries[s] = x
		}
	}
	return entries, api.OK
}

// wantTold checks Normal and Is of a value, and the same of its normal form; of values
// that are equal by Cmp any may be left.
func wantTold(t *testing.T, v api.Value) (e api.Errno, is bool) {
	t.Helper()
	want, wanted := toldNormal(v)
	w, e := order.Normal(v)
	if e != wanted || e != api.OK && !same(w, api.Value{}) {
		t.Fatalf("Normal of %s: %s, %d; not %s, %d", show(v), show(w), e, show(want), wanted)
	}
	if e != api.OK {
		if order.Is(v) {
			t.Fatalf("Is of %s, which has no normal form: true", show(v))
		}
		return e, false
	}
	if textOf(w) != textOf(want) || order.Cmp(w, want) != 0 {
		t.Fatalf("Normal of %s: %s, not %s", show(v), show(w), show(want))
	}
	if again, e := order.Normal(w); e != api.OK || !same(again, w) || !order.Is(w) {
		t.Fatalf("Normal of %s, which is normal: %s, %d; Is: %t", show(w), show(again), e, order.Is(w))
	}
	is = told(v, w) == 0
	if order.Is(v) != is {
		t.Fatalf("Is of %s: %t", show(v), !is)
	}
	if is && !same(v, w) {
		t.Fatalf("Normal of %s, which is normal: %s", show(v), show(w))
	}
	return e, is
}

// wantToldCmp checks Cmp of two values.
func wantToldCmp(t *testing.T, a, b api.Value) int {
	t.Helper()
	c := order.Cmp(a, b)
	if want := told(a, b); c != want {
		t.Fatalf("Cmp of %s and %s: %d, not %d", show(a), show(b), c, want)
	}
	return c
}

// listsOf is all lists of up to n of some things.
func listsOf[T any](n int, some ...T) [][]T {
	all := [][]T{nil}
	for from := 0; n > 0; n-- {
		to := len(all)
		for _, l := range all[from:to] {
			for _, x := range some {
				all = append(all, append(l[:len(l):len(l)], x))
			}
		}
		from = to
	}
	return all
}

// small is all values of up to n parts that are some given ones.
func small(n int, some ...api.Value) []api.Value {
	l := slices.Clone(some)
	for _, parts := range listsOf(n, some...) {
		for _, k := range listKinds {
			l = append(l, of(k, parts...))
		}
		for _, ids := range listsOf(n, 1, 2) {
			l = append(l, rec(ids, parts...))
		}
	}
	return l
}

// TestAllSmallValues has all values of up to four parts, of few kinds, and all of up to
// two parts that are such ones of up to two.
func TestAllSmallValues(t *testing.T) {
	t.Parallel()
	for _, some := range [][]api.Value{{i8(0), i8(1)}, {word(""), num(api.Double, -1)}, {num(api.Double, 0), num(api.Double, -1)}, {set(), i8s(api.Set, 2, 1)}, {i8s(api.Map, 1), i8(1)}} {
		for _, v := range small(4, some...) {
			wantTold(t, v)
		}
	}
	inner := small(2, i8(0), i8(1))
	counts := map[api.Errno]int{}
	for _, v := range small(2, inner...) {
		e, _ := wantTold(t, v)
		counts[e]++
	}
	if counts[api.OK] < 5000 || counts[api.ErrArg] < 5000 || counts[api.ErrTwice] < 5000 {
		t.Errorf("too few of a sort: %v", counts)
	}
}

func TestCmpOfAllSmallValues(t *testing.T) {
	t.Parallel()
	l := slices.Concat(small(2, i8(0), i8(1)), small(2, word(""), word("a")), small(1, num(api.Double, 1), num(api.Double, -1), num(99, 1), num(99, 2)), small(1, rec([]int{1}), rec(nil, i8(1)), rec([]int{1}, i8(0)), set(), i8s(api.Map, 1)))
	counts := map[int]int{}
	for _, a := range l {
		for _, b := range l {
			counts[wantToldCmp(t, a, b)]++
		}
	}
	if counts[-1] < 10000 || counts[-1] != counts[1] || counts[0] < 1000 {
		t.Errorf("too few of a sort: %v", counts)
	}
}

// maker makes values; few are unlike, so that many are equal.
type maker struct {
	*rand.Rand
	wrong int // of a hundred maps or structs, so many have a part too many or two equal numbers
}

func (m maker) value(depth int) api.Value {
	if depth == 0 || m.IntN(3) == 0 {
		return m.plain()
	}
	n := m.IntN(5)
	switch k := listKinds[m.IntN(3)]; m.IntN(4) {
	case 0:
		return m.record(depth, n)
	default:
		if k == api.Map && m.IntN(100) >= m.wrong {
			return m.dict(depth, n)
		}
		v := api.Value{Kind: k}
		for range n {
			v.L = append(v.L, m.value(depth-1))
		}
		return v
	}
}

func (m maker) plain() api.Value {
	switch m.IntN(8) {
	case 0:
		return word([]string{"", "a", "\x80"}[m.IntN(3)])
	case 1:
		return num(api.Double, int64(m.IntN(3)-1))
	case 2:
		return num(99, 5)
	case 3:
		return text(api.Binary, "a")
	default:
		return i8(int64(m.IntN(5) - 2))
	}
}

// dict is a map; two pairs of it with equal keys have the same value.
func (m maker) dict(depth, n int) api.Value {
	v := pairs()
	for range n {
		x, y := m.value(depth-1), m.value(depth-1)
		for i := 0; i < len(v.L); i += 2 {
			a, e := order.Normal(x)
			b, f := order.Normal(v.L[i])
			if e == api.OK && f == api.OK && order.Cmp(a, b) == 0 {
				y = v.L[i+1]
			}
		}
		v.L = append(v.L, x, y)
	}
	return v
}

// record is a struct.
func (m maker) record(depth, n int) api.Value {
	v := rec(m.Perm(n + 1)[:n])
	for range n {
		v.L = append(v.L, m.value(depth-1))
	}
	if m.IntN(100) < m.wrong {
		switch m.IntN(3) {
		case 0:
			v.IDs = append(v.IDs, 7)
		case 1:
			v.L = append(v.L, i8(0))
		default:
			v.IDs, v.L = append(v.IDs, 8, 9, 8), append(v.L, i8(0), i8(0), i8(0))
		}
	}
	return v
}

// few changes a value a little, or not at all.
func (m maker) few(v api.Value) api.Value {
	v = order.Copy(v)
	if len(v.L) == 0 || m.IntN(4) == 0 {
		if m.IntN(3) == 0 {
			v.N++
		}
		return v
	}
	switch i := m.IntN(len(v.L)); m.IntN(6) {
	case 0:
		v.L = v.L[:i]
	case 1:
		v.L = append(v.L, m.plain())
	case 2:
		if len(v.IDs) > 0 {
			v.IDs[m.IntN(len(v.IDs))] += m.IntN(3) - 1
		}
	default:
		v.L[i] = m.few(v.L[i])
	}
	return v
}

func TestMadeValues(t *testing.T) {
	t.Parallel()
	counts := map[string]int{}
	for i := range 40000 {
		m := maker{rand.New(rand.NewPCG(13, uint64(i))), 10 * (i % 2)}
		v := m.value(1 + i%4)
		e, is := wantTold(t, v)
		counts[fmt.Sprintf("error %d, normal %t, of kind %d", e, is, v.Kind)]++
		w, e := order.Normal(v)
		if e != api.OK {
			continue
		}
		// In any order the parts of a set have the same normal form.
		if v.Kind == api.Set {
			shuffled := order.Copy(v)
			m.Shuffle(len(v.L), func(i, j int) { shuffled.L[i], shuffled.L[j] = shuffled.L[j], shuffled.L[i] })
			if x, e := order.Normal(shuffled); e != api.OK || order.Cmp(x, w) != 0 {
				t.Fatalf("Normal of %s: %s, %d; in another order %s", show(shuffled), show(x), e, show(w))
			}
		}
	}
	for _, k := range append(listKinds, api.Struct) {
		for _, s := range []string{"error 0, normal true", "error 0, normal false", "error 1, normal false", "error 8, normal false"} {
			if s += fmt.Sprintf(", of kind %d", k); counts[s] < 60 {
				t.Errorf("too few values: %s: %d", s, counts[s])
			}
		}
	}
}

func TestCmpOfMadeValues(t *testing.T) {
	t.Parallel()
	counts := map[int]int{}
	for i := range 40000 {
		m := maker{rand.New(rand.NewPCG(14, uint64(i))), 10 * (i % 3)}
		a := m.value(1 + i%4)
		b := m.few(a)
		c := wantToldCmp(t, a, b)
		counts[c]++
		if wantToldCmp(t, b, a) != -c || wantToldCmp(t, a, a) != 0 {
			t.Fatalf("Cmp of %s and %s, and the other way", show(a), show(b))
		}
	}
	if counts[-1] < 3000 || counts[0] < 3000 || counts[1] < 3000 {
		t.Errorf("too few of a sort: %v", counts)
	}
}

// TestAnOrder has normal values, any three of which go together.
func TestAnOrder(t *testing.T) {
	t.Parallel()
	for i := range 2000 {
		m := maker{rand.New(rand.NewPCG(15, uint64(i))), 0}
		var l []api.Value
		for len(l) < 3 {
			v := m.value(2)
			if len(l) > 0 {
				v = m.few(l[0])
			}
			if w, e := order.Normal(v); e == api.OK {
				l = append(l, w)
			}
		}
		slices.SortFunc(l, order.Cmp)
		if order.Cmp(l[0], l[1]) > 0 || order.Cmp(l[1], l[2]) > 0 || order.Cmp(l[0], l[2]) > 0 {
			t.Fatalf("no order: %s, %s, %s", show(l[0]), show(l[1]), show(l[2]))
		}
	}
}
