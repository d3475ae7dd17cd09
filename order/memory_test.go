package order_test

import (
	"slices"
	"strings"
	"testing"
	"unsafe"

	"assayer/api"
	"assayer/order"
)

// own is a copy of a text that is no constant's memory.
func own(s string) string { return string([]byte(s)) }

// great has values of all kinds in each other, some in normal form and some not.
func great() api.Value {
	odd := api.Value{Kind: 99, N: 7, S: own("odd"), L: []api.Value{word(own("inner")), i8s(api.Map, 1)}, IDs: []int{5, 5}}
	number := api.Value{Kind: api.I16, N: 4, S: own("number"), L: []api.Value{i8(1)}, IDs: []int{3}}
	s := set(word(own("b")), word(own("a")), word(own("b")), text(api.Binary, own("c")))
	m := pairs(word(own("key")), i8s(api.Set, 3, 2, 1), i8(2), odd, i8(2), odd)
	r := rec([]int{9, -2, 4}, s, m, list(odd, number))
	return list(s, m, r, rec([]int{1, 2}, i8(0), number), set(r), i8s(api.Set, 1, 2), list(), odd)
}

// values are some with a normal form, and some without.
func values() []api.Value {
	l := []api.Value{{}, great(), order.Copy(great()), set(great(), great()), pairs(great(), great()), rec([]int{2, 1}, great(), great()), list(great()), i8s(api.Set, 2, 1, 2), word(own("text"))}
	for _, f := range faults() {
		l = append(l, f.v, list(great(), f.v))
	}
	return l
}

// roomy is a copy of a value, with a list behind each list's end that is not empty.
func roomy(v api.Value) api.Value {
	w := api.Value{Kind: v.Kind, N: v.N, S: own(v.S)}
	for _, part := range v.L {
		w.L = append(w.L, roomy(part))
	}
	w.L = append(w.L, i8(77), i8s(api.Map, 1, 2, 3))[:len(v.L)]
	w.IDs = append(append(w.IDs, v.IDs...), 77, -77)[:len(v.IDs)]
	return w
}

// whole is a copy of a value, with what is in the unused ends of its lists.
func whole(v api.Value) api.Value {
	w := api.Value{Kind: v.Kind, N: v.N, S: own(v.S)}
	for _, part := range v.L[:cap(v.L)] {
		w.L = append(w.L, whole(part))
	}
	w.IDs = append(w.IDs, v.IDs[:cap(v.IDs)]...)
	return w
}

// spoil changes all that is in a value, in its place, with the unused ends of its lists.
func spoil(v *api.Value) {
	for i := range v.L[:cap(v.L)] {
		spoil(&v.L[:cap(v.L)][i])
	}
	for i := range v.IDs[:cap(v.IDs)] {
		v.IDs[:cap(v.IDs)][i] += 1000
	}
	v.Kind, v.N, v.S = v.Kind+1, v.N+1, v.S+"x"
}

// span is memory: of a list's elements, or of a text's bytes.
type span struct{ from, to uintptr }

func spanOf[T any](first *T, n int) []span {
	if n == 0 {
		return nil
	}
	from := uintptr(unsafe.Pointer(first))
	return []span{{from, from + uintptr(n)*unsafe.Sizeof(*first)}}
}

// spans is the memory of all lists and texts in a value.
func spans(v api.Value) []span {
	l := slices.Concat(spanOf(unsafe.StringData(v.S), len(v.S)), spanOf(unsafe.SliceData(v.L), cap(v.L)), spanOf(unsafe.SliceData(v.IDs), cap(v.IDs)))
	for _, part := range v.L {
		l = append(l, spans(part)...)
	}
	return l
}

// wantApart checks that no memory of l is memory of m.
func wantApart(t *testing.T, what string, l, m []span) {
	t.Helper()
	for _, x := range l {
		for _, y := range m {
			if x.from < y.to && y.from < x.to {
				t.Fatalf("%s share memory", what)
			}
		}
	}
}

// answer is what Normal or Copy tells.
type answer struct {
	w api.Value
	e api.Errno
}

func (a answer) equal(b answer) bool { return a.e == b.e && same(a.w, b.w) }

// asks are the functions whose answers are values.
func asks() map[string]func(v api.Value) answer {
	return map[string]func(v api.Value) answer{
		"Normal": func(v api.Value) answer {
			w, e := order.Normal(v)
			return answer{w, e}
		},
		"Copy": func(v api.Value) answer { return answer{w: order.Copy(v)} },
	}
}

func TestArgumentsAreNotChanged(t *testing.T) {
	for i, v := range values() {
		v = roomy(v)
		before := whole(v)
		want, wanted := order.Normal(values()[i])
		w, e := order.Normal(v)
		is, x := order.Is(v), order.Copy(v)
		c := order.Cmp(v, values()[i])
		d := order.Cmp(values()[i], v)
		if !same(whole(v), before) {
			t.Errorf("%s: an argument was changed", show(v))
		}
		if e != wanted || !same(w, want) || is != order.Is(values()[i]) || !same(x, values()[i]) || c != 0 || d != 0 {
			t.Errorf("%s: what is behind a list's end counts", show(v))
		}
	}
}

func TestAnswersAreNewMemory(t *testing.T) {
	for name, ask := range asks() {
		for _, v := range values() {
			before := whole(v)
			a, b := ask(v), ask(v)
			l := spans(a.w)
			wantApart(t, "an argument and an answer of "+name, spans(v), l)
			wantApart(t, "two answers of "+name, l, spans(b.w))
			for i := range l {
				wantApart(t, "lists of an answer of "+name, l[i:i+1], l[i+1:])
			}
			want := whole(b.w)
			spoil(&a.w)
			if !same(whole(b.w), want) || !ask(v).equal(b) {
				t.Errorf("%s of %s: what is done to an answer changes another one", name, show(v))
			}
			if !same(whole(v), before) {
				t.Errorf("%s of %s: what is done to an answer changes the argument", name, show(v))
			}
		}
	}
}

// TestArgumentsAreNotKept changes what was handed in, and asks what is told of it then.
func TestArgumentsAreNotKept(t *testing.T) {
	for name, ask := range asks() {
		for i := range values() {
			v := values()[i]
			a := ask(v)
			want := whole(a.w)
			spoil(&v)
			if !same(whole(a.w), want) {
				t.Errorf("%s of %s: what is done to the argument changes the answer", name, show(v))
			}
			if !ask(values()[i]).equal(a) {
				t.Errorf("%s of %s: another answer than before", name, show(values()[i]))
			}
		}
	}
}

// TestSharedMemory has one list in several places of a value.
func TestSharedMemory(t *testing.T) {
	inner := i8s(api.Set, 3, 1, 2)
	ids := []int{2, 1}
	v := list(inner, inner, rec(ids, inner, inner), rec(ids, inner, inner), list(inner.L...), of(99, inner, inner))
	for name, ask := range asks() {
		a := ask(v)
		l := spans(a.w)
		for i := range l {
			wantApart(t, "lists of an answer of "+name, l[i:i+1], l[i+1:])
		}
		if other := ask(roomy(v)); !other.equal(a) {
			t.Errorf("%s: %s with shared lists, and %s", name, show(a.w), show(other.w))
		}
	}
}

// TestAnswersHangOnTheArgumentsAlone asks for all, after one another, in all orders.
func TestAnswersHangOnTheArgumentsAlone(t *testing.T) {
	l := values()
	for _, v := range l {
		a, b, is := asks()["Normal"](v), asks()["Copy"](v), order.Is(v)
		for _, w := range l {
			c := order.Cmp(v, w)
			order.Normal(w)
			order.Copy(w)
			order.Is(w)
			if !asks()["Normal"](v).equal(a) || !asks()["Copy"](v).equal(b) || order.Is(v) != is || order.Cmp(v, w) != c {
				t.Fatalf("%s after %s has another answer", show(v), show(w))
			}
		}
	}
}

func TestNoListsAndEmptyOnes(t *testing.T) {
	for _, k := range []int{api.I8, api.String, api.List, api.Set, api.Map, api.Struct, 0} {
		v, w := api.Value{Kind: k}, api.Value{Kind: k, L: []api.Value{}, IDs: []int{}}
		wantCmp(t, v, w, 0)
		wantIs(t, v)
		wantIs(t, w)
		wantApart(t, "an argument and an answer", spans(w), spans(order.Copy(w)))
	}
}

// TestDeepValues has as many levels of nesting as any value may have.
func TestDeepValues(t *testing.T) {
	t.Parallel()
	const levels = 1 << 16
	for _, around := range []func(v api.Value) api.Value{
		func(v api.Value) api.Value { return list(v) },
		func(v api.Value) api.Value { return set(v, i8(2)) },
		func(v api.Value) api.Value { return pairs(v, i8(2)) },
		func(v api.Value) api.Value { return pairs(i8(5), i8(4), i8(2), v) },
		func(v api.Value) api.Value { return rec([]int{2, 1}, i8(0), v) },
		func(v api.Value) api.Value { return of(api.I8, v) },
	} {
		v, w := i8(1), i8(2)
		for range levels {
			v, w = around(v), around(w)
		}
		want := -1
		if v.Kind == api.I8 {
			want = 0
		}
		if order.Cmp(v, w) != want || order.Cmp(w, v) != -want || order.Cmp(order.Copy(v), v) != 0 {
			t.Errorf("Cmp of deep values of kind %d", v.Kind)
		}
		x, e := order.Normal(v)
		y, f := order.Normal(x)
		if e != api.OK || f != api.OK || order.Cmp(x, y) != 0 || !order.Is(x) || order.Is(v) != (order.Cmp(v, x) == 0) {
			t.Errorf("Normal of a deep value of kind %d: %d, %d", v.Kind, e, f)
		}
		if _, e := order.Normal(list(v, i8s(api.Map, 1))); e != api.ErrArg {
			t.Errorf("Normal of a deep value, and one without a normal form: %d", e)
		}
	}
	bad := i8s(api.Map, 1)
	for range levels {
		bad = list(bad)
	}
	if w, e := order.Normal(bad); e != api.ErrArg || len(w.L) != 0 || order.Is(bad) {
		t.Errorf("Normal of an error deep in a value: %d", e)
	}
}

// TestLongValues has very many parts, and very long texts.
func TestLongValues(t *testing.T) {
	t.Parallel()
	const n = 100000
	var down, twice, up, m, r api.Value
	down.Kind, twice.Kind, up.Kind, m.Kind, r.Kind = api.Set, api.Set, api.Set, api.Map, api.Struct
	for i := range int64(n) {
		up.L = append(up.L, i8(i))
		down.L = append(down.L, i8(n-1-i))
		twice.L = append(twice.L, i8(i*7919%n), i8(i))
		m.L = append(m.L, i8(n-1-i), i8(i))
		r.L = append(r.L, i8(i))
		r.IDs = append(r.IDs, int(n-1-i))
	}
	for _, v := range []api.Value{up, down, twice} {
		if w, e := order.Normal(v); e != api.OK || order.Cmp(w, up) != 0 {
			t.Errorf("Normal of a long set: %d elements, %d", len(w.L), e)
		}
	}
	if !order.Is(up) || order.Is(down) || order.Is(twice) || order.Is(m) || order.Is(r) {
		t.Error("Is of long values")
	}
	if w, e := order.Normal(m); e != api.OK || len(w.L) != 2*n || w.L[0].N != 0 || w.L[1].N != n-1 || !order.Is(w) {
		t.Errorf("Normal of a long map: %d, %d", len(w.L), e)
	}
	if w, e := order.Normal(r); e != api.OK || len(w.L) != n || len(w.IDs) != n || w.IDs[0] != 0 || w.L[0].N != n-1 || !order.Is(w) {
		t.Errorf("Normal of a long struct: %d, %d, %d", len(w.L), len(w.IDs), e)
	}
	m.L = append(m.L, i8(7), i8(-1))
	r.L, r.IDs = append(r.L, i8(0)), append(r.IDs, 7)
	wantError(t, m, api.ErrTwice)
	wantError(t, r, api.ErrTwice)

	long := strings.Repeat("a", 1<<22)
	wantNot(t, set(word(long+"b"), word(long), word(long)), set(word(long), word(long+"b")))
}
