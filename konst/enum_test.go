package konst_test

import (
	"math"
	"math/big"
	"slices"
	"strconv"
	"strings"
	"testing"

	"assayer/api"
	"assayer/konst"
)

// with is a member with a number of its own.
func with(name string, n int64) api.Member { return api.Member{Name: name, Has: true, N: n} }

// without is a member without a number.
func without(name string) api.Member { return api.Member{Name: name} }

func enum(l ...api.Member) api.Def { return api.Def{Kind: api.DefEnum, Name: "E", Members: l} }

// wantMembers checks the members that an enum has, by its members as they are written.
func wantMembers(t *testing.T, l []api.Member, want ...api.Member) {
	t.Helper()
	if m, e := konst.Enum(enum(l...)); e != api.OK || !slices.Equal(m, want) {
		t.Errorf("Enum of %s: %s, %d; not %s", cut(l), cut(m), e, cut(want))
	}
}

// wantNoMembers checks that an enum has an error.
func wantNoMembers(t *testing.T, e api.Errno, l ...api.Member) {
	t.Helper()
	if m, got := konst.Enum(enum(l...)); got != e || len(m) > 0 {
		t.Errorf("Enum of %s: %s, %d; not %d", cut(l), cut(m), got, e)
	}
}

func TestEnumsWithoutNumbers(t *testing.T) {
	wantMembers(t, []api.Member{without("A")}, with("A", 0))
	wantMembers(t, []api.Member{without("C"), without("B"), without("A")}, with("C", 0), with("B", 1), with("A", 2))
	var l, want []api.Member
	for i := range int64(api.MaxFields) {
		name := "M" + strconv.Itoa(int(i))
		l, want = append(l, without(name)), append(want, with(name, i))
	}
	wantMembers(t, l, want...)
}

func TestEnumsWithNumbers(t *testing.T) {
	wantMembers(t, []api.Member{with("A", 5)}, with("A", 5))
	wantMembers(t, []api.Member{with("A", 5), with("B", -5), with("C", 0)}, with("B", -5), with("C", 0), with("A", 5))
	wantMembers(t, []api.Member{with("A", 0), without("B"), with("C", 7), without("D"), without("E"), with("F", 2), without("G")},
		with("A", 0), with("B", 1), with("F", 2), with("G", 3), with("C", 7), with("D", 8), with("E", 9))
	wantMembers(t, []api.Member{with("A", -2), without("B"), without("C"), without("D")}, with("A", -2), with("B", -1), with("C", 0), with("D", 1))
	wantMembers(t, []api.Member{with("A", 300), with("B", 44), with("C", 256), with("D", 65536)}, with("B", 44), with("C", 256), with("A", 300), with("D", 65536))
}

// TestNumbersThatDoNotCount has numbers where Has says that there is none.
func TestNumbersThatDoNotCount(t *testing.T) {
	wantMembers(t, []api.Member{{Name: "A", N: 9}, {Name: "B", N: 9}, {Name: "C", N: 1 << 40}}, with("A", 0), with("B", 1), with("C", 2))
	wantMembers(t, []api.Member{with("A", 4), {Name: "B", N: 4}, {Name: "C", N: -1}}, with("A", 4), with("B", 5), with("C", 6))
}

func TestBoundsOfMembers(t *testing.T) {
	const least, great = math.MinInt32, math.MaxInt32
	wantMembers(t, []api.Member{with("A", great), with("B", least)}, with("B", least), with("A", great))
	wantMembers(t, []api.Member{with("A", great-1), without("B")}, with("A", great-1), with("B", great))
	wantMembers(t, []api.Member{with("A", least), without("B")}, with("A", least), with("B", least+1))
	for _, n := range []int64{least - 1, least - 2, great + 1, great + 2, 1 << 32, 1<<32 + 5, -1 << 32, 1 << 40, -1 << 40, math.MinInt64, math.MinInt64 + 1, math.MaxInt64, math.MaxInt64 - 1} {
		wantNoMembers(t, api.ErrRange, with("A", n))
		wantNoMembers(t, api.ErrRange, with("A", n), without("B"))
		wantNoMembers(t, api.ErrRange, without("A"), with("B", 7), with("C", n))
	}
	wantNoMembers(t, api.ErrRange, with("A", great), without("B"))
	wantNoMembers(t, api.ErrRange, with("A", great-1), without("B"), without("C"))
	wantNoMembers(t, api.ErrRange, with("A", great), without("B"), with("C", 1))
}

func TestNoMembers(t *testing.T) {
	wantNoMembers(t, api.ErrEmpty)
	wantNoMembers(t, api.ErrEmpty, []api.Member{}...)
	wantNoMembers(t, api.ErrEmpty, []api.Member{with("A", 1<<40)}[:0]...)
}

func TestMembersTwice(t *testing.T) {
	for _, l := range [][]api.Member{
		{with("A", 1), with("B", 1)}, {with("A", 1), with("A", 2)}, {with("A", 1), with("A", 1)},
		{without("A"), without("A")}, {without("A"), with("B", 0)}, {with("A", 1), with("B", 0), without("C")},
		{with("A", 2), with("B", 1), with("C", -3), with("D", 2)}, {without("A"), without("B"), without("C"), with("D", 1)}, {without("A"), with("B", -1), without("C")},
		{without("A"), without("B"), without("C"), without("A")}, {with("", 1), with("", 2)}, {with("A", 1), with("B", 2), with("B", 1)},
	} {
		wantNoMembers(t, api.ErrTwice, l...)
		wantNoMembers(t, api.ErrTwice, append(l, without("Y"), with("Z", 1<<40))...)
		wantNoMembers(t, api.ErrTwice, append([]api.Member{with("Y", -9), with("Z", -1)}, append(l, without("X"))...)...)
	}
	wantMembers(t, []api.Member{with("A", 1), with("a", 2), with("AA", 3), with("", 4)}, with("A", 1), with("a", 2), with("AA", 3), with("", 4))
}

// TestTheEarlierMemberCounts has two errors, in one member or in two.
func TestTheEarlierMemberCounts(t *testing.T) {
	wantNoMembers(t, api.ErrRange, without("A"), with("A", 1<<40))
	wantNoMembers(t, api.ErrRange, with("A", math.MaxInt32), without("A"))
	wantNoMembers(t, api.ErrRange, with("A", 1<<40), with("B", 1<<40))
	wantNoMembers(t, api.ErrRange, with("A", 1<<40), with("A", 1))
	wantNoMembers(t, api.ErrRange, with("A", 1), with("B", 1<<40), with("C", 1))
	wantNoMembers(t, api.ErrTwice, with("A", 1), with("B", 1), with("C", 1<<40))
	wantNoMembers(t, api.ErrTwice, with("A", 1), without("A"), with("C", math.MinInt64))
}

// TestTheRestOfADefinition has enums with something in what is not their members.
func TestTheRestOfADefinition(t *testing.T) {
	d := api.Def{Kind: api.DefEnum, Name: "A", Type: "i8", Init: whole(4), Fields: []api.Field{{Name: "A", Type: "i8"}}, Members: []api.Member{with("B", 2), without("A")}}
	if m, e := konst.Enum(d); e != api.OK || !slices.Equal(m, []api.Member{with("B", 2), with("A", 3)}) {
		t.Errorf("%v, %d", m, e)
	}
	d.Members = nil
	if m, e := konst.Enum(d); e != api.ErrEmpty || len(m) > 0 {
		t.Errorf("%v, %d", m, e)
	}
}

// told is what Enum is to answer: the chapter's words, told member by member without maps,
// with each number counted from the last one that is written.
func told(l []api.Member) (m []api.Member, e api.Errno) {
	if len(l) == 0 {
		return nil, api.ErrEmpty
	}
	for i, x := range l {
		n, since := big.NewInt(0), i
		for j := range i + 1 {
			if l[j].Has {
				n, since = big.NewInt(l[j].N), i-j
			}
		}
		n.Add(n, big.NewInt(int64(since)))
		if n.Cmp(big.NewInt(-1<<31)) < 0 || n.Cmp(big.NewInt(1<<31-1)) > 0 {
			return nil, api.ErrRange
		}
		at := len(m)
		for j, y := range m {
			if y.Name == x.Name || y.N == n.Int64() {
				return nil, api.ErrTwice
			}
			if y.N > n.Int64() && at == len(m) {
				at = j
			}
		}
		m = slices.Insert(m, at, with(x.Name, n.Int64()))
	}
	return m, api.OK
}

func wantTold(t *testing.T, l []api.Member) api.Errno {
	t.Helper()
	m, e := told(l)
	if e == api.OK {
		wantMembers(t, l, m...)
	} else {
		wantNoMembers(t, e, l...)
	}
	return e
}

// TestAllSmallEnums has all lists of up to four members, with few names and numbers.
func TestAllSmallEnums(t *testing.T) {
	t.Parallel()
	var members []api.Member
	for _, name := range []string{"A", "B", "C", "D"} {
		members = append(members, without(name), with(name, -1), with(name, 1), with(name, math.MaxInt32-1), with(name, math.MinInt32), with(name, math.MaxInt32+1))
	}
	count := map[api.Errno]int{}
	lists := [][]api.Member{nil}
	for range 4 {
		var longer [][]api.Member
		for _, l := range lists {
			count[wantTold(t, l)]++
			if len(l) == 3 && l[0].Name != "A" { // the names are alike
				continue
			}
			for _, m := range members {
				longer = append(longer, append(slices.Clip(l), m))
			}
		}
		lists = longer
	}
	for _, l := range lists {
		count[wantTold(t, l)]++
	}
	for _, e := range []api.Errno{api.OK, api.ErrRange, api.ErrTwice, api.ErrEmpty} {
		if count[e] == 0 {
			t.Errorf("what was found: %v", count)
		}
	}
}

// TestFarTooManyMembers has far more of them than an enum may have, and very long names.
func TestFarTooManyMembers(t *testing.T) {
	t.Parallel()
	const n = 100000
	l := []api.Member{with("first", 1<<31-n)}
	for i := range n - 1 {
		l = append(l, without("M"+strconv.Itoa(i)))
	}
	if m, e := konst.Enum(enum(l...)); e != api.OK || len(m) != n || m[n-1] != with("M"+strconv.Itoa(n-2), math.MaxInt32) {
		t.Errorf("%d members, %d", len(m), e)
	}
	wantNoMembers(t, api.ErrRange, append(l, without("M7"))...)
	wantNoMembers(t, api.ErrTwice, append(l, with("M7", 1))...)
	long := strings.Repeat("a", 1<<20)
	wantMembers(t, []api.Member{with(long+"1", 2), with(long+"2", 1), with(long, 0)}, with(long, 0), with(long+"2", 1), with(long+"1", 2))
	wantNoMembers(t, api.ErrTwice, with(long+"1", 2), with(long+"2", 1), with(long+"1", 0))
}
