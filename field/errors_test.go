package field_test

import (
	"slices"
	"strconv"
	"testing"

	"assayer/api"
)

// fill is n fields that have no error, and share nothing with the fields of these tests.
func fill(n int, from string) (l []api.Field) {
	for i := range n {
		l = append(l, without(from+strconv.Itoa(i)))
	}
	return l
}

// fault is a field with an error, behind the fields a (with the number 1) and b (without
// one).
type fault struct {
	f api.Field
	e api.Errno
}

var faults = []fault{
	{own("x", 0), api.ErrRange},
	{own("x", -1), api.ErrRange},
	{own("x", 32768), api.ErrRange},
	{own("a", 0), api.ErrRange},
	{own("b", 32768), api.ErrRange},
	{own("b", -1), api.ErrRange},
	{own("x", 1), api.ErrTwice},
	{own("a", 2), api.ErrTwice},
	{own("b", 2), api.ErrTwice},
	{own("a", 1), api.ErrTwice},
	{own("b", 1), api.ErrTwice},
	{without("a"), api.ErrTwice},
	{without("b"), api.ErrTwice},
}

func TestEachErrorAlone(t *testing.T) {
	for _, x := range faults {
		wantError(t, x.e, own("a", 1), without("b"), x.f)
		wantError(t, x.e, without("b"), own("a", 1), x.f)
		wantError(t, x.e, own("a", 1), without("b"), x.f, without("c"), own("d", 9))
	}
}

// TestErrorsNearAndFar has a number, or a name, of a field just before, and of one that
// is far before.
func TestErrorsNearAndFar(t *testing.T) {
	for n := range 60 {
		for _, x := range faults {
			between := fill(n, "m")
			wantError(t, x.e, slices.Concat([]api.Field{own("a", 1), without("b")}, between, []api.Field{x.f})...)
			wantError(t, x.e, slices.Concat(between, []api.Field{without("b"), own("a", 1), x.f}, fill(n, "e"))...)
			wantError(t, x.e, slices.Concat(fill(n, "s"), []api.Field{own("a", 1)}, between, []api.Field{without("b")}, fill(n, "v"), []api.Field{x.f})...)
		}
	}
}

// TestTheEarlierFieldCounts has two fields with an error each.
func TestTheEarlierFieldCounts(t *testing.T) {
	pairs := 0
	for _, x := range faults {
		for _, y := range faults {
			for _, n := range []int{0, 1, 7, 40} {
				wantError(t, x.e, slices.Concat([]api.Field{own("a", 1), without("b"), x.f}, fill(n, "m"), []api.Field{y.f})...)
			}
			if x.e != y.e {
				pairs++
			}
		}
	}
	if pairs != 84 {
		t.Errorf("%d pairs of different errors", pairs)
	}
}

// TestRangeAheadOfTwice has both errors in one field.
func TestRangeAheadOfTwice(t *testing.T) {
	wantError(t, api.ErrRange, own("a", 1), own("a", 0))
	wantError(t, api.ErrRange, own("a", 1), own("a", 32768))
	wantError(t, api.ErrRange, without("a"), own("a", -1))
	wantError(t, api.ErrRange, without("a"), own("b", -1))
	wantError(t, api.ErrRange, own("a", 1), without("b"), own("b", 0), own("c", 1))
}

// TestErrorsOfTheFieldThatIsRepeated has errors that would be there if the first of two
// like fields were the one at fault.
func TestErrorsOfTheFieldThatIsRepeated(t *testing.T) {
	wantError(t, api.ErrRange, own("a", 1), own("b", 0), own("c", 1))
	wantError(t, api.ErrRange, without("a"), own("b", 0), without("a"))
	wantError(t, api.ErrTwice, own("a", 1), own("c", 1), own("b", 0))
	wantError(t, api.ErrTwice, without("a"), without("a"), own("b", 32768))
	wantError(t, api.ErrRange, own("a", 0), own("a", 0))
	wantError(t, api.ErrRange, own("a", 40000), own("b", 40000))
}

// TestNumberAndNameOfTwoEarlierFields has a field that has its number from one field, and
// its name from another.
func TestNumberAndNameOfTwoEarlierFields(t *testing.T) {
	wantError(t, api.ErrTwice, own("a", 1), own("b", 2), own("a", 2))
	wantError(t, api.ErrTwice, own("a", 1), own("b", 2), own("b", 1))
	wantIDs(t, []api.Field{own("a", 1), own("b", 2), own("c", 3)}, 1, 2, 3)
	wantIDs(t, []api.Field{own("1", 2), own("2", 1)}, 2, 1)
}
