package konst

import (
	"cmp"
	"slices"
	"strings"

	"assayer/api"
)

// taken has the numbers and the names of the members so far, each with how many members
// have it.
type taken struct {
	numbers map[int64]int
	names   map[string]int
}

// Enum returns the members of an enum with their numbers, by ascending number.
func Enum(d api.Def) (m []api.Member, e api.Errno) {
	if len(d.Members) == 0 {
		return nil, api.ErrEmpty
	}
	t := taken{map[int64]int{}, map[string]int{}}
	next := int64(0)
	for _, x := range d.Members {
		if x.Has {
			next = x.N
		}
		switch {
		case !keeps[int32](next):
			return nil, api.ErrRange
		case !t.take(next, x.Name):
			return nil, api.ErrTwice
		}
		m = append(m, api.Member{Name: strings.Clone(x.Name), Has: true, N: next})
		next++
	}
	slices.SortFunc(m, func(a, b api.Member) int { return cmp.Compare(a.N, b.N) })
	return m, api.OK
}

// take notes a member's number and name; false if an earlier member has one of them.
func (t taken) take(n int64, name string) bool {
	t.numbers[n]++
	t.names[name]++
	return t.numbers[n] == 1 && t.names[name] == 1
}

// numberOf returns the number of an enum's member.
func numberOf(d api.Def, name string) (n int64, e api.Errno) {
	members, e := Enum(d)
	for _, m := range members {
		if m.Name == name {
			n = m.N
		}
	}
	return n, e
}

// enumerated returns the value of an enum.
func enumerated(d api.Def, c api.Const) (api.Value, api.Errno) {
	if c.Kind != api.ConInt {
		return api.Value{}, api.ErrValue
	}
	members, e := Enum(d)
	switch {
	case e != api.OK:
		return api.Value{}, e
	case !slices.ContainsFunc(members, func(m api.Member) bool { return m.N == c.N }):
		return api.Value{}, api.ErrValue
	}
	return api.Value{Kind: api.Enum, N: c.N}, api.OK
}
