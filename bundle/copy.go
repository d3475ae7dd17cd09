package bundle

import (
	"strings"

	"assayer/api"
)

// most is how many constants and bytes of texts in the constants of a file are
// copied before the rest is left out: a list may have itself in it. What Load
// answers has fewer than MaxText of them.
const most = 32 * api.MaxText

// copier makes copies that share no memory with what they are made from.
type copier struct{ left int }

func copyFile(f api.File) api.File {
	c := copier{most}
	return api.File{
		Includes: each(f.Includes, strings.Clone),
		Spaces:   each(f.Spaces, copySpace),
		Defs:     each(f.Defs, c.def),
	}
}

// each returns what one answers for each element of a list.
func each[T any](l []T, one func(T) T) []T {
	out := make([]T, 0, len(l))
	for _, element := range l {
		out = append(out, one(element))
	}
	return out
}

func copySpace(s api.Space) api.Space {
	return api.Space{Scope: strings.Clone(s.Scope), Name: strings.Clone(s.Name)}
}

func copyMember(m api.Member) api.Member {
	m.Name = strings.Clone(m.Name)
	return m
}

func (c *copier) def(d api.Def) api.Def {
	return api.Def{
		Kind:    d.Kind,
		Name:    strings.Clone(d.Name),
		Type:    strings.Clone(d.Type),
		Init:    c.constant(d.Init),
		Fields:  each(d.Fields, c.field),
		Members: each(d.Members, copyMember),
		Extends: strings.Clone(d.Extends),
		Methods: each(d.Methods, c.method),
	}
}

func (c *copier) field(f api.Field) api.Field {
	f.Type = strings.Clone(f.Type)
	f.Name = strings.Clone(f.Name)
	f.Init = c.constant(f.Init)
	return f
}

func (c *copier) method(m api.Method) api.Method {
	return api.Method{
		Name:   strings.Clone(m.Name),
		Oneway: m.Oneway,
		Ret:    strings.Clone(m.Ret),
		Args:   each(m.Args, c.field),
		Throws: each(m.Throws, c.field),
	}
}

func (c *copier) constant(x api.Const) api.Const {
	size := len(x.S) + len(x.L)
	if size > c.left {
		x.S, x.L = "", nil
		return x
	}
	c.left -= size
	x.S = strings.Clone(x.S)
	x.L = each(x.L, c.constant)
	return x
}
