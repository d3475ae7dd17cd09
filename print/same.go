package print

import (
	"slices"

	"assayer/api"
)

// Same tells whether a and b are equal.
func Same(a, b api.File) bool {
	return slices.Equal(a.Includes, b.Includes) &&
		slices.Equal(a.Spaces, b.Spaces) &&
		slices.EqualFunc(a.Defs, b.Defs, sameDef)
}

func sameDef(a, b api.Def) bool {
	return a.Kind == b.Kind &&
		a.Name == b.Name &&
		a.Type == b.Type &&
		sameConst(a.Init, b.Init) &&
		sameFields(a.Fields, b.Fields) &&
		slices.Equal(a.Members, b.Members) &&
		a.Extends == b.Extends &&
		slices.EqualFunc(a.Methods, b.Methods, sameMethod)
}

func sameMethod(a, b api.Method) bool {
	return a.Name == b.Name &&
		a.Oneway == b.Oneway &&
		a.Ret == b.Ret &&
		sameFields(a.Args, b.Args) &&
		sameFields(a.Throws, b.Throws)
}

func sameFields(a, b []api.Field) bool { return slices.EqualFunc(a, b, sameField) }

func sameField(a, b api.Field) bool {
	return a.HasID == b.HasID &&
		a.ID == b.ID &&
		a.Req == b.Req &&
		a.Type == b.Type &&
		a.Name == b.Name &&
		a.HasInit == b.HasInit &&
		sameConst(a.Init, b.Init)
}

// sameConst tells whether two constants are equal; it tells that they are not, if
// that takes more than most of the constants in them.
func sameConst(a, b api.Const) bool {
	left := most
	var same func(a, b api.Const) bool
	same = func(a, b api.Const) bool {
		left--
		return left >= 0 &&
			a.Kind == b.Kind &&
			a.N == b.N &&
			a.D == b.D &&
			a.S == b.S &&
			slices.EqualFunc(a.L, b.L, same)
	}
	return same(a, b)
}
