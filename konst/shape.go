package konst

import (
	"strings"

	"assayer/api"
	"assayer/kind"
	"assayer/scope"
)

// shape is a whole type, as it was read from its text.
type shape struct {
	kind  int
	inner [2]string // the types of a map's keys and of its values; of all else in a list or a set, twice
	def   api.Def   // of an enum or a struct
	home  string    // the file that def stands in
}

// shape returns the shape of a whole type; its kind is 0 if the text is none.
func (w *computation) shape(whole string) shape {
	k, name, a, b, e := kind.Head(whole)
	switch {
	case e != api.OK:
		return shape{}
	case k == 0:
		return w.defined(name)
	case k == api.Map:
		return shape{kind: k, inner: [...]string{a, b}}
	}
	return shape{kind: k, inner: [...]string{a, a}}
}

// defined returns the shape of the enum or the struct with a whole name.
func (w *computation) defined(name string) shape {
	file, _, _ := strings.Cut(name, ".")
	whole, d, home, e := scope.Find(w.loaded, file, name)
	// Without its file, a name may denote something too: in a file that is called so.
	if e != api.OK || whole != name {
		return shape{}
	}
	s := shape{def: d, home: home}
	switch d.Kind {
	case api.DefEnum:
		s.kind = api.Enum
	case api.DefStruct, api.DefUnion, api.DefException:
		s.kind = api.Struct
	}
	return s
}
