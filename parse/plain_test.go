package parse_test

import (
	"reflect"
	"regexp"
	"slices"
	"strings"
	"testing"

	"assayer/api"
	"assayer/kind"
	"assayer/parse"
	"assayer/token"
)

// This file has the document's own words of a file as rules, each of which tells all
// places where what it stands for may end. It knows nothing of what comes next.

const reservedWords = "include namespace typedef enum const struct union exception service extends throws oneway void required optional true false bool i8 i16 i32 i64 double string binary list set map byte"

var reservedList = strings.Fields(reservedWords)

var plainShape = regexp.MustCompile(`^[A-Za-z_][A-Za-z0-9_]*$`)

func plainReserved(s string) bool { return slices.Contains(reservedList, s) }

func plainPlain(s string) bool {
	return plainShape.MatchString(s) && len(s) <= api.MaxName && !plainReserved(s)
}

func plainQualified(s string) bool {
	parts := strings.Split(s, ".")
	return len(parts) <= 3 && !slices.ContainsFunc(parts, func(s string) bool { return !plainPlain(s) })
}

// reader is what the rules go over, and the errors that they met.
type reader struct {
	words    []api.Token
	farthest int   // the last word that was looked at
	long     []int // words that begin one element too many
	deep     []int // words at which something is too deep
	begun    []int // how often each word was one that may stand there
}

// rule tells where that ends which begins at a word.
type rule func(r *reader, at int) []int

func one(is func(w api.Token) bool) rule {
	return func(r *reader, at int) []int {
		r.farthest = max(r.farthest, at)
		if !is(r.words[at]) {
			return nil
		}
		r.begun[at]++
		return []int{at + 1}
	}
}

func nameThat(is func(s string) bool) rule {
	return one(func(w api.Token) bool { return w.Kind == api.TokName && is(w.Text) })
}

func of(number int) rule { return one(func(w api.Token) bool { return w.Kind == number }) }

func word(texts string) rule {
	l := strings.Fields(texts)
	return nameThat(func(s string) bool { return slices.Contains(l, s) })
}

func mark(s string) rule {
	return one(func(w api.Token) bool { return w.Kind == api.TokSign && w.Text == s })
}

func nothing(r *reader, at int) []int { return []int{at} }

func either(rules ...rule) rule {
	return func(r *reader, at int) (ends []int) {
		for _, next := range rules {
			ends = append(ends, next(r, at)...)
		}
		return distinct(ends)
	}
}

func maybe(rules ...rule) rule { return either(nothing, row(rules...)) }

func row(rules ...rule) rule {
	return func(r *reader, at int) []int {
		ends := []int{at}
		for _, next := range rules {
			var behind []int
			for _, end := range ends {
				behind = append(behind, next(r, end)...)
			}
			ends = distinct(behind)
		}
		return ends
	}
}

func distinct(l []int) []int {
	slices.Sort(l)
	return slices.Compact(l)
}

// many is a rule as often as one likes, and notes each one beyond most.
func many(most int, next rule) rule {
	return func(r *reader, at int) []int {
		all, ends := []int{at}, []int{at}
		for times := 1; len(ends) > 0; times++ {
			var behind []int
			for _, end := range ends {
				before := r.begun[end]
				behind = append(behind, next(r, end)...)
				if times > most && r.begun[end] > before {
					r.long = append(r.long, end)
				}
			}
			ends = distinct(behind)
			all = append(all, ends...)
		}
		return distinct(all)
	}
}

// atDepth is a rule for what is at that depth, and notes if it is too deep.
func atDepth(depth int, next rule) rule {
	return func(r *reader, at int) []int {
		before := r.begun[at]
		ends := next(r, at)
		if depth > api.MaxNest && r.begun[at] > before {
			r.deep = append(r.deep, at)
		}
		return ends
	}
}

var (
	plainWord     = nameThat(plainPlain)
	qualifiedWord = nameThat(plainQualified)
	gap           = either(nothing, mark(","), mark(";"))
)

// then makes a rule only when it is needed: types and constants are within themselves.
func then(make func() rule) rule { return func(r *reader, at int) []int { return make()(r, at) } }

func typeRule(depth int) rule {
	inner := then(func() rule { return typeRule(depth + 1) })
	return either(
		word("bool i8 i16 i32 i64 double string binary byte"),
		qualifiedWord,
		atDepth(depth, row(word("list set"), mark("<"), inner, mark(">"))),
		atDepth(depth, row(word("map"), mark("<"), inner, mark(","), inner, mark(">"))),
	)
}

func constRule(depth int) rule {
	inner := then(func() rule { return constRule(depth + 1) })
	return either(
		of(api.TokInt), of(api.TokDouble), of(api.TokText), qualifiedWord, word("true false"),
		atDepth(depth, row(mark("["), many(api.MaxItems, row(inner, gap)), mark("]"))),
		atDepth(depth, row(mark("{"), many(api.MaxItems, row(inner, mark(":"), inner, gap)), mark("}"))),
	)
}

func fieldsRule() rule {
	return many(api.MaxFields, row(
		maybe(of(api.TokInt), mark(":")), maybe(word("required optional")),
		typeRule(1), plainWord, maybe(mark("="), constRule(1)), gap,
	))
}

func defRule() rule {
	method := row(
		maybe(word("oneway")), either(word("void"), typeRule(1)), plainWord,
		mark("("), fieldsRule(), mark(")"), maybe(word("throws"), mark("("), fieldsRule(), mark(")")), gap,
	)
	return either(
		row(word("typedef"), typeRule(1), plainWord),
		row(word("const"), typeRule(1), plainWord, mark("="), constRule(1)),
		row(word("enum"), plainWord, mark("{"), many(api.MaxFields, row(plainWord, maybe(mark("="), of(api.TokInt)), gap)), mark("}")),
		row(word("struct union exception"), plainWord, mark("{"), fieldsRule(), mark("}")),
		row(word("service"), plainWord, maybe(word("extends"), qualifiedWord), mark("{"), many(api.MaxFields, method), mark("}")),
	)
}

// headRule is includes and namespaces in any order: each kind is counted by itself.
func headRule(r *reader, at int) []int {
	include := row(word("include"), one(func(w api.Token) bool { return w.Kind == api.TokText && plainPlain(w.Text) }))
	space := row(word("namespace"), either(qualifiedWord, mark("*")), qualifiedWord)
	all, ends, counts := []int{at}, []int{at}, map[string]int{}
	for len(ends) > 0 {
		end := ends[0]
		w := r.words[end]
		ends = either(include, space)(r, end)
		if w.Kind != api.TokName || w.Text != "include" && w.Text != "namespace" {
			continue
		}
		counts[w.Text]++
		if counts[w.Text] > api.MaxFiles {
			r.long = append(r.long, end)
		}
		all = append(all, ends...)
	}
	return all
}

var fileRule = row(headRule, many(api.MaxDefs, row(defRule(), gap)), of(api.TokEnd))

// plainError is the error of these words, and the word where it is.
func plainError(words []api.Token) (api.Errno, int) {
	r := &reader{words: words, begun: make([]int, len(words))}
	fits := len(fileRule(r, 0)) > 0
	for at := range words {
		switch {
		case !fits && at == r.farthest:
			return api.ErrForm, at
		case slices.Contains(r.long, at):
			return api.ErrLong, at
		case slices.Contains(r.deep, at):
			return api.ErrDepth, at
		}
	}
	return api.OK, 0
}

// writer writes a file as words, without `,` and `;`.
type writer struct{ words []api.Token }

func (w *writer) add(t api.Token) { w.words = append(w.words, t) }

func (w *writer) name(texts ...string) {
	for _, s := range texts {
		w.add(api.Token{Kind: api.TokName, Text: s})
	}
}

func (w *writer) sign(s string) { w.add(api.Token{Kind: api.TokSign, Text: s}) }

func (w *writer) whole(n int64) { w.add(api.Token{Kind: api.TokInt, N: n}) }

func (w *writer) typ(s string) {
	l, _, _ := token.Lex(s)
	for _, t := range l[:len(l)-1] {
		t.At = 0
		w.add(t)
	}
}

func (w *writer) constant(c api.Const) {
	switch c.Kind {
	case api.ConInt:
		w.whole(c.N)
	case api.ConDouble:
		w.add(api.Token{Kind: api.TokDouble, D: c.D})
	case api.ConText:
		w.add(api.Token{Kind: api.TokText, Text: c.S})
	case api.ConName:
		w.name(c.S)
	case api.ConList:
		w.sign("[")
		for _, v := range c.L {
			w.constant(v)
		}
		w.sign("]")
	case api.ConMap:
		w.sign("{")
		for i, v := range c.L {
			if i%2 == 1 {
				w.sign(":")
			}
			w.constant(v)
		}
		w.sign("}")
	}
}

func (w *writer) fields(open, end string, l []api.Field) {
	w.sign(open)
	for _, f := range l {
		if f.HasID {
			w.whole(f.ID)
			w.sign(":")
		}
		if f.Req != api.ReqDefault {
			w.name([]string{api.ReqRequired: "required", api.ReqOptional: "optional"}[f.Req])
		}
		w.typ(f.Type)
		w.name(f.Name)
		if f.HasInit {
			w.sign("=")
			w.constant(f.Init)
		}
	}
	w.sign(end)
}

func (w *writer) service(d api.Def) {
	w.name("service", d.Name)
	if d.Extends != "" {
		w.name("extends", d.Extends)
	}
	w.sign("{")
	for _, m := range d.Methods {
		if m.Oneway {
			w.name("oneway")
		}
		w.typ(m.Ret)
		w.name(m.Name)
		w.fields("(", ")", m.Args)
		if len(m.Throws) > 0 {
			w.name("throws")
			w.fields("(", ")", m.Throws)
		}
	}
	w.sign("}")
}

func (w *writer) def(d api.Def) {
	switch d.Kind {
	case api.DefTypedef:
		w.name("typedef")
		w.typ(d.Type)
		w.name(d.Name)
	case api.DefConst:
		w.name("const")
		w.typ(d.Type)
		w.name(d.Name)
		w.sign("=")
		w.constant(d.Init)
	case api.DefEnum:
		w.name("enum", d.Name)
		w.sign("{")
		for _, m := range d.Members {
			w.name(m.Name)
			if m.Has {
				w.sign("=")
				w.whole(m.N)
			}
		}
		w.sign("}")
	case api.DefService:
		w.service(d)
	default:
		w.name([]string{api.DefStruct: "struct", api.DefUnion: "union", api.DefException: "exception"}[d.Kind], d.Name)
		w.fields("{", "}", d.Fields)
	}
}

func written(f api.File) []api.Token {
	w := &writer{}
	for _, s := range f.Includes {
		w.name("include")
		w.add(api.Token{Kind: api.TokText, Text: s})
	}
	for _, s := range f.Spaces {
		w.name("namespace")
		if s.Scope == "*" {
			w.sign("*")
		} else {
			w.name(s.Scope)
		}
		w.name(s.Name)
	}
	for _, d := range f.Defs {
		w.def(d)
	}
	return w.words
}

// sorted are the words of a file as written tells them: includes ahead, no `,` and
// `;`, no empty list of what is thrown, i8 for byte.
func sorted(words []api.Token) (l []api.Token) {
	var includes, rest []api.Token
	for at := 0; words[at].Kind != api.TokEnd; at++ {
		w := words[at]
		w.At = 0
		isName := w.Kind == api.TokName
		switch {
		case w.Kind == api.TokSign && (w.Text == "," || w.Text == ";"):
		case isName && w.Text == "include":
			at++
			includes = append(includes, w, api.Token{Kind: api.TokText, Text: words[at].Text})
		case isName && w.Text == "throws" && words[at+2].Text == ")" && words[at+2].Kind == api.TokSign:
			at += 2
		case isName && w.Text == "byte":
			rest = append(rest, api.Token{Kind: api.TokName, Text: "i8"})
		default:
			rest = append(rest, w)
		}
	}
	return append(includes, rest...)
}

func withoutCommas(l []api.Token) []api.Token {
	return slices.DeleteFunc(slices.Clone(l), func(w api.Token) bool { return w.Kind == api.TokSign && w.Text == "," })
}

// bare are the fields of a definition that its kind has.
func bare(d api.Def) api.Def {
	b := api.Def{Kind: d.Kind, Name: d.Name}
	switch d.Kind {
	case api.DefTypedef:
		b.Type = d.Type
	case api.DefConst:
		b.Type, b.Init = d.Type, bareConst(d.Init)
	case api.DefEnum:
		for _, m := range d.Members {
			if !m.Has {
				m.N = 0
			}
			b.Members = append(b.Members, m)
		}
	case api.DefService:
		b.Extends = d.Extends
		for _, m := range d.Methods {
			b.Methods = append(b.Methods, api.Method{Name: m.Name, Oneway: m.Oneway, Ret: m.Ret, Args: bareFields(m.Args), Throws: bareFields(m.Throws)})
		}
	default:
		b.Fields = bareFields(d.Fields)
	}
	return b
}

func bareFields(l []api.Field) (out []api.Field) {
	for _, f := range l {
		b := api.Field{HasID: f.HasID, Req: f.Req, Type: f.Type, Name: f.Name, HasInit: f.HasInit}
		if f.HasID {
			b.ID = f.ID
		}
		if f.HasInit {
			b.Init = bareConst(f.Init)
		}
		out = append(out, b)
	}
	return out
}

func bareConst(c api.Const) api.Const {
	b := api.Const{Kind: c.Kind}
	switch c.Kind {
	case api.ConInt:
		b.N = c.N
	case api.ConDouble:
		b.D = c.D
	case api.ConText, api.ConName:
		b.S = c.S
	default:
		for _, v := range c.L {
			b.L = append(b.L, bareConst(v))
		}
	}
	return b
}

// typesOf are the texts of the types in a definition.
func typesOf(d api.Def) (l []string) {
	fields := d.Fields
	if d.Type != "" {
		l = append(l, d.Type)
	}
	for _, m := range d.Methods {
		if m.Ret != "void" {
			l = append(l, m.Ret)
		}
		fields = append(append(slices.Clone(fields), m.Args...), m.Throws...)
	}
	for _, f := range fields {
		l = append(l, f.Type)
	}
	return l
}

// wantPlain holds Parse against the document's own words.
func wantPlain(t *testing.T, text string) {
	t.Helper()
	f, e, at := parse.Parse(text)
	words, lexed, lexedAt := token.Lex(text)
	if lexed != api.OK {
		wantFault(t, text, lexed, lexedAt)
		return
	}
	if want, i := plainError(words); want != api.OK {
		wantFault(t, text, want, words[i].At)
		return
	}
	if e != api.OK || at != 0 {
		t.Errorf("Parse(%q): %d at %d, want a file", text, e, at)
		return
	}
	if got, want := withoutCommas(written(f)), withoutCommas(sorted(words)); !slices.Equal(got, want) {
		t.Errorf("Parse(%q): it has the words\n%v, want\n%v", text, got, want)
	}
	for _, d := range f.Defs {
		wantBare(t, text, d)
	}
}

// wantBare checks that a definition has nothing beside what its kind has, and that
// its types are texts of types.
func wantBare(t *testing.T, text string, d api.Def) {
	t.Helper()
	if b := bare(d); !reflect.DeepEqual(packed(d), packed(b)) {
		t.Errorf("Parse(%q): a definition has too much: %v, want %v", text, d, b)
	}
	for _, s := range typesOf(d) {
		if !kind.May(s) {
			t.Errorf("Parse(%q): %q is no type", text, s)
		}
	}
}

// packed is a definition with nil for each list without elements: the two are the same.
func packed(d api.Def) api.Def {
	return copied(reflect.ValueOf(d)).Interface().(api.Def)
}

func copied(v reflect.Value) reflect.Value {
	out := reflect.New(v.Type()).Elem()
	switch v.Kind() {
	case reflect.Slice:
		for i := range v.Len() {
			out = reflect.Append(out, copied(v.Index(i)))
		}
	case reflect.Struct:
		for i := range v.NumField() {
			out.Field(i).Set(copied(v.Field(i)))
		}
	default:
		out.Set(v)
	}
	return out
}
