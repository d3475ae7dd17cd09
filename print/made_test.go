package print_test

import (
	"math/rand/v2"
	"strconv"
	"strings"
	"testing"

	"assayer/api"
	"assayer/parse"
	"assayer/print"
	"assayer/token"
)

// This file makes texts as the document's words tell them, without any file, and then
// writes them as loosely as a file may be written.

// maker makes texts, the same ones each time.
type maker struct{ *rand.Rand }

func (m maker) of(texts ...string) string { return texts[m.IntN(len(texts))] }

func (m maker) maybe(s string) string { return m.of("", s) }

// row joins from least to most of what one makes.
func (m maker) row(least, most int, between string, one func() string) string {
	var l []string
	for range least + m.IntN(most-least+1) {
		l = append(l, one())
	}
	return strings.Join(l, between)
}

func (m maker) name() string { return m.of("a", "B", "_c", "d9", "Struct", longName) }

func (m maker) path() string { return m.row(1, 3, ".", func() string { return m.of("a", "B", "_c9") }) }

func (m maker) whole() string {
	return strconv.FormatInt(m.Int64()>>m.IntN(64)*int64(1-2*m.IntN(2)), 10)
}

func (m maker) typ(depth int) string {
	switch n := m.IntN(6); {
	case depth > 0 && n == 0:
		return "map<" + m.typ(depth-1) + "," + m.typ(depth-1) + ">"
	case depth > 0 && n == 1:
		return m.of("list", "set") + "<" + m.typ(depth-1) + ">"
	case n == 2:
		return m.path()
	}
	return m.of("bool", "i8", "i16", "i32", "i64", "double", "string", "binary")
}

func (m maker) constant(depth int) string {
	inner := func() string { return m.constant(depth - 1) }
	switch n := m.IntN(8); {
	case depth > 0 && n == 0:
		return "[" + m.row(0, 4, ", ", inner) + "]"
	case depth > 0 && n == 1:
		return "{" + m.row(0, 4, ", ", func() string { return inner() + ": " + inner() }) + "}"
	case n == 2:
		return m.maybe("-") + m.of("0.0e0", "1.0e0", "2.5e-1", "1.25e10", "4.9406564584124654e-324", "1.7976931348623157e308")
	case n == 3:
		return m.of("true", "false", m.path())
	case n == 4:
		return m.of(`""`, `"a"`, `'"'`, `"'"`, `'a "b"'`, `"[1, 2]"`, `"# /* //"`, "\"\t\xff\"")
	}
	return m.whole()
}

func (m maker) field() string {
	return m.maybe(m.whole()+": ") + m.of("", "", "required ", "optional ") + m.typ(2) + " " + m.name() + m.maybe(" = "+m.constant(2))
}

func (m maker) method() string {
	fields := func(least int) string { return "(" + m.row(least, 3, ", ", m.field) + ")" }
	return m.maybe("oneway ") + m.of("void", m.typ(2)) + " " + m.name() + fields(0) + m.maybe(" throws "+fields(1))
}

// block is a definition of more than one line.
func (m maker) block(head string, one func() string) string {
	return head + " {\n" + m.row(0, 4, "", func() string { return "  " + one() + ",\n" }) + "}\n"
}

func (m maker) def() string {
	switch m.IntN(5) {
	case 0:
		return "typedef " + m.typ(4) + " " + m.name() + "\n"
	case 1:
		return "const " + m.typ(2) + " " + m.name() + " = " + m.constant(4) + "\n"
	case 2:
		return m.block("enum "+m.name(), func() string { return m.name() + m.maybe(" = "+m.whole()) })
	case 3:
		return m.block("service "+m.name()+m.maybe(" extends "+m.path()), m.method)
	}
	return m.block(m.of("struct", "union", "exception")+" "+m.name(), m.field)
}

func (m maker) file() string {
	return m.row(0, 3, "", func() string { return "include \"" + m.name() + "\"\n" }) +
		m.row(0, 3, "", func() string { return "namespace " + m.of("*", m.path()) + " " + m.path() + "\n" }) +
		m.row(0, 4, "", m.def)
}

// word is another way to write a word of a text.
func (m maker) word(w api.Token, written string) string {
	switch {
	case w.Kind == api.TokInt && w.N >= 0:
		hex := strconv.FormatInt(w.N, 16)
		return m.of(written, "+"+written, "0"+written, "0x"+hex, "0x"+strings.ToUpper(hex))
	case w.Kind == api.TokDouble && w.D>>63 == 0:
		return m.of(written, "+"+written, "0"+written, strings.Replace(written, "e", "E", 1))
	case w.Kind == api.TokText && !strings.ContainsAny(w.Text, `"'`):
		return m.of(written, "'"+w.Text+"'")
	case w.Kind == api.TokName && w.Text == "i8":
		return m.of("i8", "byte")
	}
	return written
}

func (m maker) gap() string {
	return m.of(" ", "\n", "\t\r ", "# a\n", " //}\n", "/* , */", "/***/ ")
}

// loosely writes a text of Print in another way.
func (m maker) loosely(text string) string {
	words, _, _ := token.Lex(text)
	var b strings.Builder
	for i, w := range words[:len(words)-1] {
		next := words[i+1].At
		written := strings.TrimRight(text[w.At:next], " \n")
		isGap := written == "," && len(written) < next-w.At // the comma of a map's type has nothing behind it
		switch {
		case isGap:
			b.WriteString(m.of(",", ";", m.gap()))
		case written == "}" && text[w.At:next] == "}\n":
			b.WriteString(m.of("}", "},", "};"))
		default:
			b.WriteString(m.word(w, written))
		}
		b.WriteString(m.gap())
	}
	return b.String()
}

func TestMadeFiles(t *testing.T) {
	t.Parallel()
	m := maker{rand.New(rand.NewPCG(8, 1))}
	files := 0
	for range 4000 {
		text := m.file()
		if len(text) > api.MaxText {
			continue
		}
		files++
		wantItself(t, text)
		if loose := m.loosely(text); len(loose) <= api.MaxText {
			wantText(t, loose, text)
		}
	}
	if files < 3000 {
		t.Errorf("only %d files", files)
	}
}

// TestMadePairsOfFiles holds files against one another that differ in little.
func TestMadePairsOfFiles(t *testing.T) {
	t.Parallel()
	m := maker{rand.New(rand.NewPCG(8, 2))}
	files := 0
	for range 4000 {
		text := m.file()
		words, e, _ := token.Lex(text)
		if e != api.OK || len(words) < 2 {
			continue
		}
		i, j := m.IntN(len(words)-1), m.IntN(len(words)-1)
		other := text[:words[i].At] + text[words[j].At:words[j+1].At] + " " + text[words[i+1].At:]
		f, e, _ := parse.Parse(text)
		g, otherE, _ := parse.Parse(other)
		if e != api.OK || otherE != api.OK {
			continue
		}
		files++
		if got, want := print.Same(f, g), equal(f, g); got != want || got != (print.Print(f) == print.Print(g)) {
			t.Errorf("Same of the files of %q and %q: %t", text, other, got)
		}
	}
	if files < 500 {
		t.Errorf("only %d pairs", files)
	}
}
