package token_test

import (
	"fmt"
	"math"
	"math/big"
	"regexp"
	"slices"
	"strconv"
	"strings"
	"testing"
	"unsafe"

	"assayer/api"
	"assayer/dec"
	"assayer/token"
)

const (
	half      = 0x3FE0000000000000 // the bits of 0.5
	one       = 0x3FF0000000000000
	minus     = 1 << 63
	signs     = "{}()[]<>,;:=*"
	letters   = "abcdefghijklmnopqrstuvwxyzABCDEFGHIJKLMNOPQRSTUVWXYZ"
	digits    = "0123456789"
	white     = "\t\n\r "
	maxLength = 120 // bytes of a name
)

func name(s string, at int) api.Token { return api.Token{Kind: api.TokName, Text: s, At: at} }

func whole(n int64, at int) api.Token { return api.Token{Kind: api.TokInt, N: n, At: at} }

func double(bits uint64, at int) api.Token { return api.Token{Kind: api.TokDouble, D: bits, At: at} }

func text(s string, at int) api.Token { return api.Token{Kind: api.TokText, Text: s, At: at} }

func sign(s string, at int) api.Token { return api.Token{Kind: api.TokSign, Text: s, At: at} }

// told returns an answer of Lex as a text.
func told(l []api.Token, e api.Errno, at int) string { return fmt.Sprintln(e, at, l) }

// wantLex checks what Lex answers, twice.
func wantLex(t *testing.T, s string, want []api.Token, wantE api.Errno, wantAt int) {
	t.Helper()
	for range 2 {
		l, e, at := token.Lex(s)
		if !slices.Equal(l, want) || e != wantE || at != wantAt {
			t.Errorf("Lex(%.300q): %.300q, want %.300q", s, told(l, e, at), told(want, wantE, wantAt))
		}
	}
}

// wantTokens checks that Lex answers these tokens and the end, also behind others.
func wantTokens(t *testing.T, s string, want ...api.Token) {
	t.Helper()
	want = append(slices.Clone(want), api.Token{Kind: api.TokEnd, At: len(s)})
	wantLex(t, s, want, api.OK, 0)
	const ahead = "a = -7 "
	if len(ahead)+len(s) > api.MaxText {
		return
	}
	behind := []api.Token{name("a", 0), sign("=", 2), whole(-7, 4)}
	for _, w := range want {
		w.At += len(ahead)
		behind = append(behind, w)
	}
	wantLex(t, ahead+s, behind, api.OK, 0)
}

// wantFault checks that Lex answers this error at this offset, also behind tokens
// and before another error.
func wantFault(t *testing.T, s string, e api.Errno, at int) {
	t.Helper()
	wantLex(t, s, nil, e, at)
	const ahead, behind = "b 'c'\n", "\n@"
	if len(ahead)+len(s)+len(behind) > api.MaxText {
		return
	}
	wantLex(t, ahead+s, nil, e, len(ahead)+at)
	wantLex(t, s+behind, nil, e, at)
}

// everyByte calls f with each byte, as a text.
func everyByte(f func(b string)) {
	for i := range 256 {
		f(string([]byte{byte(i)}))
	}
}

var (
	plainGap  = regexp.MustCompile(`^(?:[\t\n\r ]|#[^\n]*|//[^\n]*|/\*(?s:.*?)\*/)*`)
	plainName = regexp.MustCompile(`^[A-Za-z_][A-Za-z0-9_.]*`)
	plainHex  = regexp.MustCompile(`^0x([0-9a-fA-F]+)`)
	plainText = regexp.MustCompile(`^(?:"([^"\n]*)"|'([^'\n]*)')`)
	ofNumbers = regexp.MustCompile(`^[0-9.eE+-]*`)
	onlyWhole = regexp.MustCompile(`^[+-]?[0-9]+$`)
)

// plainInt is the document's own words of a TokInt, with the library's numbers.
func plainInt(s string, base, most int) (int64, api.Errno) {
	if len(strings.TrimLeft(s, "+-")) > most {
		return 0, api.ErrLong
	}
	v, _ := new(big.Int).SetString(s, base)
	if !v.IsInt64() {
		return 0, api.ErrRange
	}
	return v.Int64(), api.OK
}

// plainNumber is the document's own words of a number: it seeks the longest text
// that is one to dec.Parse.
func plainNumber(s string) (t api.Token, n int, e api.Errno) {
	if m := plainHex.FindStringSubmatch(s); m != nil {
		t.Kind = api.TokInt
		t.N, e = plainInt(m[1], 16, 16)
		return t, len(m[0]), e
	}
	for n = len(ofNumbers.FindString(s)); n > 0; n-- {
		bits, e := dec.Parse(s[:n])
		switch {
		case e == api.ErrForm:
			continue
		case onlyWhole.MatchString(s[:n]):
			t.Kind = api.TokInt
			t.N, e = plainInt(s[:n], 10, api.MaxDigits)
		default:
			t.Kind, t.D = api.TokDouble, bits
		}
		return t, n, e
	}
	return t, 0, api.ErrForm
}

// plainToken is the document's own words of a token; behind tells how far from its
// first byte its error is.
func plainToken(s string) (t api.Token, n int, e api.Errno, behind int) {
	if m := plainName.FindString(s); m != "" {
		switch {
		case len(m) > 3*api.MaxName:
			return t, 0, api.ErrLong, 0
		case strings.HasSuffix(m, "."), strings.Contains(m, ".."):
			return t, 0, api.ErrForm, 0
		}
		return name(m, 0), len(m), api.OK, 0
	}
	if m := plainText.FindStringSubmatch(s); m != nil {
		return text(m[1]+m[2], 0), len(m[0]), api.OK, 0
	}
	if strings.Contains(signs, s[:1]) {
		return sign(s[:1], 0), 1, api.OK, 0
	}
	if !strings.Contains(digits+"+-.", s[:1]) {
		return t, 0, api.ErrForm, 0
	}
	t, n, e = plainNumber(s)
	if e == api.OK && n < len(s) && strings.Contains(letters+"_.", s[n:n+1]) {
		return t, n, api.ErrForm, n
	}
	return t, n, e, 0
}

// plainLex is the document's own words.
func plainLex(s string) (l []api.Token, e api.Errno, at int) {
	if len(s) > api.MaxText {
		return nil, api.ErrLong, 0
	}
	for {
		at += len(plainGap.FindString(s[at:]))
		if at == len(s) {
			return append(l, api.Token{Kind: api.TokEnd, At: at}), api.OK, 0
		}
		t, n, e, behind := plainToken(s[at:])
		if e != api.OK {
			return nil, e, at + behind
		}
		t.At = at
		l = append(l, t)
		at += n
	}
}

// wantPlain checks that Lex answers what the document's own words do, and that the
// offsets rise.
func wantPlain(t *testing.T, s string) {
	t.Helper()
	l, e, at := token.Lex(s)
	if want, wantE, wantAt := plainLex(s); !slices.Equal(l, want) || e != wantE || at != wantAt {
		t.Errorf("Lex(%.300q): %.300q, want %.300q", s, told(l, e, at), told(want, wantE, wantAt))
	}
	for i := 1; i < len(l); i++ {
		if l[i].At <= l[i-1].At {
			t.Errorf("Lex(%.300q): the offsets %d and %d", s, l[i-1].At, l[i].At)
		}
	}
}

// The document's own words, of all texts of up to so many of these letters.
func wantAllPlain(t *testing.T, alphabet string, most int) {
	t.Helper()
	texts := []string{""}
	for range most + 1 {
		var longer []string
		for _, s := range texts {
			wantPlain(t, s)
			for _, c := range alphabet {
				longer = append(longer, s+string(c))
			}
		}
		texts = longer
	}
}

// P5.1: the tokens in order, and their offsets

func TestLexOfNothing(t *testing.T) {
	wantLex(t, "", []api.Token{{Kind: api.TokEnd}}, api.OK, 0)
	wantTokens(t, "")
	wantTokens(t, " ")
	wantTokens(t, " \t\r\n ")
	wantTokens(t, "# nothing")
	wantTokens(t, "/* nothing */\n")
}

func TestLexOfTheExamples(t *testing.T) {
	wantTokens(t, "1+2-.5", whole(1, 0), whole(2, 1), double(half+minus, 3))
	wantFault(t, "12a", api.ErrForm, 2)
}

func TestLexOfASchema(t *testing.T) {
	wantTokens(t, "namespace * a.b // of it\nstruct S {\n  1: required list<i32> x = [-1, 0x2A], # two\n  2: double y = 5e-1;\n} const string T='\"'",
		name("namespace", 0), sign("*", 10), name("a.b", 12),
		name("struct", 25), name("S", 32), sign("{", 34),
		whole(1, 38), sign(":", 39), name("required", 41), name("list", 50), sign("<", 54), name("i32", 55), sign(">", 58),
		name("x", 60), sign("=", 62), sign("[", 64), whole(-1, 65), sign(",", 67), whole(42, 69), sign("]", 73), sign(",", 74),
		whole(2, 84), sign(":", 85), name("double", 87), name("y", 94), sign("=", 96), double(half, 98), sign(";", 102),
		sign("}", 104), name("const", 106), name("string", 112), name("T", 119), sign("=", 120), text("\"", 121))
}

func TestLexOfOneTokenOfEachKind(t *testing.T) {
	wantTokens(t, "a", name("a", 0))
	wantTokens(t, "5", whole(5, 0))
	wantTokens(t, ".5", double(half, 0))
	wantTokens(t, "'a'", text("a", 0))
	wantTokens(t, "*", sign("*", 0))
}

func TestLexOfManyTokens(t *testing.T) {
	for _, of := range []api.Token{sign("{", 0), name("z", 0), whole(7, 0)} {
		s, step := strings.Repeat("{", api.MaxText), 1
		if of.Kind != api.TokSign {
			s, step = strings.Repeat(map[int]string{api.TokName: "z\n", api.TokInt: "7 "}[of.Kind], api.MaxText/2), 2
		}
		var want []api.Token
		for at := 0; at < api.MaxText; at += step {
			of.At = at
			want = append(want, of)
		}
		wantTokens(t, s, want...)
	}
}

func TestLexOfTokensWithNothingBetween(t *testing.T) {
	wantTokens(t, "a'b'c\"d\"e", name("a", 0), text("b", 1), name("c", 4), text("d", 5), name("e", 8))
	wantTokens(t, "''\"\"''", text("", 0), text("", 2), text("", 4))
	wantTokens(t, "'a'1'b'.5\"c\"", text("a", 0), whole(1, 3), text("b", 4), double(half, 7), text("c", 9))
	wantTokens(t, "a+1", name("a", 0), whole(1, 1))
	wantTokens(t, "a-.5", name("a", 0), double(half+minus, 1))
	wantTokens(t, "a.b-1", name("a.b", 0), whole(-1, 3))
	wantTokens(t, "1-2+3", whole(1, 0), whole(-2, 1), whole(3, 3))
	wantTokens(t, "0x1f+2", whole(31, 0), whole(2, 4))
	wantTokens(t, "0xe+5", whole(14, 0), whole(5, 3))
	wantTokens(t, "0xe-.5", whole(14, 0), double(half+minus, 3))
	wantTokens(t, "1e0+1", double(one, 0), whole(1, 3))
	wantTokens(t, ".5-.5", double(half, 0), double(half+minus, 2))
	wantTokens(t, "{a}", sign("{", 0), name("a", 1), sign("}", 2))
	wantTokens(t, "1:a=2,", whole(1, 0), sign(":", 1), name("a", 2), sign("=", 3), whole(2, 4), sign(",", 5))
	wantTokens(t, "map<a,b>", name("map", 0), sign("<", 3), name("a", 4), sign(",", 5), name("b", 6), sign(">", 7))
	wantTokens(t, "a#b", name("a", 0))
	wantTokens(t, "a/**/b", name("a", 0), name("b", 5))
	wantTokens(t, "1/**/2", whole(1, 0), whole(2, 5))
	wantTokens(t, "1//a", whole(1, 0))
	wantTokens(t, "1#a\n.5", whole(1, 0), double(half, 4))
	wantTokens(t, "'a'/**/'b'", text("a", 0), text("b", 7))
}

// P5.1: the length of the text

func TestLexOfTheLongestText(t *testing.T) {
	for _, s := range []string{" ", "\n", "#", "/"} {
		wantTokens(t, strings.Repeat(s, api.MaxText))
	}
	spaces := strings.Repeat(" ", api.MaxText-1)
	wantTokens(t, spaces+"a", name("a", api.MaxText-1))
	wantTokens(t, "a"+spaces, name("a", 0))
	wantTokens(t, "'"+spaces[1:]+"'", text(spaces[1:], 0))
	wantTokens(t, "/*"+spaces[3:]+"*/")
	wantLex(t, spaces+"@", nil, api.ErrForm, api.MaxText-1)
}

func TestLexOfATextTooLong(t *testing.T) {
	spaces := strings.Repeat(" ", api.MaxText)
	for _, s := range []string{
		spaces + " ", spaces + "a", spaces + "\n", "a" + spaces, "#" + spaces, "/*" + spaces[3:] + "*/",
		strings.Repeat("{", api.MaxText+1), spaces + spaces,
		// Before all other errors.
		"@" + spaces, spaces + "@", "a " + spaces + "@", "\"" + spaces, "a." + spaces, "12a" + spaces, "/*" + spaces,
		strings.Repeat("n", api.MaxText+1), strings.Repeat("9", api.MaxText+1), strings.Repeat("\xFF", api.MaxText+1),
	} {
		wantLex(t, s, nil, api.ErrLong, 0)
	}
}

// P5.1: white space and comments

func TestLexOfWhiteSpace(t *testing.T) {
	for _, b := range white {
		w := string(b)
		wantTokens(t, w)
		wantTokens(t, w+w)
		wantTokens(t, "a"+w+"b", name("a", 0), name("b", 2))
		wantTokens(t, w+"1"+w+w+"2"+w, whole(1, 1), whole(2, 4))
		wantTokens(t, "{"+w+"'a'"+w+"}", sign("{", 0), text("a", 2), sign("}", 6))
	}
	wantTokens(t, "\t\n\r a \r\n\tb", name("a", 4), name("b", 9))
}

func TestLexOfOtherBytes(t *testing.T) {
	everyByte(func(b string) {
		if !strings.Contains(letters+digits+signs+white+"_#", b) {
			wantFault(t, b, api.ErrForm, 0)
			wantFault(t, "{"+b+"}", api.ErrForm, 1)
			wantFault(t, " a "+b, api.ErrForm, 3)
		}
	})
	for _, s := range []string{"\x00", "\x0B", "\x0C", "\x85", "\xA0", "\u00A0", "\u2028", "\uFEFF", "\u00E9", "\u0430", "\u0661", "\uFF11", "\\", "!", "$", "%", "&", "?", "@", "^", "`", "|", "~", "/ ", "/a", "/1", "/'/'", "*/"} {
		at := strings.Count(s, "*") // a sign by itself
		wantFault(t, s, api.ErrForm, at)
		wantFault(t, "a"+s, api.ErrForm, 1+at)
		wantFault(t, "1"+s, api.ErrForm, 1+at)
		wantFault(t, "'q'"+s, api.ErrForm, 3+at)
	}
}

func TestLexOfCommentsToTheEndOfTheLine(t *testing.T) {
	for _, c := range []string{"#", "//"} {
		n := len(c)
		wantTokens(t, c)
		wantTokens(t, c+"\n")
		wantTokens(t, c+" x")
		wantTokens(t, c+"x\ny", name("y", n+2))
		wantTokens(t, c+"\ny", name("y", n+1))
		wantTokens(t, "a"+c+"b\nc "+c+" d", name("a", 0), name("c", n+3))
		wantTokens(t, c+c+"\n"+c+"x\n"+c)
		wantTokens(t, c+" \" ' /* @ \\\n1", whole(1, n+12))
		wantTokens(t, c+" */ {\n1", whole(1, n+6))
		wantTokens(t, c+"x\ry\n1", whole(1, n+4))           // no byte 13 ends it
		wantTokens(t, c+"\x00\xFF\u2028\n1", whole(1, n+6)) // nor any other
		wantFault(t, c+"x\n@", api.ErrForm, n+2)
	}
	wantTokens(t, "///*\n1", whole(1, 5))
	wantTokens(t, "#//#\n1", whole(1, 5))
}

func TestLexOfCommentsWithAnEnd(t *testing.T) {
	wantTokens(t, "/**/")
	wantTokens(t, "/***/1", whole(1, 5))
	wantTokens(t, "/****/1", whole(1, 6))
	wantTokens(t, "/* * / */1", whole(1, 9))
	wantTokens(t, "/*/*/1", whole(1, 5))
	wantTokens(t, "/*//*/1", whole(1, 6))
	wantTokens(t, "a/*b*/c", name("a", 0), name("c", 6))
	wantTokens(t, "a /* b\n c \n*/ d", name("a", 0), name("d", 14))
	wantTokens(t, "/* # */1/* // */2", whole(1, 7), whole(2, 16))
	wantTokens(t, "/* \" ' @ \x00\xFF*/1", whole(1, 13))
	// To the next end: none is within another.
	wantTokens(t, "/* /* */1", whole(1, 8))
	wantFault(t, "/* /* */ */", api.ErrForm, 10)
	wantTokens(t, "/* */1/* */", whole(1, 5))
}

func TestLexOfCommentsSideBySide(t *testing.T) {
	wantTokens(t, "/*a*//*b*/")
	wantTokens(t, "/*a*//*b*/c", name("c", 10))
	wantTokens(t, "/*a*///b\nc", name("c", 9))
	wantTokens(t, "/*a*/#b\n#c\n//d\n/*e*/ /*f*/\n1", whole(1, 27))
	wantTokens(t, "#/*\n1#*/\n2", whole(1, 4), whole(2, 9))
	wantTokens(t, "///*\n1//*/", whole(1, 5))
}

func TestLexOfCommentsThatDoNotEnd(t *testing.T) {
	for _, s := range []string{"/*", "/* ", "/*/", "/**", "/* a", "/* * /", "/* \n\n", "/*\x00", "/*a*", "/* /* //", "/*'*'"} {
		wantFault(t, s, api.ErrForm, 0)
		wantFault(t, "a "+s, api.ErrForm, 2)
		wantFault(t, "1"+s, api.ErrForm, 1)
		wantFault(t, "\n/* */"+s, api.ErrForm, 6)
		wantFault(t, "# x\n"+s, api.ErrForm, 4)
		wantTokens(t, s+"*/")
	}
}

// P5.1: TokName

func TestLexOfNames(t *testing.T) {
	for _, s := range []string{
		"a", "Z", "_", "__", "a_", "_a", "_1", "a1", "A9z", "abc", letters, "i32", "x" + digits, "e5", "x1f", "E", "_0x1",
		"a.b", "a.b.c", "a.b.c.d", "a.1", "a.5e1", "_._", "a1.2", "struct", "true", "a._", "a.0x1",
	} {
		wantTokens(t, s, name(s, 0))
		wantTokens(t, s+"\n"+s, name(s, 0), name(s, len(s)+1))
		wantTokens(t, "'"+s+"'"+s+"<", text(s, 0), name(s, len(s)+2), sign("<", 2*len(s)+2))
	}
}

func TestLexOfTheBytesOfNames(t *testing.T) {
	everyByte(func(b string) {
		if strings.Contains(letters+"_", b) {
			wantTokens(t, b, name(b, 0))
		}
		if strings.Contains(letters+"_"+digits, b) {
			wantTokens(t, "a"+b, name("a"+b, 0))
			wantTokens(t, "a."+b, name("a."+b, 0))
			wantTokens(t, "_"+b+"_", name("_"+b+"_", 0))
		} else {
			wantPlain(t, "a"+b)
			wantPlain(t, "a"+b+"b"+b+"\n")
		}
	})
}

func TestLexOfLongNames(t *testing.T) {
	long := strings.Repeat("n", maxLength)
	dots := strings.Repeat("n.", maxLength/2-1) + "nn"
	for _, s := range []string{long, dots, long[1:] + "_", "_" + long[1:], "n" + strings.Repeat("7", maxLength-1), "a." + long[2:]} {
		wantTokens(t, s, name(s, 0))
		wantTokens(t, s+"{", name(s, 0), sign("{", maxLength))
		for _, more := range []string{"n", "_", "0", ".n", "nn", long} {
			wantFault(t, s+more, api.ErrLong, 0)
			wantFault(t, "{{ "+s+more+" }", api.ErrLong, 3)
		}
	}
	// Too long comes before a full stop where none may be.
	wantFault(t, long+".", api.ErrLong, 0)
	wantFault(t, "a.."+long, api.ErrLong, 0)
	wantFault(t, long+"..", api.ErrLong, 0)
	wantFault(t, strings.Repeat(".", maxLength), api.ErrForm, 0)
	wantFault(t, "a"+strings.Repeat(".", maxLength), api.ErrLong, 0)
	wantFault(t, long[1:]+".", api.ErrForm, 0)
	wantFault(t, "a.."+long[3:], api.ErrForm, 0)
}

func TestLexOfFullStopsInNames(t *testing.T) {
	for _, s := range []string{"a.", "_.", "a.b.", "a1.", "a..", "a..b", "a.b..c", "a...b", "a..1", "a..5", "x..", "_.._", "a..b."} {
		wantFault(t, s, api.ErrForm, 0)
		wantFault(t, s+" b", api.ErrForm, 0)
		wantFault(t, "b "+s+"+1", api.ErrForm, 2)
		wantFault(t, "1 "+s+"{", api.ErrForm, 2)
		wantFault(t, "''"+s, api.ErrForm, 2)
	}
}

// P5.1: TokInt and TokDouble

func TestLexOfIntegers(t *testing.T) {
	for s, n := range map[string]int64{
		"0": 0, "1": 1, "9": 9, "10": 10, "42": 42, "007": 7, "00": 0, "1234567890": 1234567890,
		"2147483648": 1 << 31, "4294967296": 1 << 32, "1000000000000000000": 1e18, "9223372036854775807": math.MaxInt64,
	} {
		wantTokens(t, s, whole(n, 0))
		wantTokens(t, "+"+s, whole(n, 0))
		wantTokens(t, "-"+s, whole(-n, 0))
		wantTokens(t, "a"+"+"+s, name("a", 0), whole(n, 1))
		wantTokens(t, "<"+s+">", sign("<", 0), whole(n, 1), sign(">", 1+len(s)))
	}
}

func TestLexOfTheGreatestIntegers(t *testing.T) {
	noughts := strings.Repeat("0", 41)
	for s, n := range map[string]int64{
		"9223372036854775806": math.MaxInt64 - 1, "9223372036854775807": math.MaxInt64, "+9223372036854775807": math.MaxInt64,
		"-9223372036854775807": math.MinInt64 + 1, "-9223372036854775808": math.MinInt64,
		noughts + "9223372036854775807": math.MaxInt64, "-" + noughts + "9223372036854775808": math.MinInt64,
	} {
		wantTokens(t, s, whole(n, 0))
	}
	for _, s := range []string{
		"9223372036854775808", "+9223372036854775808", "-9223372036854775809", "9223372036854775810", "-9223372036854775810",
		"9223372036854775900", "10000000000000000000", "-10000000000000000000", "18446744073709551615", "18446744073709551616",
		"18446744073709551617", "-18446744073709551616", "27670116110564327424", "36893488147419103232",
		"100000000000000000000", "340282366920938463463374607431768211456", noughts + "9223372036854775808",
		strings.Repeat("9", api.MaxDigits), "-" + strings.Repeat("1", api.MaxDigits), "1" + strings.Repeat("0", api.MaxDigits-1),
	} {
		wantFault(t, s, api.ErrRange, 0)
		wantFault(t, "a = "+s+" b", api.ErrRange, 4)
	}
}

func TestLexOfManyDigits(t *testing.T) {
	noughts, nines := strings.Repeat("0", api.MaxDigits-1), strings.Repeat("9", api.MaxDigits)
	for s, want := range map[string]api.Token{
		noughts + "0": whole(0, 0), noughts + "7": whole(7, 0), "-" + noughts + "7": whole(-7, 0), "+" + noughts + "7": whole(7, 0),
		noughts + "e5": double(0, 0), "." + noughts + "1e60": double(one, 0), "1." + noughts: double(one, 0),
		"-1" + noughts + "e-59": double(one+minus, 0), "." + nines: double(one, 0), nines + "e-60": double(one, 0),
	} {
		wantTokens(t, s, want)
		wantTokens(t, "'a' "+s, text("a", 0), api.Token{Kind: want.Kind, N: want.N, D: want.D, At: 4})
	}
	for _, s := range []string{
		noughts + "00", "-" + noughts + "00", "+" + noughts + "07", nines + "9", "-" + nines + "9", nines + nines,
		noughts + "00e5", "." + noughts + "01", "0." + noughts + "0", nines + ".9", nines + "9e-60", "1" + noughts + "0E-5",
	} {
		wantFault(t, s, api.ErrLong, 0)
		wantFault(t, "{ "+s+"}", api.ErrLong, 2)
		// Before what is behind it.
		wantFault(t, s+"x", api.ErrLong, 0)
		wantFault(t, s+"_", api.ErrLong, 0)
		wantFault(t, s+".", api.ErrLong, 0)
	}
}

func TestLexOfDoubles(t *testing.T) {
	for s, bits := range map[string]uint64{
		"1.5": 0x3FF8000000000000, ".5": half, "0.5": half, "00.50": half, "0.0": 0, ".0": 0, "1e0": one, "1E0": one, "1e+0": one,
		"1e-0": one, "1E-00": one, "5e-1": half, "50E-2": half, ".05e1": half, ".05E+1": half, "0.005e+2": half, "0e0": 0, "0e400": 0, "0e-400": 0,
		"0.1": 0x3FB999999999999A, "1e23": 0x44B52D02C7E14AF6, "1.7976931348623157e308": 0x7FEFFFFFFFFFFFFF, "5e-324": 1, "1e-400": 0,
		"9223372036854775808.0": 0x43E0000000000000, "1e19": 0x43E158E460913D00,
	} {
		wantTokens(t, s, double(bits, 0))
		wantTokens(t, "+"+s, double(bits, 0))
		wantTokens(t, "-"+s, double(bits+minus, 0))
		wantTokens(t, "{"+s+",", sign("{", 0), double(bits, 1), sign(",", 1+len(s)))
		wantTokens(t, s+"-"+s, double(bits, 0), double(bits+minus, len(s)))
	}
}

func TestLexOfDoublesThatAreTooGreat(t *testing.T) {
	for _, s := range []string{"1e309", "1e400", "1e401", "1e-401", "0e401", "0e-401", "1e999", ".5E999", "1.7976931348623159e308", "0.0e99999999999999999999", "2e+308"} {
		for _, with := range []string{s, "+" + s, "-" + s} {
			wantFault(t, with, api.ErrRange, 0)
			wantFault(t, "a\n"+with+"\nb", api.ErrRange, 2)
			wantFault(t, with+"a", api.ErrRange, 0)
			wantFault(t, with+"_", api.ErrRange, 0)
			wantFault(t, with+".", api.ErrRange, 0)
		}
	}
}

// The number ends where more of it would be none.
func TestLexOfTheLongestNumber(t *testing.T) {
	for s, at := range map[string]int{
		"1.": 1, "1. 5": 1, "1..5": 1, "1.a": 1, "1._": 1, "1.e5": 1, "1.+5": 1, "-1.": 2, "+12.": 3,
		"1e": 1, "1E": 1, "1e ": 1, "1e+": 1, "1e-": 1, "1e+ 5": 1, "1e+-5": 1, "1ee5": 1, "1e.5": 1, "1e_5": 1, "1ea": 1,
		".5e": 2, "-.5e+": 3, "1.5e": 3, "1.5e-a": 3, "1.5E+.5": 3,
		"1.5.2": 3, "1.5.": 3, "1.5..": 3, ".5.5": 2, "1e5.5": 3, "1e5.": 3, "1e5e5": 3, "1.5e5e": 5, "1e+5.": 4,
	} {
		wantFault(t, s, api.ErrForm, at)
		wantFault(t, "a ["+s+"]", api.ErrForm, 3+at)
	}
	wantTokens(t, "1+5", whole(1, 0), whole(5, 1))
	wantTokens(t, "1-.5e0-.5", whole(1, 0), double(half+minus, 1), double(half+minus, 6))
	wantTokens(t, "5e-1-1", double(half, 0), whole(-1, 4))
	wantTokens(t, "1e0+1e+0", double(one, 0), double(one, 3))
}

func TestLexOfSignsAndFullStopsWithoutADigit(t *testing.T) {
	for _, s := range []string{
		"+", "-", ".", "+ ", "- 5", ". 5", "+a", "-a", ".a", "-_", "._", "+.", "-.", "+. 5", "-.a", "+.e5", ".e5", "-e5",
		"++", "--", "+-", "-+5", "+-5", "--5", "..", "..5", "-..5", ".+5", ".-5", "+.-5", "+/**/5", "-\n5", ".#\n5",
		"-'a'", ".\"", "+{", "-/", "+\x00", ".\xFF",
	} {
		wantFault(t, s, api.ErrForm, 0)
		wantFault(t, "{"+s, api.ErrForm, 1)
		wantFault(t, "x "+s+"\n1", api.ErrForm, 2)
	}
	wantFault(t, "1+", api.ErrForm, 1)
	wantFault(t, "1+-5", api.ErrForm, 1)
	wantFault(t, "a-", api.ErrForm, 1)
	wantFault(t, "a-b", api.ErrForm, 1)
}

func TestLexOfHexadecimals(t *testing.T) {
	for s, n := range map[string]int64{
		"0x0": 0, "0x1": 1, "0x9": 9, "0xa": 10, "0xF": 15, "0xfF": 255, "0xAbCdEf": 0xABCDEF, "0x0123456789abcdef": 0x0123456789ABCDEF,
		"0x1e5": 0x1E5, "0xE": 14, "0x00": 0, "0x0000000000000000": 0, "0x000000000000000f": 15, "0xfedcba987654321": 0xFEDCBA987654321,
		"0x7fffffffffffffff": math.MaxInt64, "0x7FFFFFFFFFFFFFFE": math.MaxInt64 - 1, "0x80000000": 1 << 31, "0xffffffff": math.MaxUint32,
	} {
		wantTokens(t, s, whole(n, 0))
		wantTokens(t, s+" "+s+";", whole(n, 0), whole(n, len(s)+1), sign(";", 2*len(s)+1))
	}
	everyByte(func(b string) {
		if v, err := strconv.ParseInt(b, 16, 64); err == nil {
			wantTokens(t, "0x"+b, whole(v, 0))
			wantTokens(t, "0x1"+b, whole(16+v, 0))
		} else {
			wantFault(t, "0x"+b+"@", api.ErrForm, 1)
		}
	})
}

func TestLexOfHexadecimalsTooGreat(t *testing.T) {
	for _, s := range []string{"0x8000000000000000", "0x8000000000000001", "0xffffffffffffffff", "0xFFFFFFFFFFFFFFFF", "0x9000000000000000", "0xf000000000000000"} {
		for _, more := range []string{"", "\n", "x", "g", "_", ".", ".5", "+1"} {
			wantFault(t, s+more, api.ErrRange, 0)
			wantFault(t, "a: "+s+more, api.ErrRange, 3)
		}
		wantFault(t, s+"0", api.ErrLong, 0)
	}
	for _, s := range []string{"0x00000000000000000", "0x00000000000000001", "0x10000000000000000", "0x7fffffffffffffff0", "0x" + strings.Repeat("0", 100)} {
		for _, more := range []string{"", "\n", "x", "g", "_", ".", ".5", "+1", "0"} {
			wantFault(t, s+more, api.ErrLong, 0)
			wantFault(t, "a: "+s+more, api.ErrLong, 3)
		}
	}
}

func TestLexOfWhatIsNoHexadecimal(t *testing.T) {
	for s, at := range map[string]int{
		"0x": 1, "0x ": 1, "0xg": 1, "0xx1": 1, "0x.5": 1, "0x+1": 1, "0x_1": 1, "0x\n1": 1, "0x'1'": 1, "0x\u0661": 1,
		"-0x1": 2, "+0x1": 2, "-0x": 2, "+0xff": 2, "0X1": 1, "0Xff": 1, "-0X1": 2, "00x1": 2, "1x1": 1, "10x1": 2, "0.0x1": 3, ".0x1": 2,
		"1-0x1": 3, "0b1": 1, "0o7": 1, "0x1.5": 3, "0x1.": 3, "0x1g": 3, "0x1_": 3, "0x1x1": 3, "0xep1": 3, "0x0x0": 3,
	} {
		wantFault(t, s, api.ErrForm, at)
		wantFault(t, "'a', "+s, api.ErrForm, 5+at)
	}
}

func TestLexOfWhatIsBehindANumber(t *testing.T) {
	for s, want := range map[string]api.Token{
		"7": whole(7, 0), "-7": whole(-7, 0), "+70": whole(70, 0), "0": whole(0, 0), "0x7": whole(7, 0), "0xaF": whole(175, 0),
		"0.5": double(half, 0), "-.5": double(half+minus, 0), "5e-1": double(half, 0), "1E+00": double(one, 0),
	} {
		n := len(s)
		everyByte(func(b string) {
			more := s + b
			switch {
			case strings.Contains(digits, b), strings.HasPrefix(s, "0x") && strings.Contains("abcdefABCDEF", b):
				wantPlain(t, more)
			case strings.Contains(letters+"_.", b):
				wantFault(t, more, api.ErrForm, n)
				wantFault(t, more+" 1", api.ErrForm, n)
				wantFault(t, "{\n"+more, api.ErrForm, 2+n)
			case strings.Contains(signs, b):
				wantTokens(t, more, want, sign(b, n))
			case strings.Contains(white+"#", b):
				wantTokens(t, more, want)
			case strings.Contains("\"'", b):
				wantTokens(t, more+b, want, text("", n))
			case strings.Contains("+-", b):
				wantTokens(t, more+"1", want, whole(44-int64(b[0]), n))
			default:
				wantFault(t, more, api.ErrForm, n)
			}
		})
		wantTokens(t, s+"//", want)
		wantTokens(t, s+"/**/", want)
	}
}

// P5.1: TokText

func TestLexOfTexts(t *testing.T) {
	for _, q := range []string{"\"", "'"} {
		other := strings.Trim("\"'", q)
		for _, s := range []string{
			"", " ", "a", "a b", "a.b", "12a", other, other + other, "a" + other + "b", other + "a" + other, "#", "# a", "//", "/*", "/* a */", "*/",
			"\\", "\\n", "\\" + other, "\t", "\r", "\x00", "\xFF\xFE", "\u00E9\u4E2D\U0001F600", "@{}", "\x0B\x0C", strings.Repeat("x", 1500),
		} {
			wantTokens(t, q+s+q, text(s, 0))
			wantTokens(t, "a"+q+s+q+"b", name("a", 0), text(s, 1), name("b", len(s)+3))
			wantTokens(t, " "+q+s+q+q+q, text(s, 1), text("", len(s)+3))
		}
		wantTokens(t, q+"\\"+q, text("\\", 0)) // no byte takes the end's meaning away
	}
	everyByte(func(b string) {
		if b != "\n" && b != "\"" {
			wantTokens(t, "\""+b+"\"", text(b, 0))
			wantTokens(t, "\"a"+b+"b\"", text("a"+b+"b", 0))
		}
		if b != "\n" && b != "'" {
			wantTokens(t, "'"+b+"'", text(b, 0))
		}
	})
}

func TestLexOfTextsThatDoNotEnd(t *testing.T) {
	for _, q := range []string{"\"", "'"} {
		other := strings.Trim("\"'", q)
		for _, s := range []string{
			q, q + " ", q + "a", q + "a" + other, q + other, q + other + other, q + "\\", q + "\r", q + "\x00", q + "/* */", q + "#",
			q + "\n" + q, q + "a\n" + q, q + "\nb" + q, q + "a\nb" + q, q + other + "\n" + q, q + "\n", q + "\n\n", q + "\r\n" + q, q + "a\n" + q + q + q,
		} {
			wantFault(t, s, api.ErrForm, 0)
			wantFault(t, "a"+s, api.ErrForm, 1)
			wantFault(t, "1 "+s, api.ErrForm, 2)
			wantFault(t, "\n"+q+q+s, api.ErrForm, 3)
		}
	}
}

// P5.1: TokSign

func TestLexOfEachSign(t *testing.T) {
	for _, b := range signs {
		s := string(b)
		wantTokens(t, s, sign(s, 0))
		wantTokens(t, s+s, sign(s, 0), sign(s, 1))
		wantTokens(t, "a"+s+"b", name("a", 0), sign(s, 1), name("b", 2))
		wantTokens(t, "1"+s+"-2", whole(1, 0), sign(s, 1), whole(-2, 2))
		wantTokens(t, s+"/**/"+s+"#"+s, sign(s, 0), sign(s, 5))
	}
	var all []api.Token
	for at, b := range signs {
		all = append(all, sign(string(b), at))
	}
	wantTokens(t, signs, all...)
}

// P5.1: the first error from the left

func TestLexTellsTheFirstError(t *testing.T) {
	type fault struct {
		s  string
		e  api.Errno
		at int
	}
	faults := []fault{
		{"@", api.ErrForm, 0}, {"/", api.ErrForm, 0}, {"+", api.ErrForm, 0}, {"x -", api.ErrForm, 2}, {".", api.ErrForm, 0},
		{"a.", api.ErrForm, 0}, {"b a..b", api.ErrForm, 2}, {strings.Repeat("n", maxLength+1), api.ErrLong, 0},
		{"12a", api.ErrForm, 2}, {"1.", api.ErrForm, 1}, {"0x", api.ErrForm, 1}, {"-0x1", api.ErrForm, 2},
		{strings.Repeat("1", api.MaxDigits+1), api.ErrLong, 0}, {"a 9223372036854775808", api.ErrRange, 2}, {"1e999", api.ErrRange, 0},
		{"0x11111111111111111", api.ErrLong, 0}, {"0x8000000000000000", api.ErrRange, 0},
		{"\"a", api.ErrForm, 0}, {"''  'a", api.ErrForm, 4}, {"/* a", api.ErrForm, 0}, {"\xFF", api.ErrForm, 0},
	}
	for _, f := range faults {
		wantFault(t, f.s, f.e, f.at)
		for _, g := range faults {
			wantLex(t, f.s+"\n"+g.s, nil, f.e, f.at)
			wantLex(t, "{"+f.s+"\n }"+g.s, nil, f.e, f.at+1)
		}
	}
}

// The document's own words

func TestLexOfAllShortNumbers(t *testing.T) {
	wantAllPlain(t, "019.+-eExa_ ", 5)
	wantAllPlain(t, "01.-exF", 6)
}

func TestLexOfAllShortTexts(t *testing.T) {
	wantAllPlain(t, "/*#\n\"'a1", 6)
	wantAllPlain(t, "a._1 @\u00E9", 6)
}

func TestLexOfAllPairsOfBytes(t *testing.T) {
	everyByte(func(a string) {
		everyByte(func(b string) {
			wantPlain(t, a+b)
			wantPlain(t, "'\" "+a+b+"1'\n")
		})
	})
}

// Pieces by a rule, one behind the other, up to the longest texts and beyond.
func TestLexOfAnyText(t *testing.T) {
	pieces := []string{
		" ", "\n", "\t", "\r\n", "# c\n", "// c\n", "/* c */", "/*\n*/", "a", "_b", "c.d", "struct", "i32", "x1", "+", "-", ".", "1", "23", "-4", "+5",
		"6.7", ".8", "-9e2", "1E-3", "0x1F", "0xg", "\"t\"", "'u'", "\"v'w\"", "''", "\"", "'", "{", "}", "(", ")", "[", "]", "<", ">", ",", ";", ":", "=", "*",
		"/", "#", "@", "\xFF", "e", "0", "..", strings.Repeat("m", 60), strings.Repeat("8", 18),
	}
	seed := uint64(88172645463325252)
	next := func(n int) int {
		seed ^= seed << 13
		seed ^= seed >> 7
		seed ^= seed << 17
		return int(seed >> 11 % uint64(n))
	}
	var fine []string // with white space behind each, they are no fault
	for _, p := range pieces {
		if _, e, _ := plainLex(p); e == api.OK && p != "#" {
			fine = append(fine, p+" ")
		}
	}
	for range 5000 {
		var s strings.Builder
		for range next(12) {
			s.WriteString(pieces[next(len(pieces))])
		}
		wantPlain(t, s.String())
	}
	for size := range 2050 {
		var s strings.Builder
		for s.Len() < size {
			s.WriteString(fine[next(len(fine))])
		}
		wantPlain(t, s.String())
		wantPlain(t, s.String()+pieces[next(len(pieces))])
	}
}

// R1: every call ends, and soon, however long the text.
func TestLexOfVeryLongTexts(t *testing.T) {
	for _, s := range []string{" ", "n", "9", ".", "/*", "\"", "{", "\x00", "#", "1e"} {
		wantLex(t, strings.Repeat(s, 1<<22), nil, api.ErrLong, 0)
	}
}

// R3: what is answered is new memory.

func TestLexAnswersANewList(t *testing.T) {
	const s = "a 'b' 1 .5 {"
	l, _, _ := token.Lex(s)
	want := slices.Clone(l)
	for i := range l {
		l[i] = api.Token{Kind: 99, Text: "x", At: 99}
	}
	l = l[:cap(l)]
	clear(l)
	wantLex(t, s, want, api.OK, 0)
}

func TestLexKeepsNothingOfItsText(t *testing.T) {
	s := strings.Repeat("name.of 'a text' \"\" { 12 ", 40)
	first := uintptr(unsafe.Pointer(unsafe.StringData(s)))
	l, e, _ := token.Lex(s)
	if e != api.OK {
		t.Fatalf("error %d", e)
	}
	for _, w := range l {
		at := uintptr(unsafe.Pointer(unsafe.StringData(w.Text)))
		if w.Text != "" && first <= at && at < first+uintptr(len(s)) {
			t.Fatalf("the text of the token at %d is a piece of the argument", w.At)
		}
	}
}

// R4: an answer hangs on no call before it.
func TestLexHangsOnItsTextAlone(t *testing.T) {
	texts := []string{"", "a", "a @", "1 2 3", "/*", "'a'", strings.Repeat("{", api.MaxText), "12a", strings.Repeat(" ", api.MaxText+1)}
	for _, s := range texts {
		l, e, at := token.Lex(s)
		for _, other := range texts {
			token.Lex(other)
			wantLex(t, s, l, e, at)
		}
	}
}
