package lexer

import (
	"slices"
	"strings"
	"testing"
	"unsafe"

	"witan/api"
)

// twelve and thirteen are a name of as many bytes as there may be, and one byte more.
const (
	twelve   = "abcdefghijkl"
	thirteen = "abcdefghijklm"
)

func at(line, col int) api.Place { return api.Place{Line: line, Col: col} }

func name(s string) api.Tok { return api.Tok{Kind: api.TokName, Text: s} }

func variable(s string) api.Tok { return api.Tok{Kind: api.TokVar, Text: s} }

func self() api.Tok { return api.Tok{Kind: api.TokSelf} }

func sign(s string) api.Tok { return api.Tok{Kind: api.TokSign, Text: s} }

func whole(s string, n int64) api.Tok {
	return api.Tok{Kind: api.TokNumber, Text: s, V: api.Value{Kind: api.Int, N: n}}
}

func dec(s string, units int64) api.Tok {
	return api.Tok{Kind: api.TokNumber, Text: s, V: api.Value{Kind: api.Dec, N: units}}
}

// text is a string that stands as s between its quotes, and is of these bytes.
func text(s, of string) api.Tok {
	return api.Tok{Kind: api.TokString, Text: s, V: api.Value{Kind: api.Str, S: of}}
}

func sym(s string) api.Tok {
	return api.Tok{Kind: api.TokSym, Text: s, V: api.Value{Kind: api.Sym, S: s}}
}

func placed(w api.Tok, line, col int) api.Tok {
	w.At = at(line, col)
	return w
}

// hold asks that s has these words, with these places.
func hold(t *testing.T, s string, want ...api.Tok) {
	t.Helper()
	l, p, e := Lex(s)
	if !slices.Equal(l, want) || p != (api.Place{}) || e != api.OK {
		t.Errorf("Lex(%.300q) = %v, %v, %d; want %v", s, l, p, e, want)
	}
}

// holdWords asks that s, of one line, has these words, one at each of these columns.
func holdWords(t *testing.T, s string, cols []int, want ...api.Tok) {
	t.Helper()
	if len(cols) != len(want) {
		t.Fatalf("%d columns of %d words of %q", len(cols), len(want), s)
	}
	l := slices.Clone(want)
	for i := range l {
		l[i].At = at(1, cols[i])
	}
	hold(t, s, l...)
}

// refuse asks that s tells e with that place, and nothing else.
func refuse(t *testing.T, s string, line, col int, want api.Errno) {
	t.Helper()
	l, p, e := Lex(s)
	if len(l) != 0 || p != at(line, col) || e != want {
		t.Errorf("Lex(%.300q) = %v, %v, %d; want none, %v, %d", s, l, p, e, at(line, col), want)
	}
}

// P6.1: each kind of word

func TestLexOfEachKind(t *testing.T) {
	for _, x := range []struct {
		s string
		w api.Tok
	}{
		{"a", name("a")}, {"z", name("z")}, {"a0", name("a0")}, {"z9", name("z9")}, {"x1y2", name("x1y2")}, {"rule", name("rule")}, {"true", name("true")}, {"null", name("null")}, {twelve, name(twelve)}, {"a12345678901", name("a12345678901")},
		{"?a", variable("a")}, {"?z9", variable("z9")}, {"?not", variable("not")}, {"?" + twelve, variable(twelve)},
		{"?", self()},
		{"0", whole("0", 0)}, {"7", whole("7", 7)}, {"10", whole("10", 10)}, {"9223372036854775807", whole("9223372036854775807", 9223372036854775807)},
		{"0.0", dec("0.0", 0)}, {"1.5", dec("1.5", 15000)}, {"0.0005", dec("0.0005", 5)}, {"10.25", dec("10.25", 102500)}, {"922337203685477.5807", dec("922337203685477.5807", 9223372036854775807)},
		{`""`, text("", "")}, {`"a b"`, text("a b", "a b")}, {`"#a ?b ; c"`, text("#a ?b ; c", "#a ?b ; c")}, {`" "`, text(" ", " ")}, {`"1.50"`, text("1.50", "1.50")}, {`"~"`, text("~", "~")},
		{"#a", sym("a")}, {"#z9", sym("z9")}, {"#null", sym("null")}, {"#" + twelve, sym(twelve)},
		{"<=", sign("<=")}, {">=", sign(">=")}, {"<>", sign("<>")}, {"..", sign("..")},
		{"(", sign("(")}, {")", sign(")")}, {"[", sign("[")}, {"]", sign("]")}, {",", sign(",")}, {":", sign(":")}, {"=", sign("=")}, {"<", sign("<")}, {">", sign(">")}, {"+", sign("+")}, {"-", sign("-")}, {"*", sign("*")}, {"/", sign("/")},
	} {
		hold(t, x.s, placed(x.w, 1, 1))
		hold(t, " "+x.s+" ", placed(x.w, 1, 2))
		hold(t, "\n"+x.s+"\n", placed(x.w, 2, 1))
		hold(t, ";"+x.s+"\n  "+x.s+";"+x.s, placed(x.w, 2, 3))
		hold(t, "("+x.s+")", placed(sign("("), 1, 1), placed(x.w, 1, 2), placed(sign(")"), 1, 2+len(x.s)))
		hold(t, x.s+" "+x.s, placed(x.w, 1, 1), placed(x.w, 1, 2+len(x.s)))
	}
}

func TestLexOfTheExamples(t *testing.T) {
	holdWords(t, "p1(age:>=18)", []int{1, 3, 4, 7, 8, 10, 12}, name("p1"), sign("("), name("age"), sign(":"), sign(">="), whole("18", 18), sign(")"))
	holdWords(t, "[1..2.5] ; from", []int{1, 2, 3, 5, 8}, sign("["), whole("1", 1), sign(".."), dec("2.5", 25000), sign("]"))
	holdWords(t, `"a b" ?x ? #s`, []int{1, 7, 10, 12}, text("a b", "a b"), variable("x"), self(), sym("s"))
}

// P6.1: what stands between words

func TestLexOfNoWords(t *testing.T) {
	for _, s := range []string{
		"", " ", "   ", "\n", "\n\n\n", " \n \n ", ";", ";;", "; a", ";a\n", ";\n", ";\n;", " ;\n ; b\n\n;", "; \"", "; \"a", ";#", ";!\t\r\x00\x7f\x80\xff\n", "; é\n", strings.Repeat(";\n", 1000),
	} {
		hold(t, s)
	}
}

func TestLexOfRemarks(t *testing.T) {
	hold(t, "a;b\nc", placed(name("a"), 1, 1), placed(name("c"), 2, 1))
	hold(t, "a ; b", placed(name("a"), 1, 1))
	hold(t, "a;", placed(name("a"), 1, 1))
	hold(t, "a ;\n;\n ; ;\nb;", placed(name("a"), 1, 1), placed(name("b"), 4, 1))
	hold(t, "1;.5\n.. ;\"\n\";\"", placed(whole("1", 1), 1, 1), placed(sign(".."), 2, 1), placed(text(";", ";"), 3, 1))
	hold(t, "?;a\n#a;1\n<;=", placed(self(), 1, 1), placed(sym("a"), 2, 1), placed(sign("<"), 3, 1))
	for b := range 256 {
		if b == '\n' {
			continue
		}
		one := string([]byte{byte(b)})
		hold(t, "a;"+one+"\nb", placed(name("a"), 1, 1), placed(name("b"), 2, 1))
		hold(t, "a ;"+one, placed(name("a"), 1, 1))
	}
}

func TestWhatStandsBetweenEndsWords(t *testing.T) {
	holdWords(t, "a b", []int{1, 3}, name("a"), name("b"))
	holdWords(t, "? a", []int{1, 3}, self(), name("a"))
	holdWords(t, "1 2", []int{1, 3}, whole("1", 1), whole("2", 2))
	holdWords(t, "1 .. 2", []int{1, 3, 6}, whole("1", 1), sign(".."), whole("2", 2))
	holdWords(t, "< = > = < >", []int{1, 3, 5, 7, 9, 11}, sign("<"), sign("="), sign(">"), sign("="), sign("<"), sign(">"))
	hold(t, "<\n=", placed(sign("<"), 1, 1), placed(sign("="), 2, 1))
	hold(t, "a\nb", placed(name("a"), 1, 1), placed(name("b"), 2, 1))
	hold(t, "?\na", placed(self(), 1, 1), placed(name("a"), 2, 1))
	refuse(t, "# a", 1, 1, api.ErrForm)
	refuse(t, "#\na", 1, 1, api.ErrForm)
	refuse(t, "1. 5", 1, 2, api.ErrForm)
	refuse(t, "1 .5", 1, 3, api.ErrForm)
	refuse(t, ". .", 1, 1, api.ErrForm)
	refuse(t, ".\n.", 1, 1, api.ErrForm)
}

// P6.1: a word is as long as it can be

func TestLexOfWordsWithNothingBetween(t *testing.T) {
	holdWords(t, "a?b?c", []int{1, 2, 4}, name("a"), variable("b"), variable("c"))
	holdWords(t, "a1#b2#c", []int{1, 3, 6}, name("a1"), sym("b2"), sym("c"))
	holdWords(t, "1a", []int{1, 2}, whole("1", 1), name("a"))
	holdWords(t, "1.5a", []int{1, 4}, dec("1.5", 15000), name("a"))
	holdWords(t, "0x1", []int{1, 2}, whole("0", 0), name("x1"))
	holdWords(t, "1e3", []int{1, 2}, whole("1", 1), name("e3"))
	holdWords(t, `"a""b"`, []int{1, 4}, text("a", "a"), text("b", "b"))
	holdWords(t, `""""`, []int{1, 3}, text("", ""), text("", ""))
	holdWords(t, `a"b"c`, []int{1, 2, 5}, name("a"), text("b", "b"), name("c"))
	holdWords(t, `1"2"3`, []int{1, 2, 5}, whole("1", 1), text("2", "2"), whole("3", 3))
	holdWords(t, `?"a"#b"c"`, []int{1, 2, 5, 7}, self(), text("a", "a"), sym("b"), text("c", "c"))
	holdWords(t, "-1", []int{1, 2}, sign("-"), whole("1", 1))
	holdWords(t, "--1.5-", []int{1, 2, 3, 6}, sign("-"), sign("-"), dec("1.5", 15000), sign("-"))
	holdWords(t, "1-2+3*4/5", []int{1, 2, 3, 4, 5, 6, 7, 8, 9}, whole("1", 1), sign("-"), whole("2", 2), sign("+"), whole("3", 3), sign("*"), whole("4", 4), sign("/"), whole("5", 5))
	holdWords(t, "()[],:", []int{1, 2, 3, 4, 5, 6}, sign("("), sign(")"), sign("["), sign("]"), sign(","), sign(":"))
	holdWords(t, "nota", []int{1}, name("nota"))
	holdWords(t, "a..b", []int{1, 2, 4}, name("a"), sign(".."), name("b"))
}

func TestLexOfSelf(t *testing.T) {
	holdWords(t, "?1", []int{1, 2}, self(), whole("1", 1))
	holdWords(t, "?1a", []int{1, 2, 3}, self(), whole("1", 1), name("a"))
	holdWords(t, "??", []int{1, 2}, self(), self())
	holdWords(t, "??a?", []int{1, 2, 4}, self(), variable("a"), self())
	holdWords(t, "?#a", []int{1, 2}, self(), sym("a"))
	holdWords(t, "?..", []int{1, 2}, self(), sign(".."))
	holdWords(t, "?)", []int{1, 2}, self(), sign(")"))
	holdWords(t, "? ", []int{1}, self())
	holdWords(t, "?;a", []int{1}, self())
	refuse(t, "?A", 1, 2, api.ErrForm)
	refuse(t, "?_", 1, 2, api.ErrForm)
	refuse(t, "?\xff", 1, 2, api.ErrForm)
	for b := range 256 {
		s := "?" + string([]byte{byte(b)})
		if 'a' <= b && b <= 'z' {
			hold(t, s, placed(variable(s[1:]), 1, 1))
			hold(t, s+"9", placed(variable(s[1:]+"9"), 1, 1))
		} else if l, _, e := Lex(s); e == api.OK && l[0] != placed(self(), 1, 1) {
			t.Errorf("Lex(%q) begins with %v", s, l[0])
		}
	}
}

func TestLexOfLongNames(t *testing.T) {
	holdWords(t, twelve+" "+twelve, []int{1, 14}, name(twelve), name(twelve))
	holdWords(t, "a?"+twelve+"#"+twelve+"?", []int{1, 2, 15, 28}, name("a"), variable(twelve), sym(twelve), self())
	for _, long := range []string{thirteen, "a123456789012", thirteen + thirteen, strings.Repeat("a", 201), strings.Repeat("a", 403), strings.Repeat("z9", 30000)} {
		for _, ahead := range []string{"", "?", "#"} {
			refuse(t, ahead+long, 1, 1, api.ErrForm)
			refuse(t, "a "+ahead+long+" b", 1, 3, api.ErrForm)
			refuse(t, "1\n "+ahead+long, 2, 2, api.ErrForm)
		}
	}
	// the thirteenth byte is of another word
	holdWords(t, twelve+"(", []int{1, 13}, name(twelve), sign("("))
	holdWords(t, "?"+twelve+"?", []int{1, 14}, variable(twelve), self())
	holdWords(t, "#"+twelve+"..", []int{1, 14}, sym(twelve), sign(".."))
}

func TestLexOfPoints(t *testing.T) {
	holdWords(t, "1..2", []int{1, 2, 4}, whole("1", 1), sign(".."), whole("2", 2))
	holdWords(t, "1..", []int{1, 2}, whole("1", 1), sign(".."))
	holdWords(t, "..1", []int{1, 3}, sign(".."), whole("1", 1))
	holdWords(t, "1.5..2.5", []int{1, 4, 6}, dec("1.5", 15000), sign(".."), dec("2.5", 25000))
	holdWords(t, "1....2", []int{1, 2, 4, 6}, whole("1", 1), sign(".."), sign(".."), whole("2", 2))
	holdWords(t, "....", []int{1, 3}, sign(".."), sign(".."))
	holdWords(t, "10..20", []int{1, 3, 5}, whole("10", 10), sign(".."), whole("20", 20))
	for s, col := range map[string]int{
		".": 1, "1.": 2, "12.": 3, "1.a": 2, "1.-1": 2, "1.)": 2, "1.;": 2, ".5": 1, "1...2": 4, "1...": 4, "...": 3, ".....": 5, "1.5.5": 4, "1.5.": 4, "1.5...5": 6, "a.b": 2, "a.1": 2, "?.1": 2, ".a": 1, "..a.": 4,
	} {
		refuse(t, s, 1, col, api.ErrForm)
	}
}

func TestLexOfSigns(t *testing.T) {
	for _, x := range []struct {
		s     string
		parts []string
	}{
		{"<=>", []string{"<=", ">"}}, {"<>=", []string{"<>", "="}}, {"<<=", []string{"<", "<="}}, {"<<>", []string{"<", "<>"}}, {"=<", []string{"=", "<"}}, {"=>", []string{"=", ">"}}, {"==", []string{"=", "="}}, {"><", []string{">", "<"}}, {">>", []string{">", ">"}}, {">>=", []string{">", ">="}}, {"<<", []string{"<", "<"}}, {"<==", []string{"<=", "="}}, {">==", []string{">=", "="}}, {"><=", []string{">", "<="}}, {"<>>=", []string{"<>", ">="}}, {"<=<>>=..", []string{"<=", "<>", ">=", ".."}}, {">=..<", []string{">=", "..", "<"}}, {"->", []string{"-", ">"}}, {"::", []string{":", ":"}}, {":=", []string{":", "="}}, {"/=", []string{"/", "="}}, {"-=", []string{"-", "="}}, {"=..=", []string{"=", "..", "="}},
	} {
		var want []api.Tok
		col := 1
		for _, p := range x.parts {
			want = append(want, placed(sign(p), 1, col))
			col += len(p)
		}
		hold(t, x.s, want...)
	}
}

// P6.1: strings

func TestLexOfStrings(t *testing.T) {
	for _, x := range []struct{ s, of string }{
		{`\"`, `"`}, {`\\`, `\`}, {`\\\\`, `\\`}, {`\\\"`, `\"`}, {`\"\\`, `"\`}, {`\"\"`, `""`}, {`a\"b`, `a"b`}, {`a\\`, `a\`}, {`\\n`, `\n`}, {`\" \" `, `" " `},
		{strings.Repeat("x", 200), strings.Repeat("x", 200)}, {strings.Repeat(`\"`, 200), strings.Repeat(`"`, 200)}, {strings.Repeat(`\\`, 200), strings.Repeat(`\`, 200)},
	} {
		hold(t, `"`+x.s+`"`, placed(text(x.s, x.of), 1, 1))
		hold(t, `"`+x.s+`"a"`+x.s+`"`, placed(text(x.s, x.of), 1, 1), placed(name("a"), 1, 3+len(x.s)), placed(text(x.s, x.of), 1, 4+len(x.s)))
	}
	for b := 32; b <= 126; b++ {
		one := string([]byte{byte(b)})
		if b == '"' || b == '\\' {
			hold(t, `"\`+one+`"`, placed(text(`\`+one, one), 1, 1))
			continue
		}
		hold(t, `"`+one+`"`, placed(text(one, one), 1, 1))
		refuse(t, `"\`+one+`"`, 1, 1, api.ErrForm)
	}
	// a backslash behind a backslash takes nothing with it
	holdWords(t, `"\\" "a"`, []int{1, 6}, text(`\\`, `\`), text("a", "a"))
	holdWords(t, `"\\"a"\""`, []int{1, 5, 6}, text(`\\`, `\`), name("a"), text(`\"`, `"`))
}

func TestLexOfOtherStrings(t *testing.T) {
	for _, s := range []string{
		`"`, `"a`, `"a b`, `"\`, `"\"`, `"a\"`, `"\\\"`, `"a\" b`, `"a;`, "\"a\n", "\"a\nb\"", "\"\n\"", "\"\\\n\"", `"""`, `"\a"`, `"\n"`, `"\ "`, `"a\bc"`, `"\\\a"`,
		`"` + strings.Repeat("x", 201) + `"`, `"` + strings.Repeat(`\"`, 201) + `"`, `"` + strings.Repeat(`\\`, 201) + `"`, `"` + strings.Repeat("x", 60000) + `"`, `"` + strings.Repeat("x", 60000), `"` + strings.Repeat(`\"`, 30000),
		"\"é\"", "\"\\é\"",
	} {
		col := 1
		if s == `"""` {
			col = 3
		}
		refuse(t, s, 1, col, api.ErrForm)
		refuse(t, "a\n; b\n "+s, 3, 1+col, api.ErrForm)
	}
	for b := range 256 {
		if 32 <= b && b <= 126 {
			continue
		}
		one := string([]byte{byte(b)})
		refuse(t, `a "b`+one+`c" d`, 1, 3, api.ErrForm)
		refuse(t, `"`+one+`"`, 1, 1, api.ErrForm)
		refuse(t, `"`+one, 1, 1, api.ErrForm)
		refuse(t, `"\`+one+`"`, 1, 1, api.ErrForm)
	}
}

// P6.1: places

func TestPlaces(t *testing.T) {
	hold(t, "a\nb c\n\n  d", placed(name("a"), 1, 1), placed(name("b"), 2, 1), placed(name("c"), 2, 3), placed(name("d"), 4, 3))
	hold(t, "; é\n;\n a ; b\n  \"c\"d\n", placed(name("a"), 3, 2), placed(text("c", "c"), 4, 3), placed(name("d"), 4, 6))
	hold(t, "  a\n;x\n ?b#c", placed(name("a"), 1, 3), placed(variable("b"), 3, 2), placed(sym("c"), 3, 4))
	hold(t, "\n\n\n? .. <=", placed(self(), 4, 1), placed(sign(".."), 4, 3), placed(sign("<="), 4, 6))
	hold(t, "1.5\n\"\\\"\"1", placed(dec("1.5", 15000), 1, 1), placed(text(`\"`, `"`), 2, 1), placed(whole("1", 1), 2, 5))
	hold(t, strings.Repeat("\n", 65535)+"a", placed(name("a"), 65536, 1))
	hold(t, strings.Repeat(" ", 65535)+"a", placed(name("a"), 1, 65536))
	hold(t, strings.Repeat(";", 60000)+"\n a", placed(name("a"), 2, 2))
	refuse(t, "a\nb !", 2, 3, api.ErrForm)
	refuse(t, "; !\n; \"\n\n  #", 4, 3, api.ErrForm)
	refuse(t, strings.Repeat("\n", 65535)+"!", 65536, 1, api.ErrForm)
	refuse(t, strings.Repeat(" ", 65535)+"!", 1, 65536, api.ErrForm)
}

// P6.1: ErrLong

func TestLexOfLongSources(t *testing.T) {
	hold(t, strings.Repeat(" ", 65536))
	hold(t, strings.Repeat("\n", 65536))
	hold(t, strings.Repeat(";", 65536))
	for _, x := range []struct {
		s string
		n int
	}{{"(", 65536}, {"? ", 32768}, {"a ", 32768}, {"<=", 32768}, {"?a", 32768}, {"1,", 65536}, {`""`, 32768}, {"#a;\n", 16384}} {
		s := strings.Repeat(x.s, 65536/len(x.s))
		if l, p, e := Lex(s); len(s) != 65536 || len(l) != x.n || p != (api.Place{}) || e != api.OK {
			t.Errorf("Lex of %q again and again: %d words, %v, %d; want %d", x.s, len(l), p, e, x.n)
		}
	}
	for _, s := range []string{" ", "\n", ";", "(", "?", "!", "1", "\"", "\x00", "a", ".", "#"} {
		for _, n := range []int{65537, 65538, 131072, 1 << 20} {
			refuse(t, strings.Repeat(s, n), 0, 0, api.ErrLong)
		}
	}
	// told ahead of what else may be wrong with it
	refuse(t, "!"+strings.Repeat(" ", 65536), 0, 0, api.ErrLong)
	refuse(t, "9223372036854775808"+strings.Repeat(" ", 65536), 0, 0, api.ErrLong)
	refuse(t, strings.Repeat(" ", 65536)+"a", 0, 0, api.ErrLong)
}

// P6.1: ErrForm and ErrOver

func TestLexOfBytesThatBeginNone(t *testing.T) {
	for b := range 256 {
		if 'a' <= b && b <= 'z' || '0' <= b && b <= '9' || strings.IndexByte(" \n;?\"#()[],:=<>+-*/.", byte(b)) >= 0 {
			continue
		}
		one := string([]byte{byte(b)})
		for _, behind := range []string{"", " ", "\n", "a", "1", ".", one} {
			refuse(t, one+behind, 1, 1, api.ErrForm)
			refuse(t, " "+one+behind, 1, 2, api.ErrForm)
			refuse(t, "a\n b"+one+behind, 2, 3, api.ErrForm)
			refuse(t, "1"+one+behind, 1, 2, api.ErrForm)
			refuse(t, "<"+one+behind, 1, 2, api.ErrForm)
			refuse(t, "?"+one+behind, 1, 2, api.ErrForm)
			refuse(t, `"a"`+one+behind, 1, 4, api.ErrForm)
		}
	}
}

func TestLexOfNoSymbols(t *testing.T) {
	for _, s := range []string{"#", "##", "##a", "#1", "#1a", "#A", "#Ab", "#_", "#?", "#?a", "#(", "#\"a\"", "#-a", "#.", "#;a", "#é", "#\xff", "#\x00", "#" + thirteen} {
		refuse(t, s, 1, 1, api.ErrForm)
		refuse(t, "?x "+s+" b", 1, 4, api.ErrForm)
		refuse(t, "\n#b"+s, 2, 3, api.ErrForm)
	}
	// what ends a symbol is looked at by itself
	refuse(t, "#aB", 1, 3, api.ErrForm)
	refuse(t, "#a_b", 1, 3, api.ErrForm)
	refuse(t, "aB", 1, 2, api.ErrForm)
	refuse(t, "?a_", 1, 3, api.ErrForm)
}

func TestLexOfNumbersThatAreNone(t *testing.T) {
	for _, s := range []string{"007", "00", "01", "00.5", "01.5", "1.50", "1.00", "0.00", "0.10", "20.00", "1.12345", "0.00001", "1.00000", "09223372036854775808", "9223372036854775808.00000", strings.Repeat("0", 403), strings.Repeat("9", 403), strings.Repeat("1", 60000), strings.Repeat("1", 402) + ".5", "1." + strings.Repeat("1", 401)} {
		refuse(t, s, 1, 1, api.ErrForm)
		refuse(t, "a "+s+" 9223372036854775808", 1, 3, api.ErrForm)
		refuse(t, "-"+s+")", 1, 2, api.ErrForm)
	}
	for _, s := range []string{"9223372036854775808", "99999999999999999999", "18446744073709551616", strings.Repeat("9", 402), "922337203685477.5808", "922337203685478.0", "9223372036854775808.5", "922337203685477.60", strings.Repeat("9", 397) + ".9999"} {
		refuse(t, s, 1, 1, api.ErrOver)
		refuse(t, "a "+s+" 007", 1, 3, api.ErrOver)
		refuse(t, "-"+s+")", 1, 2, api.ErrOver)
		refuse(t, "\n;\n "+s+"!", 3, 2, api.ErrOver)
		refuse(t, "1.."+s, 1, 4, api.ErrOver)
	}
}

func TestTheFirstThatIsNoneIsTold(t *testing.T) {
	const over = "9223372036854775808"
	refuse(t, "! "+over, 1, 1, api.ErrForm)
	refuse(t, over+" !", 1, 1, api.ErrOver)
	refuse(t, over+"!", 1, 1, api.ErrOver)
	refuse(t, "a ! !", 1, 3, api.ErrForm)
	refuse(t, "a\n "+over+" \"", 2, 2, api.ErrOver)
	refuse(t, "\" "+over, 1, 1, api.ErrForm)
	refuse(t, "# "+over, 1, 1, api.ErrForm)
	refuse(t, thirteen+" "+over, 1, 1, api.ErrForm)
	refuse(t, "; !\n"+over, 2, 1, api.ErrOver)
	refuse(t, "\"!\""+over, 1, 4, api.ErrOver)
}

// What is told has memory of its own: the bytes behind the source may change.
func TestTheSourceIsNotKept(t *testing.T) {
	const s = `ab ?cd 12 1.5 "ef\"" #gh <= ( "ij"`
	b := []byte(s)
	l, _, e := Lex(unsafe.String(&b[0], len(b)))
	for i := range b {
		b[i] = '!'
	}
	want, _, f := Lex(s)
	if e != api.OK || f != api.OK || !slices.Equal(l, want) {
		t.Errorf("%v, %d; want %v, %d", l, e, want, f)
	}
}

func TestAnswersAreApart(t *testing.T) {
	a, _, _ := Lex("a 1 #b")
	b, _, _ := Lex("a 1 #b")
	for i := range a {
		a[i] = self()
	}
	c, _, _ := Lex("a 1 #b")
	if !slices.Equal(b, c) || b[0] != placed(name("a"), 1, 1) {
		t.Errorf("%v, %v", b, c)
	}
}

// P6.2

func TestName(t *testing.T) {
	for _, s := range []string{"a", "z", "m", "a0", "z9", "a1b2", "abc", "a00000000000", twelve, "rule", "true", "null", "not", "end", "person"} {
		if !Name(s) {
			t.Errorf("Name(%q) = false", s)
		}
	}
	for _, s := range []string{
		"", " ", "0", "1", "9a", "1a", "A", "Z", "Ab", "aB", "abC", "_", "a_", "a_b", "-a", "a-b", "a b", " a", "a ", "a\n", "\na", "?a", "#a", "\"a\"", "a.b", "a\x00", "\x00", "\xff", "a\xff", "é", "aé", "a{", "a`", "a/", "a:", "`", "{",
		thirteen, "a000000000000", strings.Repeat("a", 14), strings.Repeat("a", 200), strings.Repeat("a", 1<<20), strings.Repeat(" ", 12), "1" + twelve, twelve + " ", "abcdefghijkL",
	} {
		if Name(s) {
			t.Errorf("Name(%q) = true", s)
		}
	}
}

// Every byte stands at every place of a text of every length, and of one alone.
func TestNameOfEachByte(t *testing.T) {
	for n := 1; n <= 14; n++ {
		for i := range n {
			for b := range 256 {
				s := []byte(thirteen + "n")[:n]
				s[i] = byte(b)
				if got, want := Name(string(s)), nameForm.MatchString(string(s)); got != want {
					t.Errorf("Name(%q) = %t", s, got)
				}
			}
		}
	}
}

// A text is a name, if it is a word by itself that is one; so it stands behind ? and #.
func TestNamesAreWords(t *testing.T) {
	for _, s := range []string{"a", "a1", twelve, "rule", thirteen, "", "1", "A", "a b", "a.", "1a", "a\n", "é", "?a", "a;"} {
		for ahead, w := range map[string]api.Tok{"": name(s), "?": variable(s), "#": sym(s)} {
			l, _, e := Lex(ahead + s)
			is := e == api.OK && len(l) == 1 && l[0] == placed(w, 1, 1) && !strings.ContainsAny(s, " \n;")
			if is != Name(s) {
				t.Errorf("Lex(%q) = %v, %d, but Name is %t", ahead+s, l, e, Name(s))
			}
		}
	}
}
