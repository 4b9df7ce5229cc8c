package lexer

import (
	"math/rand"
	"regexp"
	"slices"
	"strings"
	"testing"

	"witan/api"
	"witan/vtext"
)

// wordForm is how words of a kind are written; group 1 is the Text.
type wordForm struct {
	kind uint8
	form *regexp.Regexp
}

var (
	betweenForm = regexp.MustCompile(`\A(?: |\n|;[^\n]*)*`)
	nameForm    = regexp.MustCompile(`\A[a-z][a-z0-9]{0,11}\z`)
	wordForms   = []wordForm{
		{api.TokName, regexp.MustCompile(`\A([a-z][a-z0-9]*)`)},
		{api.TokVar, regexp.MustCompile(`\A\?([a-z][a-z0-9]*)`)},
		{api.TokSelf, regexp.MustCompile(`\A\?()`)},
		{api.TokNumber, regexp.MustCompile(`\A([0-9]+(?:\.[0-9]+)?)`)},
		{api.TokString, regexp.MustCompile(`\A"((?:[ !#-\[\]-~]|\\[ -~])*)"`)},
		{api.TokSym, regexp.MustCompile(`\A#([a-z][a-z0-9]*)`)},
		{api.TokSign, regexp.MustCompile(`\A(<=|>=|<>|\.\.|[()\[\],:=<>+\-*/])`)},
	}
)

// model reads the chapter's table by patterns, and reckons places from the source's start.
func model(s string) ([]api.Tok, api.Place, api.Errno) {
	if len(s) > 65536 {
		return nil, api.Place{}, api.ErrLong
	}
	var l []api.Tok
	next := len(betweenForm.FindString(s))
	for next < len(s) {
		at := api.Place{Line: 1 + strings.Count(s[:next], "\n"), Col: next - strings.LastIndex(s[:next], "\n")}
		w, n, e := modelWord(s[next:])
		if e != api.OK {
			return nil, at, e
		}
		w.At = at
		l = append(l, w)
		next += n
		next += len(betweenForm.FindString(s[next:]))
	}
	return l, api.Place{}, api.OK
}

func modelWord(s string) (api.Tok, int, api.Errno) {
	for _, f := range wordForms {
		m := f.form.FindStringSubmatch(s)
		if m == nil {
			continue
		}
		w := api.Tok{Kind: f.kind, Text: m[1]}
		e := api.OK
		switch f.kind {
		case api.TokName, api.TokVar, api.TokSym:
			if !nameForm.MatchString(w.Text) {
				e = api.ErrForm
			}
		}
		switch f.kind {
		case api.TokNumber, api.TokString, api.TokSym:
			w.V, e = vtext.Parse(m[0])
		}
		if e != api.OK && e != api.ErrOver {
			e = api.ErrForm
		}
		return w, len(m[0]), e
	}
	return api.Tok{}, 0, api.ErrForm
}

func against(t *testing.T, s string) {
	t.Helper()
	got, p, e := Lex(s)
	want, q, f := model(s)
	if !slices.Equal(got, want) || p != q || e != f {
		t.Errorf("Lex(%.300q) = %v, %v, %d; want %v, %v, %d", s, got, p, e, want, q, f)
	}
}

// P6.1: every text of up to so many of these letters.

func TestLexOfShortTexts(t *testing.T) {
	for _, x := range []struct {
		letters string
		most    int
	}{
		{"a1?#.\"\\<> \n;", 5},
		{"01.<=>-?a", 5},
		{"\"\\;\nb ", 7},
		{".1", 12},
		{"()[],:=<>+-*/.?#\"a1;! \x7f\x00\xffA_", 3},
	} {
		var each func(s string, left int)
		each = func(s string, left int) {
			against(t, s)
			if left == 0 {
				return
			}
			for _, b := range []byte(x.letters) {
				each(s+string([]byte{b}), left-1)
			}
		}
		each("", x.most)
		if t.Failed() {
			return
		}
	}
}

// sources are those of every kind of word, with what stands between.
func sources() []string {
	return []string{
		"p1(age:>=18)", "[1..2.5] ; from", "\"a b\" ?x ? #s",
		"template person age:int name:str ; all\nrule old 10 when p: person(age: > 60, n: ?n)\n  test ?n <> \"\" then\n modify p(n: upper(?n)) end",
		"table t sum in x:int out y:int\n row [1..2.5) : ?x * -3 / 4 + 0\n row not(#a, \"b\\\"c\\\\\", -) : 10.0001 end",
		"a?b?#c\"d\"1e2..5<=>=<>..,", ";\n;;\n a ;\n", "\n\n  a\n b;c\n  d",
	}
}

// P6.1: every text that is one byte away from one of these, and every beginning of one.

func TestLexOfTextsNearby(t *testing.T) {
	for _, s := range sources() {
		for i := 0; i <= len(s); i++ {
			against(t, s[:i])
			for b := range 256 {
				one := string([]byte{byte(b)})
				against(t, s[:i]+one+s[i:])
				if i < len(s) {
					against(t, s[:i]+one+s[i+1:])
				}
			}
			if i < len(s) {
				against(t, s[:i]+s[i+1:])
			}
		}
	}
}

func randomText(r *rand.Rand, letters string, n int) string {
	b := make([]byte, n)
	for i := range b {
		b[i] = letters[r.Intn(len(letters))]
	}
	return string(b)
}

// pieces are words, what stands between, and a few that are none.
func pieces() []string {
	return []string{
		"a", "rule", "z9", "abcdefghijkl", "?", "?x", "?abcdefghijkl", "#s", "#abcdefghijkl", "0", "7", "10", "1.5", "0.0005", "922337203685477.5807", "9223372036854775807",
		`""`, `"a b"`, `"\""`, `"\\"`, `";"`, `"#a ?b"`, "(", ")", "[", "]", ",", ":", "=", "<", ">", "+", "-", "*", "/", "<=", ">=", "<>", "..",
		" ", "  ", "\n", "\n\n", " \n ", "; x\n", ";\n", "; \"\xff\t\n", "\n;a;b\n",
	}
}

// P6.1

func TestLexOfOtherTexts(t *testing.T) {
	r := rand.New(rand.NewSource(66))
	p := pieces()
	wrong := []string{".", "!", "A", "#", "007", "1.50", "9223372036854775808", "\"", "\"\\a\"", "abcdefghijklm", "\t", "\xff"}
	met := map[api.Errno]int{}
	for range 20000 {
		var b strings.Builder
		for range r.Intn(30) {
			b.WriteString(p[r.Intn(len(p))])
		}
		if r.Intn(4) == 0 {
			b.WriteString(wrong[r.Intn(len(wrong))])
			b.WriteString(p[r.Intn(len(p))])
		}
		against(t, b.String())
		_, _, e := Lex(b.String())
		met[e]++
		against(t, randomText(r, "ab1.?#\"\\<>=-;\n ()", r.Intn(20)))
		if t.Failed() {
			return
		}
	}
	for _, e := range []api.Errno{api.OK, api.ErrForm, api.ErrOver} {
		if met[e] < 200 {
			t.Errorf("error %d was met %d times only: %v", e, met[e], met)
		}
	}
}

// written tells how a word stands in a source.
func written(w api.Tok) string {
	switch w.Kind {
	case api.TokVar, api.TokSelf:
		return "?" + w.Text
	case api.TokString:
		return `"` + w.Text + `"`
	case api.TokSym:
		return "#" + w.Text
	}
	return w.Text
}

func isSameWord(a, b api.Tok) bool {
	a.At, b.At = api.Place{}, api.Place{}
	return a == b
}

// holdAgain tells the words of s with a blank between, and reads them again.
func holdAgain(t *testing.T, s string) {
	t.Helper()
	l, _, e := Lex(s)
	if e != api.OK {
		t.Errorf("Lex(%q) = %d", s, e)
		return
	}
	var b strings.Builder
	var cols []int
	for i, w := range l {
		if i > 0 {
			b.WriteByte(' ')
		}
		cols = append(cols, b.Len()+1)
		b.WriteString(written(w))
	}
	again, _, e := Lex(b.String())
	if e != api.OK || !slices.EqualFunc(l, again, isSameWord) {
		t.Errorf("Lex(%q) = %v, %d; want %v", b.String(), again, e, l)
		return
	}
	for i, w := range again {
		if w.At != (api.Place{Line: 1, Col: cols[i]}) {
			t.Errorf("word %d of %q is at %v, want column %d", i, b.String(), w.At, cols[i])
		}
	}
}

// 'What follows' of the chapter.
func TestWordsAreReadAgain(t *testing.T) {
	for _, s := range sources() {
		holdAgain(t, s)
	}
	r := rand.New(rand.NewSource(67))
	p := pieces()
	for range 5000 {
		var l []string
		for range r.Intn(30) {
			l = append(l, p[r.Intn(len(p))])
		}
		holdAgain(t, strings.Join(l, " "))
		holdAgain(t, strings.Join(l, "\n"))
	}
}
