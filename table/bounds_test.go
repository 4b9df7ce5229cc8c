package table

import (
	"fmt"
	"slices"
	"strings"
	"testing"

	"witan/api"
)

// head is a table as far as its rows; body is rows.
const head = "table t any in x:int out y:int"

// numbered tells n of such a part, in which % stands for its number.
func numbered(n int, between, part string) string {
	var l []string
	for i := range n {
		l = append(l, strings.ReplaceAll(part, "%", fmt.Sprint(i)))
	}
	return strings.Join(l, between)
}

// wide is a table as far as its rows, of so many inputs and outputs.
func wide(ins, outs int) string {
	return "table t any in " + numbered(ins, " ", "x%:int") + " out " + numbered(outs, " ", "y%:int")
}

// takes asks that s is read, with so many values, inputs, outputs and rows.
func takes(t *testing.T, s string, values, ins, outs, rows int) {
	t.Helper()
	a, at, e := Parse(s)
	if e != api.OK || at != (api.Place{}) {
		t.Errorf("Parse(%.500q): %v, %d", s, at, e)
		return
	}
	if len(a.Order) != values || len(a.In) != ins || len(a.Out) != outs || len(a.Rows) != rows {
		t.Errorf("Parse(%.500q): %d values, %d inputs, %d outputs, %d rows", s, len(a.Order), len(a.In), len(a.Out), len(a.Rows))
	}
	for _, r := range a.Rows {
		if len(r.Tests) != ins || len(r.Outs) != outs {
			t.Errorf("Parse(%.500q): a row of %d tests, %d expressions", s, len(r.Tests), len(r.Outs))
		}
	}
}

// anyWords are words of all kinds, in places where most can't stand.
var anyWords = []string{"x", "1", "1.5", "\"u\"", "#s", "?x", "?", "(", ")", "[", ":", ",", "-", "=", "..", "true", "null", "int", "table", "in", "out", "row", "end", "not", "any", "priority", "x:int", "1 : 1", "- 1"}

// behind asks that ahead, with each of those words behind it but those that go
// on, and with none, is told that error at that word.
func behind(t *testing.T, ahead string, want api.Errno, but ...string) {
	t.Helper()
	for _, w := range anyWords {
		if !slices.Contains(but, strings.Split(w, " ")[0]) {
			refuse(t, ahead+" ^"+w, want)
			refuse(t, ahead+" \n; remark\n  ^"+w+" end", want)
			refuse(t, ahead+" ^"+w+" row 1 : 1 end", want)
		}
	}
	refuse(t, ahead+"^", want)
	refuse(t, ahead+"^ \n; remark\n\n", want)
}

// P15.1: thirty-two values, and one more.
func TestManyValues(t *testing.T) {
	for _, v := range []string{"%", "-%", "- %", "%.5", "-0.5", "\"u%\"", "#s%", "true", "false"} {
		for n := 1; n <= 32; n++ {
			takes(t, "table t priority "+numbered(n, " ", v)+" in x:int out y:int end", n, 1, 1, 0)
		}
		full := "table t priority " + numbered(32, " ", v)
		behind(t, full, api.ErrMany, "in")
		refuse(t, full+" ^"+strings.ReplaceAll(v, "%", "7")+" in x:int out y:int end", api.ErrMany)
		refuse(t, full+" ^\"in\" x:int out y:int end", api.ErrMany)
		refuse(t, full+" ^#in x:int out y:int end", api.ErrMany)
		refuse(t, full+" ^ins x:int out y:int end", api.ErrMany)
		refuse(t, full+" ^-in", api.ErrMany)
		refuse(t, full+" ^- 5 in", api.ErrMany)
		refuse(t, full+" in^", api.ErrForm)
		refuse(t, full+" in ^in", api.ErrForm)
		fewer := "table t priority " + numbered(31, " ", v)
		refuse(t, fewer+" ^null", api.ErrForm)
		refuse(t, fewer+" ^out", api.ErrForm)
		refuse(t, fewer+"^", api.ErrForm)
		refuse(t, fewer+" -^", api.ErrForm)
		refuse(t, fewer+" - ^in", api.ErrForm)
		refuse(t, fewer+" -5 ^-5 in", api.ErrMany)
		refuse(t, fewer+" 5 ^in5", api.ErrMany)
	}
	takes(t, "table t priority "+numbered(8, " ", "1 -2 \"u\" #s")+" in x:int out y:int end", 32, 1, 1, 0)
	refuse(t, "table t priority "+numbered(8, " ", "1 -2 \"u\" #s")+" ^1 in x:int out y:int end", api.ErrMany)
}

// P15.1: four inputs, four outputs, and one more.
func TestManySlots(t *testing.T) {
	for ins := 1; ins <= 4; ins++ {
		for outs := 1; outs <= 4; outs++ {
			takes(t, wide(ins, outs)+" end", 0, ins, outs, 0)
			takes(t, wide(ins, outs)+" row "+numbered(ins, ", ", "> %")+" : "+numbered(outs, ", ", "%")+" end", 0, ins, outs, 1)
			takes(t, strings.Replace(wide(ins, outs), "any", "priority 1 2", 1)+" end", 2, ins, outs, 0)
		}
		if ins < 4 {
			refuse(t, "table t any in "+numbered(ins, " ", "x:int")+" ^end", api.ErrForm)
			refuse(t, "table t any in "+numbered(ins, " ", "x:int")+" ^1:int", api.ErrForm)
			refuse(t, "table t any in "+numbered(ins, " ", "x:int")+"^", api.ErrForm)
			refuse(t, wide(4, ins)+" ^out", api.ErrForm)
			refuse(t, wide(4, ins)+" ^1:int", api.ErrForm)
			refuse(t, wide(1, ins)+"^", api.ErrForm)
		}
	}
	full := "table t any in " + numbered(4, " ", "x:int")
	behind(t, full, api.ErrMany, "out")
	refuse(t, full+" ^x:int out y:int end", api.ErrMany)
	refuse(t, full+" ^e:int out y:int end", api.ErrMany)
	refuse(t, full+" ^\"out\" y:int end", api.ErrMany)
	refuse(t, full+" ^outs:int", api.ErrMany)
	refuse(t, full+" out^", api.ErrForm)
	refuse(t, "table t any in "+numbered(3, " ", "x:int")+" y:int ^z:int", api.ErrMany)
	for ins := 1; ins <= 4; ins++ {
		full := wide(ins, 4)
		behind(t, full, api.ErrMany, "row", "end")
		refuse(t, full+" ^y:int end", api.ErrMany)
		refuse(t, full+" ^\"end\"", api.ErrMany)
		refuse(t, full+" ^#row", api.ErrMany)
		refuse(t, full+" ^ends", api.ErrMany)
		refuse(t, full+" ^out", api.ErrMany)
		refuse(t, full+" row^", api.ErrForm)
		refuse(t, full+" end ^end", api.ErrForm)
	}
}

// P15.1: thirty-two rows, and one more.
func TestManyRows(t *testing.T) {
	for _, x := range []struct{ row, ahead string }{
		{"row % : %", head}, {"row - : ?x", head}, {"row -, > % : %, 2", wide(2, 2)}, {"row 1, 2, 3, 4 : 5, 6, 7, 8", wide(4, 4)}, {"row not(1, 2), [3 .. 4] : min(1, 2)", wide(2, 1)},
	} {
		ins, outs := strings.Count(x.ahead, "x"), strings.Count(x.ahead, "y")-1 // "any" has one, too
		for n := range 33 {
			takes(t, x.ahead+" "+numbered(n, "\n", x.row)+" end", 0, ins, outs, n)
		}
		full := x.ahead + " " + numbered(32, "\n", x.row)
		goesOn := []string{"end", ",", "-", "="}
		behind(t, full, api.ErrMany, goesOn...)
		refuse(t, full+" ^"+strings.ReplaceAll(x.row, "%", "5")+" end", api.ErrMany)
		refuse(t, full+" ^row", api.ErrMany)
		refuse(t, full+" ^row : : :", api.ErrMany)
		refuse(t, full+" ^\"end\"", api.ErrMany)
		refuse(t, full+" ^#end", api.ErrMany)
		refuse(t, full+" ^ends", api.ErrMany)
		refuse(t, full+" ^end1", api.ErrMany)
		refuse(t, full+", ^1 end", api.ErrMany)
		refuse(t, full+" end ^end", api.ErrForm)
		refuse(t, full+" end ^row", api.ErrForm)
		fewer := x.ahead + " " + numbered(31, "\n", x.row)
		refuse(t, fewer+" ^out", api.ErrForm)
		refuse(t, fewer+"^", api.ErrForm)
		refuse(t, fewer+" ^1 end", api.ErrForm)
		refuse(t, fewer+" row^", api.ErrForm)
		refuse(t, fewer+" "+strings.ReplaceAll(x.row, "%", "5")+" ^row", api.ErrMany)
	}
}

// rowOf writes a row of those tests and expressions.
func rowOf(tests, outs []string) string {
	return " row " + strings.Join(tests, ", ") + " : " + strings.Join(outs, ", ")
}

// ones tells so many tests, or expressions, that may be.
func ones(n int) []string {
	return slices.Repeat([]string{"1"}, n)
}

// P15.1: too few tests of a row: at the word behind the last one, whatever it is.
func TestTooFewTests(t *testing.T) {
	for ins := 2; ins <= 4; ins++ {
		for n := 1; n < ins; n++ {
			for _, last := range []string{"1", "-", "> 1", "[1 .. 2]", "not(1, 2)", "?x0"} {
				for _, rows := range []int{0, 1, 31} {
					ahead := wide(ins, 2) + strings.Repeat(rowOf(ones(ins), ones(2)), rows) + " row " + numbered(n-1, "", "> %, ") + last
					but := []string{",", "-", "="}
					if last == "-" {
						but = []string{",", "-", "1", "1.5", "\"u\"", "#s", "?x", "?", "(", "true", "null"}
					}
					if rows < 31 {
						behind(t, ahead, api.ErrMany, but...)
					}
					refuse(t, ahead+" ^: 1, 2 end", api.ErrMany)
					refuse(t, ahead+" ^: 1 end", api.ErrMany)
					refuse(t, ahead+" ^: : min()", api.ErrMany)
					refuse(t, ahead+" ^end", api.ErrMany)
					refuse(t, ahead+",^", api.ErrForm)
					refuse(t, ahead+", ^: 1, 2 end", api.ErrForm)
					refuse(t, ahead+", ^, 1 : 1, 2 end", api.ErrForm)
					refuse(t, ahead+", ^end", api.ErrForm)
					refuse(t, ahead+", mod(1^) : 1, 2 end", api.ErrMany)
					refuse(t, ahead+", not(^) : 1, 2 end", api.ErrForm)
				}
			}
		}
	}
}

// P15.1: too few expressions likewise.
func TestTooFewExpressions(t *testing.T) {
	for outs := 2; outs <= 4; outs++ {
		for n := 1; n < outs; n++ {
			for _, last := range []string{"1", "?x0", "min(1, 2)", "(1)", "?x0 + 1 = 2"} {
				for _, rows := range []int{0, 1, 31} {
					ahead := wide(2, outs) + strings.Repeat(rowOf(ones(2), ones(outs)), rows) + " row 1, - : " + numbered(n-1, "", "%, ") + last
					if rows < 31 {
						behind(t, ahead, api.ErrMany, ",", "-", "=")
					}
					refuse(t, ahead+" ^row 1, 2 : 1", api.ErrMany)
					refuse(t, ahead+" ^row", api.ErrMany)
					refuse(t, ahead+" ^end", api.ErrMany)
					refuse(t, ahead+" ^end end", api.ErrMany)
					refuse(t, ahead+",^", api.ErrForm)
					refuse(t, ahead+", ^row 1", api.ErrForm)
					refuse(t, ahead+", ^end", api.ErrForm)
					refuse(t, ahead+", ^, 1 end", api.ErrForm)
					refuse(t, ahead+", mod(1^) end", api.ErrMany)
					refuse(t, ahead+", length(^) end", api.ErrForm)
				}
			}
		}
	}
}

// P15.1: too many tests and expressions of a row: behind the ",", whatever
// stands there.
func TestTooMany(t *testing.T) {
	for n := 1; n <= 4; n++ {
		for _, rows := range []int{0, 1, 30} {
			tests := wide(n, 2) + strings.Repeat(rowOf(ones(n), ones(2)), rows) + " row " + numbered(n, ", ", "> %")
			outs := wide(2, n) + strings.Repeat(rowOf(ones(2), ones(n)), rows) + " row 1, 2 : " + numbered(n, ", ", "%")
			for _, full := range []string{tests, outs} {
				for _, w := range append(anyWords, "2", "2, 3", "mod(1)", "> 1", "[1", "not(", "> 1 : 1, 2 end", "2 end", "2 row 1, 2 : 3") {
					refuse(t, full+", ^"+w, api.ErrMany)
					refuse(t, full+"\n,\n; remark\n  ^"+w+" end", api.ErrMany)
					refuse(t, full+",^"+w+", 2, 3 : 1, 2 end", api.ErrMany)
				}
				refuse(t, full+",^", api.ErrMany)
				refuse(t, full+" ,^ \n; remark\n", api.ErrMany)
				refuse(t, full+"^", api.ErrForm)
			}
			refuse(t, tests+" ^end", api.ErrForm)
			refuse(t, tests+" ^row 1", api.ErrForm)
			refuse(t, outs+" ^: 1", api.ErrForm)
		}
	}
}

// wrongOne is a test, or an expression, at which a text can't go on.
type wrongOne struct {
	text string
	want api.Errno
}

var (
	deep       = strings.Repeat("(", 12)
	wrongExprs = []wrongOne{
		{"1 +^", 4}, {"min(^)", 4}, {"mod(1^)", 14}, {"mod(1, 2^, 3)", 14}, {"min(1, 2, 3, 4, 5, 6, 7, 8^, 9)", 14}, {"length(1^, 2)", 14}, {"length ^1", 4}, {"1 + ^, 2", 4}, {"?x0 * ^:", 4}, {"1 < ^not 2", 4}, {"upper(\"u\" ^\"v\")", 4},
		{deep + "^(1", 12}, {deep + "^not 1", 12}, {deep + "^-1", 12}, {deep + "min^(1)", 12}, {strings.Repeat("not ", 12) + "^(1)", 12},
		{"^1" + strings.Repeat(" + 1", 30), 7}, {"^?x0" + strings.Repeat(" * ?x0", 31), 7}, {"^1" + strings.Repeat(" + 1", 300), 7}, {"1" + strings.Repeat(" + 1", 200) + " +^", 4},
	}
	wrongTests = []wrongOne{
		{"> ^)", 4}, {">^", 4}, {"^<> 1", 4}, {"[1 ..^", 4}, {"[1 .. ^)", 4}, {"[1 .. 2^", 4}, {"[1 .. 2 ^, 3", 4}, {"^[1)", 4}, {"^[1, 2]", 4}, {"(1 ^, 2)", 4}, {"not(^)", 4}, {"not(1 ^]", 4}, {"not(1 ^2)", 4}, {"not(1, ^)", 4}, {"^) : 1", 4}, {"^out", 4},
		{"not(not(not(not(^not(1", 12}, {"not(not(not(not(not ^end", 4}, {"not(not(not(not(2)), not(not(^not(not(1", 12},
		{"^not(1" + strings.Repeat(", 1", 28) + ")", 7}, {"^not(-" + strings.Repeat(", -", 40) + ")", 7}, {"^not(1" + strings.Repeat(", [1 .. 2]", 28) + ")", 7}, {"^not(1" + strings.Repeat(", 1", 300) + ")", 7},
		{"> ^1" + strings.Repeat(" + 1", 30), 7}, {"[1 .. ^1" + strings.Repeat(" + 1", 30) + "]", 7}, {"not(1, mod(2^))", 14},
	}
)

// P15.1: what layers 7 and 11 tell, at their words, at each place of a row, of
// rows of as many, of fewer and of more than there may be.
func TestOtherLayersErrors(t *testing.T) {
	for n := 1; n <= 4; n++ {
		for many := 1; many <= 5; many++ {
			for at := range many {
				want := func(e api.Errno) api.Errno { // the fifth of four is not looked at
					if at >= n {
						return api.ErrMany
					}
					return e
				}
				for _, x := range append(wrongTests, wrongExprs...) {
					if strings.HasPrefix(x.text, "not ") || strings.HasPrefix(x.text, "(") {
						continue // layer 11 takes these otherwise
					}
					l := ones(many)
					l[at] = x.text
					if at >= n {
						l[n] = "^" + strings.Replace(l[n], "^", "", 1)
						if at > n {
							l[at] = strings.Replace(x.text, "^", "", 1)
						}
					}
					refuse(t, wide(n, 2)+" row "+strings.Join(l, ", "), want(x.want))
					if strings.HasSuffix(x.text, ")") || at < many-1 {
						refuse(t, wide(n, 2)+rowOf(l, []string{"1", "min("}), want(x.want))
					}
				}
				for _, x := range wrongExprs {
					l := ones(many)
					l[at] = x.text
					if at >= n {
						l[n] = "^" + strings.Replace(l[n], "^", "", 1)
						if at > n {
							l[at] = strings.Replace(x.text, "^", "", 1)
						}
					}
					refuse(t, wide(2, n)+rowOf([]string{"-", "> 1"}, l), want(x.want))
					refuse(t, wide(2, n)+rowOf(ones(2), ones(n))+rowOf([]string{"-", "not(1, 2)"}, l), want(x.want))
				}
			}
		}
	}
	// Of two that are wrong the one ahead is told, be it one too many.
	refuse(t, wide(2, 1)+" row mod(1^), mod(1), 3 : mod(1) end", api.ErrMany)
	refuse(t, wide(2, 1)+" row 1, > ^: mod(1) end", api.ErrForm)
	refuse(t, wide(2, 1)+" row 1, 2, ^mod( : 1 end", api.ErrMany)
	refuse(t, wide(2, 1)+" row 1 ^: 1, 2 end", api.ErrMany)
	refuse(t, wide(2, 2)+" row 1, 2 : 1, 2, ^3, 4 end", api.ErrMany)
	refuse(t, wide(2, 2)+" row 1, 2 : 1 ^row 1 : 1 end", api.ErrMany)
	takes(t, wide(1, 1)+" row not(1"+strings.Repeat(", 1", 27)+") : 1"+strings.Repeat(" + 1", 29)+" end", 0, 1, 1, 1)
	takes(t, wide(1, 1)+" row not(not(not(not(-)))) : "+deep+"1"+strings.Repeat(")", 12)+" end", 0, 1, 1, 1)
}

// P15.1: what layer 6 tells is told ahead of all else.
func TestWordsThatAreNone(t *testing.T) {
	for _, x := range []wrongOne{
		{"%", api.ErrForm}, {"A", api.ErrForm}, {"\t", api.ErrForm}, {"\r\n", api.ErrForm}, {"\x00", api.ErrForm}, {"\x7f", api.ErrForm}, {"\xff", api.ErrForm}, {"é", api.ErrForm}, {"abcdefghijklm", api.ErrForm}, {"?abcdefghijklm", api.ErrForm}, {"#", api.ErrForm}, {"#A", api.ErrForm}, {"007", api.ErrForm}, {"1.50", api.ErrForm}, {"1.12345", api.ErrForm}, {"\"", api.ErrForm}, {"\"u", api.ErrForm}, {"\"\\a\"", api.ErrForm}, {"\"u\n\"", api.ErrForm}, {"9223372036854775808", api.ErrOver}, {"922337203685477.5808", api.ErrOver}, {"{", api.ErrForm}, {"!", api.ErrForm}, {".", api.ErrForm},
	} {
		for _, s := range []string{
			"", "table ", "table t ", "table t any ", "table t priority ", "table t priority -", "table t any in ", head + " ", head + " row ", head + " row 1, ", head + " row 1 : ", head + " row 1 : 1 ", head + " end ",
			// These can't go on ahead of that word; it is told none the less.
			"x y z ", "table table ", "table t none ", "table t priority null ", "table t any in out ", head + " row 1, 2 : ", head + " row ) : ", head + " end end ", "; remark\n\n " + head + " row - : mod(1) ",
			"table t priority " + numbered(33, " ", "1") + " ", "table t any in " + numbered(5, " ", "x:int") + " ", head + numbered(33, "", " row 1 : 1") + " ",
		} {
			refuse(t, s+"^"+x.text, x.want)
			refuse(t, s+"^"+x.text+" %", x.want)
		}
	}
	// In a remark any bytes may stand.
	hold(t, "; %A\t\x00\xff\"#007\ntable t any in x:int out y:int end ; %", "t@2:1 any | x:int | y:int")
}

// P15.1: the longest source, and one byte more.
func TestLongSources(t *testing.T) {
	for _, s := range []string{head + " end", head + " row 1 : 1 end", "table t priority 1 in x:int out y:int row - : ?x end"} {
		for _, fill := range []string{" ", "\n", ";", " ;\n"} {
			whole := strings.Repeat(fill, api.MaxSource)
			longest := s + "\n" + whole[:api.MaxSource-len(s)-1]
			if a, at, e := Parse(longest); e != api.OK || at != (api.Place{}) || !Same(a, mustParse(t, s)) {
				t.Errorf("the longest source: %v, %v, %d", dump(a), at, e)
			}
			if a, at, e := Parse(longest + " "); e != api.ErrLong || at != (api.Place{}) || dump(a) != "" {
				t.Errorf("a source of one byte too many: %v, %v, %d", dump(a), at, e)
			}
		}
		ahead := strings.Repeat(" ", api.MaxSource-len(s))
		if _, _, e := Parse(ahead + s); e != api.OK {
			t.Errorf("the longest source: %d", e)
		}
		if a, at, e := Parse(ahead + s + "%"); e != api.ErrLong || at != (api.Place{}) || dump(a) != "" {
			t.Errorf("a source of one byte too many: %v, %v, %d", dump(a), at, e)
		}
	}
	for _, part := range []string{"(", "not(", "-", "1,", "1 ", "row 1 : 1 ", "x:int ", "1 + "} {
		for _, ahead := range []string{"table t priority ", head + " ", head + " row ", head + " row 1 : "} {
			s := ahead + strings.Repeat(part, (api.MaxSource-len(ahead))/len(part))
			a, at, e := Parse(s)
			b, want, f := model(s)
			if e != f || at != want || dump(a) != dump(b) {
				t.Errorf("Parse(%q..) = %v, %v, %d; want %v, %v, %d", ahead+part, dump(a), at, e, dump(b), want, f)
			}
			if a, at, e := Parse(s + strings.Repeat(part, api.MaxSource)); e != api.ErrLong || at != (api.Place{}) || dump(a) != "" {
				t.Errorf("Parse of too many bytes: %v, %v, %d", dump(a), at, e)
			}
		}
	}
}
