package rule

import (
	"fmt"
	"strings"
	"testing"

	"witan/api"
)

// many tells n parts, each made of its number, with a word between.
func many(n int, between string, part func(i int) string) string {
	var l []string
	for i := range n {
		l = append(l, part(i))
	}
	return strings.Join(l, between)
}

// numbered tells n of such a part, in which % stands for its number.
func numbered(n int, between, part string) string {
	return many(n, between, func(i int) string { return strings.ReplaceAll(part, "%", fmt.Sprint(i)) })
}

// takes asks that s is read, and with as many lines of a dump.
func takes(t *testing.T, s string, lines int) {
	t.Helper()
	p, at, e := Parse(s)
	if e != api.OK || at != (api.Place{}) {
		t.Errorf("Parse(%.500q): %v, %d", s, at, e)
		return
	}
	if got := dump(p); len(strings.Split(got, "\n")) != lines {
		t.Errorf("Parse(%.500q):\n%s\nwant %d lines", s, got, lines)
	}
}

// anyWords are words of all kinds, in places where most can't stand.
var anyWords = []string{"x", "1", "1.5", "101", "\"u\"", "#s", "?x", "?", "(", ")", "[", ":", ",", "-", "=", "..", "true", "null", "int", "template", "rule", "when", "then", "end", "not", "exists", "test", "assert", "halt", "retract", "a()", "p: a()"}

// behind asks that ahead, with each of those words behind it but those that go
// on, and with none, is told that error at that word.
func behind(t *testing.T, ahead string, want api.Errno, but ...string) {
	t.Helper()
	isLeft := map[string]bool{}
	for _, w := range but {
		isLeft[w] = true
	}
	for _, w := range anyWords {
		if !isLeft[w] {
			refuse(t, ahead+" ^"+w, want)
			refuse(t, ahead+" \n; remark\n  ^"+w+" end", want)
			refuse(t, ahead+" ^"+w+" template rule", want)
		}
	}
	if !isLeft[""] {
		refuse(t, ahead+"^", want)
		refuse(t, ahead+"^ \n; remark\n\n", want)
	}
}

// P12.1: sixteen templates, and one more.
func TestManyTemplates(t *testing.T) {
	for n := range api.MaxTemplates + 1 {
		s := numbered(n, " ", "template t% x:int")
		takes(t, s, max(n, 1))
		takes(t, s+" rule r when then end", n+1)
	}
	full := numbered(16, "\n", "template t x:int")
	for _, s := range []string{" ^template", " ^template t17 x:int", " ^template template", " ^template 1 rule r when then end", "\n ^template t", " ^template\n"} {
		refuse(t, full+s, api.ErrMany)
	}
	// What ends templates is any other word: these can't go on with a program.
	for _, s := range []string{" ^1", " ^(", " ^when", " ^end", " ^:", " ^\"template\" t x:int", " ^#template t x:int", " ^?template", " x^", " rules^", " x ^rule"} {
		refuse(t, full+s, api.ErrForm)
	}
	refuse(t, full+" rule^", api.ErrForm)
	refuse(t, full+" ^template t x:int template t x:int", api.ErrMany)
	// Behind a rule no template can stand, however many there are.
	refuse(t, full+" rule r when then end ^template t x:int", api.ErrForm)
	refuse(t, "template a x:int rule r when then end ^template t x:int", api.ErrForm)
}

// P12.1: eight slots of a template, and one more.
func TestManySlots(t *testing.T) {
	for n := 1; n <= api.MaxSlots; n++ {
		s := "template a " + numbered(n, " ", "x%:int")
		takes(t, s, 1)
		takes(t, s+" template b y:int", 2)
		takes(t, s+" rule r when then end", 2)
	}
	full := "template a " + numbered(8, " ", "x:int")
	behind(t, full, api.ErrMany, "", "template", "rule")
	refuse(t, full+" ^y:int", api.ErrMany)
	refuse(t, full+" ^\"rule\" r when then end", api.ErrMany)
	refuse(t, full+" ^#template b y:int", api.ErrMany)
	refuse(t, full+" ^rules", api.ErrMany)
	refuse(t, full+" template^", api.ErrForm)
	refuse(t, full+" rule^", api.ErrForm)
	refuse(t, "template a "+numbered(7, " ", "x:int")+" ^when", api.ErrForm)
	refuse(t, "template a "+numbered(7, " ", "x:int")+" ^1", api.ErrForm)
	refuse(t, "template a "+numbered(7, " ", "x:int")+" y^", api.ErrForm)
	refuse(t, "template a "+numbered(7, " ", "x:int")+" y:int ^y:int", api.ErrMany)

	// The last template's slots are asked ahead of one template more.
	l := numbered(15, " ", "template t x:int") + " " + full
	takes(t, l, 16)
	refuse(t, l+" ^template", api.ErrMany)
	refuse(t, l+" ^y:int", api.ErrMany)
	behind(t, l, api.ErrMany, "", "template", "rule")
	for i := range 16 {
		s := numbered(i, " ", "template t x:int") + " " + full
		refuse(t, s+" ^y", api.ErrMany)
		if i < 15 {
			refuse(t, s+" template b y^", api.ErrForm)
		}
	}
}

// P12.1: thirty-two rules, and whatever stands behind them.
func TestManyRules(t *testing.T) {
	for n := range api.MaxRules + 1 {
		takes(t, numbered(n, " ", "rule r% when then end"), max(n, 1))
		takes(t, "template a x:int "+numbered(n, " ", "rule r% when a() then end"), 1+2*n)
	}
	full := numbered(32, "\n", "rule r when then halt end")
	takes(t, full+"\n; remark\n ", 64)
	behind(t, full, api.ErrMany, "")
	refuse(t, full+" ^rule r when then end", api.ErrMany)
	refuse(t, full+" ^rules", api.ErrMany)
	refuse(t, full+" ^template a x:int", api.ErrMany)
	behind(t, "template a x:int "+full, api.ErrMany, "")
	behind(t, numbered(16, " ", "template t x:int")+" "+full, api.ErrMany, "")
	behind(t, numbered(31, "\n", "rule r when then halt end"), api.ErrForm, "", "rule")
	refuse(t, numbered(31, "\n", "rule r when then halt end")+" rule^", api.ErrForm)
	refuse(t, numbered(31, "\n", "rule r when then halt end")+" rule r when then ^then", api.ErrForm)
}

// P12.1: six conditions, and one more.
func TestManyConds(t *testing.T) {
	for _, c := range []string{"a()", "p: a(x: 1)", "not a()", "exists a()", "not (a() b())", "test 1", "test ?n"} {
		for n := range api.MaxConds + 1 {
			takes(t, "rule r when "+numbered(n, " ", c)+" then end", 1+n)
			takes(t, "rule r when "+numbered(n, " ", c)+" then halt end rule s when a() then end", 4+n)
		}
		full := "rule r when " + numbered(6, " ", c)
		isLeft := []string{"then"}
		if strings.HasPrefix(c, "test") { // an expression goes on with these
			isLeft = append(isLeft, "-", "=")
		}
		behind(t, full, api.ErrMany, isLeft...)
		refuse(t, full+" ^"+c+" then end", api.ErrMany)
		refuse(t, full+" ^\"then\" end", api.ErrMany)
		refuse(t, full+" ^#then end", api.ErrMany)
		refuse(t, full+" ^?then end", api.ErrMany)
		refuse(t, full+" ^thens end", api.ErrMany)
		refuse(t, full+" then^", api.ErrForm)
		refuse(t, "rule r when "+numbered(5, " ", c)+" ^end", api.ErrForm)
		refuse(t, "rule r when "+numbered(5, " ", c)+" ^1", api.ErrForm)
		refuse(t, "rule r when "+numbered(5, " ", c)+"^", api.ErrForm)
		refuse(t, "rule q when "+numbered(6, " ", c)+" then end "+full+" ^"+c, api.ErrMany)
	}
	full := "rule r when a() p: a() not a() exists a() not (a()) test ?n > 1"
	takes(t, full+" then end", 7)
	refuse(t, full+" ^= 2 then end", api.ErrMany)
	refuse(t, full+" ^a() then end", api.ErrMany)
	refuse(t, full+" +^", api.ErrForm)
	// Of the rules behind, each has six of its own.
	takes(t, numbered(32, " ", full+" then end"), 32*7)
}

// P12.1: four patterns of a group, and one more.
func TestManyPatterns(t *testing.T) {
	for n := 1; n <= api.MaxGroup; n++ {
		s := "rule r when not (" + numbered(n, " ", "a%(x: 1)") + ")"
		takes(t, s+" then end", 2)
		takes(t, s+" "+s[12:]+" then end", 3)
	}
	for _, p := range []string{"a()", "a(x: 1)", "a(x: 1, y: not(2))"} {
		full := "rule r when not (" + numbered(4, " ", p)
		behind(t, full, api.ErrMany, ")")
		refuse(t, full+" ^"+p+") then end", api.ErrMany)
		refuse(t, full+" ^\")\" then end", api.ErrMany)
		refuse(t, full+" ^then end", api.ErrMany)
		refuse(t, full+")^", api.ErrForm)
		refuse(t, full+") ^)", api.ErrForm)
		refuse(t, "rule r when not ("+numbered(3, " ", p)+" ^then end", api.ErrForm)
		refuse(t, "rule r when not ("+numbered(3, " ", p)+"^", api.ErrForm)
		refuse(t, "rule r when a() a() a() a() a() not ("+numbered(4, " ", p)+" ^"+p, api.ErrMany)
	}
	// Six groups of four each, and a condition more.
	full := "rule r when " + numbered(6, " ", "not (a() a() a() a())")
	takes(t, full+" then end", 7)
	refuse(t, full+" ^not (a() a() a() a() a())", api.ErrMany)
}

// P12.1: eight slots' tests of a pattern, and what is behind one comma more.
func TestManySlotTests(t *testing.T) {
	for _, c := range []string{"rule r when a(", "rule r when p: a(", "rule r when not a(", "rule r when exists a(", "rule r when not (a(", "rule r when not (a() b() c() d("} {
		end := ") then end"
		if strings.Contains(c, "(a(") || strings.Contains(c, "(a()") {
			end = ")) then end"
		}
		for _, x := range []string{"x%: 1", "x%: -", "x%: 1, 2", "x%: not(1, 2)", "x%: [1 .. 2]"} {
			for n := range api.MaxSlots + 1 {
				takes(t, c+numbered(n, ", ", x)+end, 2)
			}
			full := c + numbered(8, ", ", x)
			// Layer 11 goes on at a "," but where a name and a colon stand behind.
			for _, w := range []string{"y: 1", "y:", "x0: 1" + end, "true: 1", "when: 1", "rule: 1", "template: \n\n", "p: a()", "in:)", "y: y: y"} {
				refuse(t, full+", ^"+w, api.ErrMany)
				refuse(t, full+"\n,\n  ^"+w, api.ErrMany)
			}
			for _, w := range []string{"^", " ^y", " ^then: 1", " ^:", " ^then end", ",^", ", ^)", ", ^y)", ", ^then end", ", 1 ^: 2", ", \"y\" ^: 1"} {
				refuse(t, full+w, api.ErrForm)
			}
		}
	}
	full := "rule r when a(" + numbered(8, ", ", "x: 1")
	refuse(t, full+",^", api.ErrForm)
	refuse(t, full+", ^)", api.ErrForm)
	refuse(t, full+", ^y)", api.ErrForm)
	refuse(t, full+", 1^", api.ErrForm)
	refuse(t, full+", 1 ^: 2", api.ErrForm)
	refuse(t, full+", \"y\" ^: 2", api.ErrForm)
	refuse(t, full+", ^then end", api.ErrForm)
	refuse(t, full+" ^y: 1", api.ErrForm)
	refuse(t, "rule r when a("+numbered(7, ", ", "x: 1")+", ^true: 1", api.ErrForm)
}

// P12.1: eight sets of an action, and what is behind one comma more.
func TestManySets(t *testing.T) {
	for _, a := range []string{"assert", "logical", "modify"} {
		for n := range api.MaxSlots + 1 {
			takes(t, "rule r when then "+a+" a("+numbered(n, ", ", "x%: ?n + %")+") halt end", 3)
		}
		full := "rule r when then " + a + " a(" + numbered(8, ", ", "x: min(1, 2)")
		for _, w := range append(anyWords, "y: 1", "y: 1)", "x: 1) end", "true: 1") {
			refuse(t, full+", ^"+w, api.ErrMany)
			refuse(t, full+"\n,\n; remark\n  ^"+w+" end", api.ErrMany)
		}
		refuse(t, full+",^", api.ErrMany)
		refuse(t, full+",^ \n ; remark\n", api.ErrMany)
		refuse(t, full+"^", api.ErrForm)
		refuse(t, full+" ^y: 1)", api.ErrForm)
		refuse(t, full+" ^end", api.ErrForm)
		refuse(t, "rule r when then "+a+" a("+numbered(7, ", ", "x: 1")+",^", api.ErrForm)
		refuse(t, "rule r when then "+a+" a("+numbered(7, ", ", "x: 1")+", ^)", api.ErrForm)
		refuse(t, "rule r when then "+a+" a("+numbered(7, ", ", "x: 1")+", y: ^)", api.ErrForm)
		refuse(t, "rule r when then halt halt halt halt halt halt halt "+full[17:]+", ^y: 1", api.ErrMany)
	}
}

// P12.1: eight actions, and one more.
func TestManyActions(t *testing.T) {
	for _, a := range []string{"halt", "retract p", "assert a()", "logical a(x: 1)", "modify p(x: 1, y: 2)"} {
		for n := range api.MaxActs + 1 {
			takes(t, "rule r when then "+numbered(n, " ", a)+" end", 1+n)
			takes(t, "rule r when a() a() a() a() a() a() then "+numbered(n, " ", a)+" end rule s when then halt end", 9+n)
		}
		full := "rule r when then " + numbered(8, " ", a)
		behind(t, full, api.ErrMany, "end")
		refuse(t, full+" ^"+a+" end", api.ErrMany)
		refuse(t, full+" ^\"end\"", api.ErrMany)
		refuse(t, full+" ^#end", api.ErrMany)
		refuse(t, full+" ^ends", api.ErrMany)
		refuse(t, full+" ^rule s when then end", api.ErrMany)
		refuse(t, "rule r when then "+numbered(7, " ", a)+" ^then", api.ErrForm)
		refuse(t, "rule r when then "+numbered(7, " ", a)+"^", api.ErrForm)
		refuse(t, "rule q when then "+numbered(8, " ", a)+" end "+full+" ^"+a, api.ErrMany)
	}
	all := "rule r when " + numbered(6, " ", "not a()") + " then " + numbered(8, " ", "halt") + " end"
	takes(t, numbered(32, " ", all), 32*15)
	refuse(t, numbered(32, " ", all)+" ^"+all, api.ErrMany)
}

// P12.1: what layer 6 tells is told ahead of all else.
func TestWordsThatAreNone(t *testing.T) {
	for _, x := range []struct {
		bad  string
		want api.Errno
	}{
		{"%", api.ErrForm}, {"A", api.ErrForm}, {"\t", api.ErrForm}, {"\r\n", api.ErrForm}, {"\x00", api.ErrForm}, {"\x7f", api.ErrForm}, {"\xff", api.ErrForm}, {"é", api.ErrForm}, {"abcdefghijklm", api.ErrForm}, {"?abcdefghijklm", api.ErrForm}, {"#", api.ErrForm}, {"#A", api.ErrForm}, {"007", api.ErrForm}, {"1.50", api.ErrForm}, {"1.12345", api.ErrForm}, {"\"", api.ErrForm}, {"\"u", api.ErrForm}, {"\"\\a\"", api.ErrForm}, {"\"u\n\"", api.ErrForm}, {"9223372036854775808", api.ErrOver}, {"922337203685477.5808", api.ErrOver}, {"{", api.ErrForm}, {"!", api.ErrForm}, {".", api.ErrForm},
	} {
		for _, s := range []string{
			"", "rule ", "template a x:int ", "rule r when ", "rule r when a(x: ", "rule r when then assert a(x: ", "rule r -", "rule r when then end ",
			// These can't go on ahead of that word; it is told none the less.
			"x y z ", "rule rule ", "rule r 101 when ", "template a x:null ", "rule r when then end template ", "; remark\n\n rule r when test ) ",
			numbered(17, " ", "template t x:int") + " ", numbered(33, " ", "rule r when then end") + " ",
		} {
			refuse(t, s+"^"+x.bad, x.want)
			refuse(t, s+"^"+x.bad+" %", x.want)
		}
	}
	// In a remark any bytes may stand.
	hold(t, "; %A\t\x00\xff\"#007\nrule r when then end ; %", "rule r@2:1 0")
}

// P12.1: what layers 7 and 11 tell, at their words.
func TestOtherLayersErrors(t *testing.T) {
	deep := strings.Repeat("(", 12)
	for _, x := range []struct {
		written string
		want    api.Errno
	}{
		{"1 +^", 4}, {"1 + ^then", 4}, {"^=", 4}, {"min(^)", 4}, {"mod(1^)", 14}, {"mod(1, 2^, 3)", 14}, {"min(1, 2, 3, 4, 5, 6, 7, 8^, 9)", 14}, {"length(1^, 2)", 14}, {"length ^1", 4}, {"(1^", 4}, {"(1 ^2)", 4}, {"(^)", 4}, {"- ^then", 4}, {"not ^then", 4},
		{deep + "^(1", 12}, {deep + "^not 1", 12}, {deep + "^-1", 12}, {deep + "min^(1)", 12}, {strings.Repeat("not ", 12) + "^(1)", 12}, {strings.Repeat("-", 12) + "^-1", 12},
		{"^1" + strings.Repeat(" + 1", 30), 7}, {"^?n" + strings.Repeat(" * ?n", 31), 7}, {"^min(1, 2" + strings.Repeat(", -1", 6) + ")" + strings.Repeat(" and 1", 25), 7}, {"^1" + strings.Repeat(" + 1", 3000), 7},
		{"1" + strings.Repeat(" + 1", 200) + " +^", 4},
	} {
		refuse(t, "rule r when test "+x.written, x.want)
		refuse(t, "rule r when a() test "+x.written, x.want)
		refuse(t, "template a x:int rule r when then assert a(x:\n "+x.written, x.want)
		refuse(t, "rule r when then logical a(x: 1, y:"+x.written, x.want)
		refuse(t, "rule r when then halt modify p(x:\n"+x.written, x.want)
		if !strings.HasPrefix(x.written, "not") && !strings.HasPrefix(x.written, "(") && !strings.HasPrefix(x.written, "^=") && !strings.HasPrefix(x.written, "-") {
			refuse(t, "rule r when a(x:"+x.written, x.want)
			refuse(t, "rule r when not (a() a(x: 1, y:\n"+x.written, x.want)
		}
	}
	takes(t, "rule r when test 1"+strings.Repeat(" + 1", 29)+" then end", 2)
	takes(t, "rule r when test "+deep+"1"+strings.Repeat(")", 12)+" then assert a(x: "+strings.Repeat("not ", 12)+"1) end", 3)

	for _, x := range []struct {
		written string
		want    api.Errno
	}{
		{"^)", 4}, {"^, 1", 4}, {"1, ^)", 4}, {"1,^", 4}, {"> ^)", 4}, {">^", 4}, {"^<> 1", 4}, {"[1 ..^", 4}, {"[1 .. ^)", 4}, {"[1 .. 2^", 4}, {"[1 .. 2 ^, 3", 4}, {"^[1)", 4}, {"^[1, 2]", 4}, {"(1 ^, 2)", 4}, {"not(^)", 4}, {"not(1^", 4}, {"not(1 ^2)", 4}, {"not(1, ^)", 4}, {"not(1^, y: 2", 4}, {"not (1, 2) ^3", 4},
		{"not(not(not(not(^not(1", 12}, {"1, not(not(2), not(not(not(^not(1", 12}, {"not(not(not(not(not ^then", 4},
		{"^1" + strings.Repeat(", 1", 29), 7}, {"^-" + strings.Repeat(", -", 40), 7}, {"^not(1" + strings.Repeat(", [1 .. 2]", 28) + ")", 7}, {"^1" + strings.Repeat(", 1", 3000), 7},
		{"> ^1" + strings.Repeat(" + 1", 30), 7}, {"[1 .. ^1" + strings.Repeat(" + 1", 30) + "]", 7}, {"1, mod(1^)", 14},
	} {
		for _, ahead := range []string{"rule r when a(x:", "rule r when p: a(x: 1, y:\n", "rule r when not a(x:", "rule r when exists a(x: -, y: ", "rule r when not (a(x:", "template a x:int rule q when then end rule r 5 when a() not (a() a(x: 1, y:"} {
			refuse(t, ahead+x.written, x.want)
		}
	}
	takes(t, "rule r when a(x: 1"+strings.Repeat(", 1", 28)+", y: not(not(not(not(-))))) then end", 2)
}

// P12.1: the longest source, and one byte more.
func TestLongSources(t *testing.T) {
	for _, s := range []string{"", "rule r when then end", "template a x:int", "rule r when a(x: 1) then halt end"} {
		lines := max(1, len(strings.Split(dumpOf(s), "\n")))
		for _, fill := range []string{" ", "\n", ";", " ;\n"} {
			whole := strings.Repeat(fill, api.MaxSource)
			longest := s + "\n" + whole[:api.MaxSource-len(s)-1]
			takes(t, longest, lines)
			if p, at, e := Parse(longest + " "); e != api.ErrLong || at != (api.Place{}) || dump(p) != "" {
				t.Errorf("a source of one byte too many: %v, %v, %d", dump(p), at, e)
			}
		}
		takes(t, strings.Repeat(" ", api.MaxSource-len(s))+s, lines)
		if p, at, e := Parse(strings.Repeat(" ", api.MaxSource-len(s)) + s + "%"); e != api.ErrLong || at != (api.Place{}) || dump(p) != "" {
			t.Errorf("a source of one byte too many: %v, %v, %d", dump(p), at, e)
		}
	}
	for _, part := range []string{"(", "not ", "not(", "-", "[", "1,", "rule ", "template ", "template a x:int ", "rule r when then end ", "a(", "a() ", ",", "1 + ", "assert a(x: "} {
		for _, ahead := range []string{"", "rule r when ", "rule r when a(x: ", "rule r when then assert a(x: "} {
			s := ahead + strings.Repeat(part, (api.MaxSource-len(ahead))/len(part))
			p, at, e := Parse(s)
			q, want, f := model(s)
			if e != f || at != want || dump(p) != dump(q) {
				t.Errorf("Parse(%q..) = %v, %v, %d; want %v, %v, %d", ahead+part, dump(p), at, e, dump(q), want, f)
			}
			if p, at, e := Parse(s + strings.Repeat(part, api.MaxSource)); e != api.ErrLong || at != (api.Place{}) || dump(p) != "" {
				t.Errorf("Parse of too many bytes: %v, %v, %d", dump(p), at, e)
			}
		}
	}
}

func dumpOf(s string) string {
	p, _, _ := Parse(s)
	return dump(p)
}
