package eval

import (
	"strings"
	"testing"

	"witan/api"
	"witan/vtext"
)

// P10.1: +, -, *, /, minus, min, max

func TestArithmetic(t *testing.T) {
	holdAll(t,
		"1 + 2", "3", "1 - 2", "-1", "3 * -4", "-12", "7 / 2", "3", "-7 / 2", "-3", "7 / -2", "-3", "-7 / -2", "3", "7 / 7", "1", "0 / 7", "0",
		"1 + 0.5", "1.5", "0.5 + 1", "1.5", "1 - 0.5", "0.5", "0.5 - 1", "-0.5", "2 * 0.5", "1.0", "7 / 2.0", "3.5", "7.0 / 2", "3.5", "1.0 / 3", "0.3333", "0.5 * 0.5", "0.25", "? * 2", "5.0", "? + ?i", "9.5",
		"-?i", "-7", "-?d", "-2.5", "-0", "0", "- -?i", "7", "-null", "null",
		"?most + 1", "!over", "?least - 1", "!over", "?most * 2", "!over", "?most - ?least", "!over", "-?least", "!over", "-?most", "-9223372036854775807", "?least / -1", "!over", "?leastd - 0.1", "!over", "?mostd + 0.1", "!over", "?mostd * 2", "!over", "?mostd / 0.5", "!over", "-?leastd", "!over", "?most + 0.0", "!over", "0.0 + ?most", "!over", "?least * 0.0", "!over",
		"1 / 0", "!div", "0 / 0", "!div", "1.5 / 0", "!div", "1 / 0.0", "!div", "1.5 / 0.0", "!div", "?i / (?i - 7)", "!div", "?most / 0.0", "!over", "null / 0", "null", "0 / null", "null", "?n / 0.0", "null",
		"min(1)", "1", "max(1)", "1", "min(2.5)", "2.5", "min(1, 2, 3)", "1", "max(1, 2, 3)", "3", "min(3, 2, 1)", "1", "max(3, 2, 1)", "3", "min(2, 1, 3)", "1", "max(2, 3, 1)", "3", "min(1, 0.5)", "0.5", "max(1, 0.5)", "1.0", "min(1, 2.5, 3)", "1.0", "max(?i, ?d, ?)", "7.0",
		"min(1, null)", "null", "max(null, 1)", "null", "min(null)", "null", "max(1, ?n, 3)", "null", "min(?most, 0.0)", "!over", "max(0.0, 1, ?least)", "!over", "max(?most, ?least)", "9223372036854775807", "min(?most, ?least)", "-9223372036854775808",
		"min(8, 7, 6, 5, 4, 3, 2, 1)", "1", "max(1, 2, 3, 4, 5, 6, 7, 8)", "8", "max(8, 7, 6, 5, 4, 3, 2, 1)", "8", "min(1, 2, 3, 4, 5, 6, 7, 8.0)", "1.0",
	)
}

func TestArithmeticOfOtherKinds(t *testing.T) {
	for _, op := range []string{"A + B", "A - B", "A * B", "A / B", "min(A, B)", "max(A, B)", "max(A, 1, B)", "min(B, null, A)"} {
		for _, bad := range []string{`"1"`, `""`, "true", "false", "#a", "?s", "?b", "?y"} {
			for _, other := range []string{"1", "1.5", "null", "0", "0.0", "?n", "?most", "true", `"a"`, "#b"} {
				both := strings.NewReplacer("A", bad, "B", other)
				hold(t, both.Replace(op), "!kind")
				hold(t, strings.NewReplacer("A", other, "B", bad).Replace(op), "!kind")
			}
		}
	}
	for _, bad := range []string{`"1"`, `""`, "true", "false", "#a", "?s", "?b", "?y"} {
		for _, op := range []string{"-A", "abs(A)", "min(A)", "max(A)"} {
			hold(t, strings.Replace(op, "A", bad, 1), "!kind")
		}
	}
}

// P10.1: the first error from the left is the answer, ahead of what the op would tell.
func TestErrorsFromTheLeft(t *testing.T) {
	errors := []struct{ text, e string }{{"1 / 0", "!div"}, {"?z", "!scope"}, {"?bad", "!arg"}, {"(1 < #a)", "!kind"}, {"(?most + 1)", "!over"}}
	two := []string{"A = B", "A <> B", "A < B", "A <= B", "A > B", "A >= B", "A + (B)", "A - (B)", "A * (B)", "A / (B)", "min(A, B)", "max(A, B)", "mod(A, B)", "contains(A, B)", "starts(A, B)"}
	for _, x := range errors {
		for _, op := range two {
			for _, other := range []string{"1", "0", "1.5", "null", "?n", "true", `"a"`, "#a"} {
				hold(t, strings.NewReplacer("A", x.text, "B", other).Replace(op), x.e)
				hold(t, strings.NewReplacer("A", other, "B", x.text).Replace(op), x.e)
			}
			for _, y := range errors {
				hold(t, strings.NewReplacer("A", x.text, "B", y.text).Replace(op), x.e)
			}
		}
		for _, op := range []string{"-A", "abs(A)", "min(A)", "max(A)", "length(A)", "upper(A)", "not A", "min(1, A)", "max(#a, A)", "min(null, 1, A, #a)", "min(1, 2, 3, 4, 5, 6, 7, A)"} {
			hold(t, strings.Replace(op, "A", x.text, 1), x.e)
		}
		for _, y := range errors {
			hold(t, "max(1, "+x.text+", #a, "+y.text+")", x.e)
			hold(t, "min("+x.text+", "+y.text+", null)", x.e)
		}
	}
}

func TestAbs(t *testing.T) {
	holdAll(t, "abs(0)", "0", "abs(4)", "4", "abs(-4)", "4", "abs(0 - 4)", "4", "abs(-2.5)", "2.5", "abs(2.5)", "2.5", "abs(-0.0001)", "0.0001", "abs(0.0)", "0.0", "abs(null)", "null", "abs(?n)", "null",
		"abs(?most)", "9223372036854775807", "abs(-?most)", "9223372036854775807", "abs(?least)", "!over", "abs(?leastd)", "!over", "abs(?leastd + 0.0001)", "922337203685477.5807", "abs(?mostd)", "922337203685477.5807")
}

func TestMod(t *testing.T) {
	holdAll(t, "mod(7, 3)", "1", "mod(-7, 3)", "-1", "mod(7, -3)", "1", "mod(-7, -3)", "-1", "mod(6, 3)", "0", "mod(-6, 3)", "0", "mod(0, 3)", "0", "mod(2, 7)", "2", "mod(-2, 7)", "-2", "mod(7, 1)", "0",
		"mod(7, 0)", "!div", "mod(0, 0)", "!div", "mod(-7, 0)", "!div", "mod(?least, -1)", "0", "mod(?least, ?most)", "-1", "mod(?most, ?least)", "9223372036854775807", "mod(?least, 0)", "!div",
		"mod(null, 3)", "null", "mod(3, null)", "null", "mod(null, null)", "null", "mod(?n, 0)", "null", "mod(0, ?n)", "null")
	for _, bad := range []string{"1.5", "0.0", `"1"`, "true", "#a", "?d", "?"} {
		for _, other := range []string{"1", "0", "null", "?n", "1.5", "true", "#a"} {
			holdAll(t, "mod("+bad+", "+other+")", "!kind", "mod("+other+", "+bad+")", "!kind")
		}
	}
}

// P10.1: length, upper, contains, starts

func TestLength(t *testing.T) {
	holdAll(t, `length("")`, "0", `length("a")`, "1", `length(" a b ")`, "5", `length("\\\"")`, "2", "length(?s)", "3", "length(?e)", "0", "length(null)", "null", "length(?n)", "null",
		"length(1)", "!kind", "length(1.5)", "!kind", "length(true)", "!kind", "length(#abc)", "!kind", "length(upper(?s)) + 1", "4")
	hold(t, `length("`+strings.Repeat("~", api.MaxText)+`")`, "200")
}

func TestUpper(t *testing.T) {
	holdAll(t, `upper("")`, `""`, `upper("abc")`, `"ABC"`, `upper("aBc D1")`, `"ABC D1"`, "upper(?s)", `"ABC"`, `upper(upper("az"))`, `"AZ"`, "upper(null)", "null", "upper(?n)", "null",
		"upper(1)", "!kind", "upper(1.5)", "!kind", "upper(false)", "!kind", "upper(#abc)", "!kind", `upper("ab") = "AB"`, "true")
	var all, want []byte
	for b := byte(32); b < 127; b++ {
		great := b
		if i := strings.IndexByte("abcdefghijklmnopqrstuvwxyz", b); i >= 0 {
			great = "ABCDEFGHIJKLMNOPQRSTUVWXYZ"[i]
		}
		all, want = append(all, b), append(want, great)
	}
	for i := range all {
		holdTree(t, api.Expr{{Op: api.OpLit, V: str(string(all[i:]))}, {Op: api.OpUp, Kids: []int{0}}}, null(), nil, vtext.Text(str(string(want[i:]))))
		holdTree(t, api.Expr{{Op: api.OpLit, V: str(string(all[i : i+1]))}, {Op: api.OpUp, Kids: []int{0}}}, null(), nil, vtext.Text(str(string(want[i:i+1]))))
	}
	hold(t, `upper("`+strings.Repeat("z", api.MaxText)+`")`, `"`+strings.Repeat("Z", api.MaxText)+`"`)
}

func TestContainsAndStarts(t *testing.T) {
	for _, x := range []struct{ s, part, has, head string }{
		{`"abc"`, `"a"`, "true", "true"}, {`"abc"`, `"b"`, "true", "false"}, {`"abc"`, `"c"`, "true", "false"}, {`"abc"`, `"ab"`, "true", "true"}, {`"abc"`, `"bc"`, "true", "false"}, {`"abc"`, `"abc"`, "true", "true"}, {`"abc"`, `"ac"`, "false", "false"}, {`"abc"`, `"abcd"`, "false", "false"},
		{`"abc"`, `"A"`, "false", "false"}, {`"aab"`, `"ab"`, "true", "false"}, {`"ababc"`, `"abc"`, "true", "false"}, {`"abc"`, `""`, "true", "true"}, {`""`, `""`, "true", "true"}, {`""`, `"a"`, "false", "false"}, {"?s", `"bc"`, "true", "false"}, {`"a b"`, `" "`, "true", "false"},
		{"null", `"a"`, "null", "null"}, {`"a"`, "null", "null", "null"}, {"?n", "null", "null", "null"}, {"?n", `""`, "null", "null"}, {`""`, "?n", "null", "null"},
		{"null", "1", "!kind", "!kind"}, {"1", "null", "!kind", "!kind"}, {`"a"`, "#a", "!kind", "!kind"}, {"#abc", `"a"`, "!kind", "!kind"}, {`"1"`, "1", "!kind", "!kind"}, {"1.5", `"1"`, "!kind", "!kind"}, {"true", "true", "!kind", "!kind"}, {`"true"`, "true", "!kind", "!kind"},
	} {
		holdAll(t, "contains("+x.s+", "+x.part+")", x.has, "starts("+x.s+", "+x.part+")", x.head)
	}
}
