package vtext

import (
	"math/big"
	"math/rand"
	"regexp"
	"strings"
	"testing"

	"witan/api"
)

// P3.2

func TestParse(t *testing.T) {
	for _, x := range pairs() {
		if got, e := Parse(x.s); got != x.v || e != api.OK {
			t.Errorf("Parse(%q) = %#v, %d; want %#v", x.s, got, e, x.v)
		}
	}
}

// refused asks that each text tells e, and the zero value beside it.
func refused(t *testing.T, e api.Errno, texts []string) {
	t.Helper()
	for _, s := range texts {
		if v, got := Parse(s); got != e || v != null() {
			t.Errorf("Parse(%q) = %#v, %d; want none, %d", s, v, got, e)
		}
	}
}

func TestParseOfNoForm(t *testing.T) {
	refused(t, api.ErrForm, []string{
		"", " ", "-", "--1", "+1", "-+1", "+", "1-", "1e3", "1E3", "0x1", "1_0", "1,5", "0b1",
		"007", "00", "01", "-01", "00.5", "01.5", "-007.5",
		".5", "-.5", "1.", "-1.", ".", "-.", "1..5", "1.5.5", "1.-5", "1.+5", "1. 5", "1.5a", "a1", "1a",
		"1.00001", "1.12345", "1.50000", "0.00000", "1.50", "1.500", "1.5000", "1.00", "0.00", "0.0000", "20.00", "-1.10",
		"-0", "-0.0", "-0.00", "-0.0000", "-00",
		"a", "n", "nul", "nulL", "NULL", "Null", "nulll", "null ", "t", "tru", "True", "TRUE", "truee", "f", "fals", "False", "falsee", "false1", "nil", "none", "no",
		`"`, `"a`, `a"`, `"a"b"`, `"a""`, `"""`, `"\"`, `"\\\"`, `"\a"`, `"\n"`, `"a\ "`, `"a\`, `"\`, `""a`, `"a"b`, `"a" `, `"\\""`, `'a'`, "`a`",
		"\"\x1f\"", "\"\x7f\"", "\"a\nb\"", "\"\x00\"", "\"\xff\"", "\"é\"", "\"\\\x1f\"", "\"\\\x7f\"",
		"#", "#A", "#1", "#1a", "#a_b", "#a b", "#a#", "##a", "#a-", "#é", "#abcdefghijklm", "#\"a\"", "#a\x00",
		" 1", "1 ", " null", " \"a\"", " #a", "#a ", "# a", "- 1", "1\n", "\t1", "\n", "true\n", "-null", "-#a", "\x00", "\xff", "é", "-é", "1é",
	})
}

func TestParseOfLongTexts(t *testing.T) {
	inner := strings.Repeat("x", api.MaxText)
	refused(t, api.ErrForm, []string{
		`"` + inner + `x"`, `"` + strings.Repeat(`\"`, 199) + `xx"`, `"` + strings.Repeat("x", 400) + `"`, strings.Repeat(" ", 402), strings.Repeat("0", 402), "#" + strings.Repeat("a", 401), string(make([]byte, 402)), `"` + strings.Repeat(`\"`, 200) + `x`, strings.Repeat("1", 400) + "..",
	})
	if v, e := Parse(`"` + strings.Repeat(`\"`, 200) + `"`); e != api.OK || v != text(strings.Repeat(`"`, 200)) {
		t.Errorf("a text of 402 bytes: %#v, %d", v, e)
	}
	// told ahead of what else may be wrong with it
	refused(t, api.ErrLong, []string{
		string(make([]byte, 403)), strings.Repeat("1", 403), "-" + strings.Repeat("1", 402), strings.Repeat("0", 403), strings.Repeat("x", 403), strings.Repeat("1", 401) + ".5", `"` + strings.Repeat(`\"`, 200) + `x"`, `"` + strings.Repeat("x", 401) + `"`, `"` + strings.Repeat(`\"`, 201) + `"`, "#" + strings.Repeat("a", 402), strings.Repeat(" ", 403), "null" + strings.Repeat(" ", 399), strings.Repeat("1", 1<<20),
	})
}

func TestParseOfNumbersThatAreTooGreat(t *testing.T) {
	refused(t, api.ErrOver, []string{
		"9223372036854775808", "-9223372036854775809", "9223372036854775810", "10000000000000000000", "18446744073709551615", "18446744073709551616", "-18446744073709551616", "18446744073709551617", strings.Repeat("9", 402), "-" + strings.Repeat("1", 401), "1" + strings.Repeat("0", 401),
		"922337203685477.5808", "-922337203685477.5809", "922337203685477.581", "922337203685477.6", "922337203685478.0", "-922337203685478.0", "9223372036854775807.0", "9223372036854775808.0", "-9223372036854775808.0", "1844674407370955.1616", "1844674407370955.1617", strings.Repeat("9", 400) + ".9", "-" + strings.Repeat("9", 396) + ".9999",
		// noughts at the end, too
		"922337203685477.60", "922337203685477.600", "922337203685477.6000", "922337203685477.5810", "922337203685478.00", "-922337203685478.0000", "9223372036854775808.50",
	})
	refused(t, api.ErrForm, []string{
		// great, but not of the form
		"09223372036854775808", "-09223372036854775808", "0922337203685477.5808", "922337203685477.58080", "922337203685478.00000", "9223372036854775808.", "9223372036854775808a", "+9223372036854775808", "9223372036854775808 ", " 9223372036854775808", "--9223372036854775809", "9223372036854775808.5.5", "9223372036854775808.-5", "922337203685478.a",
		// of that form, and not too great
		"922337203685477.580", "-922337203685477.580", "922337203685477.50", "922337203685477.00", "-0", "-0.0",
	})
}

var (
	numberForm = regexp.MustCompile(`\A(-?(?:0|[1-9][0-9]*))(?:\.([0-9]{1,4}))?\z`)
	quotedForm = regexp.MustCompile(`\A"(?:[ !#-\[\]-~]|\\["\\]){0,200}"\z`)
	escapeForm = regexp.MustCompile(`\\(.)`)
	symbolForm = regexp.MustCompile(`\A#[a-z][a-z0-9]{0,11}\z`)
)

// model reads the chapter's words by patterns, and reckons without bounds.
func model(s string) (api.Value, api.Errno) {
	if len(s) > 402 {
		return null(), api.ErrLong
	}
	if m := numberForm.FindStringSubmatch(s); m != nil {
		return modelNumber(s, m[1], m[2])
	}
	if quotedForm.MatchString(s) {
		return text(escapeForm.ReplaceAllString(s[1:len(s)-1], "$1")), api.OK
	}
	if symbolForm.MatchString(s) {
		return sym(s[1:]), api.OK
	}
	v, ok := map[string]api.Value{"null": null(), "true": truth(1), "false": truth(0)}[s]
	if !ok {
		return null(), api.ErrForm
	}
	return v, api.OK
}

func modelNumber(s, whole, rest string) (api.Value, api.Errno) {
	v, digits := api.Value{Kind: api.Int}, whole
	if rest != "" {
		v.Kind, digits = api.Dec, whole+(rest + "000")[:4]
	}
	n, _ := new(big.Int).SetString(digits, 10)
	if !n.IsInt64() {
		return null(), api.ErrOver
	}
	v.N = n.Int64()
	nought := v.N == 0 && s[0] == '-'
	if nought || len(rest) > 1 && rest[len(rest)-1] == '0' {
		return null(), api.ErrForm
	}
	return v, api.OK
}

func against(t *testing.T, s string) {
	t.Helper()
	got, e := Parse(s)
	want, f := model(s)
	if got != want || e != f {
		t.Errorf("Parse(%q) = %#v, %d; want %#v, %d", s, got, e, want, f)
	}
}

// Every text of up to five of these letters.
func TestParseOfShortTexts(t *testing.T) {
	var each func(s string, left int)
	each = func(s string, left int) {
		against(t, s)
		if left == 0 {
			return
		}
		for _, c := range []byte("-.019\"\\#an ") {
			each(s+string(rune(c)), left-1)
		}
	}
	each("", 5)
}

// Every text that is one byte away from one that is read.
func TestParseOfTextsNearby(t *testing.T) {
	for _, x := range pairs() {
		if len(x.s) > 30 {
			continue
		}
		for i := 0; i <= len(x.s); i++ {
			for b := 0; b < 256; b++ {
				one := string([]byte{byte(b)})
				against(t, x.s[:i]+one+x.s[i:])
				if i < len(x.s) {
					against(t, x.s[:i]+one+x.s[i+1:])
				}
			}
			if i < len(x.s) {
				against(t, x.s[:i]+x.s[i+1:])
			}
		}
	}
}

func TestParseOfOtherTexts(t *testing.T) {
	r := rand.New(rand.NewSource(5))
	for range 20000 {
		against(t, randomText(r, "0123456789", 16+r.Intn(5)))
		against(t, "-9"+randomText(r, "0123456789", 17))
		against(t, "92233720368547"+randomText(r, "0123456789", 1)+"."+randomText(r, "0123456789", r.Intn(6)))
		against(t, "-922337203685477."+randomText(r, "58079", 4))
		against(t, "\""+randomText(r, "\\\"\\\"ab", r.Intn(12))+"\"")
		against(t, "\""+strings.Repeat(`\\`, r.Intn(4))+randomText(r, "ab", 190+r.Intn(14))+"\"")
	}
}
