package vtext

import (
	"fmt"
	"math"
	"math/big"
	"math/rand"
	"strings"
	"testing"

	"witan/api"
	"witan/value"
)

const (
	least    = math.MinInt64
	greatest = math.MaxInt64
)

func null() api.Value { return api.Value{} }

func whole(n int64) api.Value { return api.Value{Kind: api.Int, N: n} }

func dec(n int64) api.Value { return api.Value{Kind: api.Dec, N: n} }

func text(s string) api.Value { return api.Value{Kind: api.Str, S: s} }

func truth(n int64) api.Value { return api.Value{Kind: api.Bool, N: n} }

func sym(s string) api.Value { return api.Value{Kind: api.Sym, S: s} }

type told struct {
	v api.Value
	s string
}

// pairs are values of every kind, and their texts.
func pairs() []told {
	return []told{
		{null(), "null"}, {truth(1), "true"}, {truth(0), "false"},
		{whole(0), "0"}, {whole(1), "1"}, {whole(-1), "-1"}, {whole(12), "12"}, {whole(-3), "-3"}, {whole(10), "10"}, {whole(-1000), "-1000"}, {whole(10000), "10000"},
		{whole(greatest), "9223372036854775807"}, {whole(least), "-9223372036854775808"},
		{dec(15000), "1.5"}, {dec(-5), "-0.0005"}, {dec(0), "0.0"}, {dec(5), "0.0005"}, {dec(200000), "20.0"}, {dec(-200000), "-20.0"},
		// between -1 and 0
		{dec(-1), "-0.0001"}, {dec(-5000), "-0.5"}, {dec(-9999), "-0.9999"}, {dec(-10), "-0.001"}, {dec(-500), "-0.05"},
		// noughts ahead in the rest, and at its end
		{dec(10001), "1.0001"}, {dec(10010), "1.001"}, {dec(10100), "1.01"}, {dec(11000), "1.1"}, {dec(10110), "1.011"}, {dec(12300), "1.23"}, {dec(12340), "1.234"}, {dec(12345), "1.2345"}, {dec(10000), "1.0"}, {dec(-10000), "-1.0"}, {dec(100000), "10.0"}, {dec(102030), "10.203"},
		{dec(greatest), "922337203685477.5807"}, {dec(least), "-922337203685477.5808"}, {dec(9223372036854770000), "922337203685477.0"}, {dec(-9223372036854770000), "-922337203685477.0"},
		{text(""), `""`}, {text("a"), `"a"`}, {text(" "), `" "`}, {text("a\"b"), `"a\"b"`}, {text(`a\b`), `"a\\b"`}, {text(`"`), `"\""`}, {text(`\`), `"\\"`}, {text(`\"`), `"\\\""`}, {text(`"\`), `"\"\\"`}, {text(`\\`), `"\\\\"`}, {text("a'b#c~"), `"a'b#c~"`}, {text("null"), `"null"`}, {text("1.5"), `"1.5"`}, {text("\\n"), `"\\n"`},
		{text(strings.Repeat("x", 200)), `"` + strings.Repeat("x", 200) + `"`},
		{text(strings.Repeat(`"`, 200)), `"` + strings.Repeat(`\"`, 200) + `"`}, {text(strings.Repeat(`\`, 200)), `"` + strings.Repeat(`\\`, 200) + `"`},
		{sym("red"), "#red"}, {sym("a"), "#a"}, {sym("z9"), "#z9"}, {sym("null"), "#null"}, {sym("true"), "#true"}, {sym("abcdefghijkl"), "#abcdefghijkl"},
	}
}

// improper are values that may not be.
func improper() []api.Value {
	return []api.Value{
		{Kind: api.Null, N: 1}, {Kind: api.Null, S: "a"}, {Kind: api.Int, N: 5, S: "a"}, {Kind: api.Dec, N: 5, S: "a"}, {Kind: api.Int, S: "5"},
		{Kind: api.Str, N: 1, S: "a"}, text("\x1f"), text("\x7f"), text("a\nb"), text("\xff"), text("é"), text(strings.Repeat("x", 201)), text(strings.Repeat(`"`, 201)), text(strings.Repeat("x", 100000)),
		truth(2), truth(-1), truth(least), {Kind: api.Bool, N: 1, S: "true"},
		sym(""), sym("A"), sym("1"), sym("a_b"), sym("#a"), sym("a b"), sym("abcdefghijklm"), {Kind: api.Sym, N: 1, S: "a"},
		{Kind: 6}, {Kind: 9}, {Kind: 255, N: 1, S: "a"},
	}
}

// P3.1

func TestText(t *testing.T) {
	for _, x := range pairs() {
		if got := Text(x.v); got != x.s {
			t.Errorf("Text(%#v) = %q, want %q", x.v, got, x.s)
		}
	}
}

func TestTextOfWhatMayNotBe(t *testing.T) {
	for _, v := range improper() {
		if got := Text(v); got != "" {
			t.Errorf("Text(%#v) = %q, want none", v, got)
		}
	}
}

func TestTextIsAtMostMaxValueLong(t *testing.T) {
	if got := len(Text(text(strings.Repeat(`"`, api.MaxText)))); got != api.MaxValue {
		t.Errorf("%d bytes, want %d", got, api.MaxValue)
	}
}

// modelDecimal reckons with numbers without bounds, digit by digit from the left.
func modelDecimal(units int64) string {
	sign := ""
	if units < 0 {
		sign = "-"
	}
	size := new(big.Int).Abs(big.NewInt(units))
	whole, rest := new(big.Int).DivMod(size, big.NewInt(10000), new(big.Int))
	digits := fmt.Sprintf("%04d", rest.Int64())
	for len(digits) > 1 && strings.HasSuffix(digits, "0") {
		digits = digits[:len(digits)-1]
	}
	return sign + whole.String() + "." + digits
}

func TestNumbersAgainstModel(t *testing.T) {
	for _, n := range someNumbers() {
		if got, want := Text(dec(n)), modelDecimal(n); got != want {
			t.Errorf("Text of %d units = %q, want %q", n, got, want)
		}
		if got, want := Text(whole(n)), big.NewInt(n).String(); got != want {
			t.Errorf("Text of %d = %q, want %q", n, got, want)
		}
	}
}

// someNumbers are all about 0, about each power of ten and the ends, and others of every length.
func someNumbers() []int64 {
	var l []int64
	for n := int64(-30000); n <= 30000; n++ {
		l = append(l, n)
	}
	for p := int64(1); p <= greatest/10; p *= 10 {
		for k := int64(-2); k <= 2; k++ {
			l = append(l, p+k, -p-k)
		}
	}
	for k := int64(0); k < 20000; k++ {
		l = append(l, greatest-k, least+k)
	}
	r := rand.New(rand.NewSource(3))
	for range 20000 {
		l = append(l, int64(r.Uint64())>>r.Intn(64))
	}
	return l
}

// 'What follows' of the chapter: each value that may be has one text, which is read again.
func TestTextIsReadAgain(t *testing.T) {
	r := rand.New(rand.NewSource(33))
	met := map[string]api.Value{}
	again := func(v api.Value) {
		if !value.May(v) {
			t.Fatalf("%#v may not be", v)
		}
		s := Text(v)
		if w, e := Parse(s); w != v || e != api.OK {
			t.Errorf("Parse(%q) = %#v, %d; want %#v", s, w, e, v)
		}
		if w, ok := met[s]; ok && w != v {
			t.Errorf("%#v and %#v have one text, %q", v, w, s)
		}
		met[s] = v
	}
	for _, n := range someNumbers() {
		again(whole(n))
		again(dec(n))
	}
	for range 20000 {
		again(text(randomText(r, "\\\"\\\"ab 1#-.~", r.Intn(201))))
		again(sym("a" + randomText(r, "abz09", r.Intn(12))))
	}
	for b := byte(32); b <= 126; b++ {
		again(text(string(b)))
		again(text("a" + string(b) + "c"))
	}
	for _, x := range pairs() {
		again(x.v)
	}
}

func randomText(r *rand.Rand, letters string, n int) string {
	b := make([]byte, n)
	for i := range b {
		b[i] = letters[r.Intn(len(letters))]
	}
	return string(b)
}
