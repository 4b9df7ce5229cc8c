package value

import (
	"math"
	"math/big"
	"strings"
	"testing"

	"witan/api"
)

const (
	least    = math.MinInt64
	greatest = math.MaxInt64
	// The greatest Int that may be made a Dec: 10000 times the next one is no int64.
	lastWhole = 922337203685477
)

func null() api.Value { return api.Value{} }

func whole(n int64) api.Value { return api.Value{Kind: api.Int, N: n} }

func dec(n int64) api.Value { return api.Value{Kind: api.Dec, N: n} }

func text(s string) api.Value { return api.Value{Kind: api.Str, S: s} }

func truth(n int64) api.Value { return api.Value{Kind: api.Bool, N: n} }

func sym(s string) api.Value { return api.Value{Kind: api.Sym, S: s} }

// numbers are about 0, Unit, the last Int that may be made a Dec, and the ends of int64, as Ints and as Decs.
func numbers() []api.Value {
	var l []api.Value
	for _, n := range []int64{0, 1, 2, 3, 7, 5000, 9999, 10000, 10001, 15000, 20000, 25000, 3037000500,
		lastWhole - 1, lastWhole, lastWhole + 1, lastWhole * 10000, lastWhole*10000 + 1, 1 << 60, 1 << 62, greatest - 1, greatest} {
		l = append(l, whole(n), whole(-n), dec(n), dec(-n))
	}
	return append(l, whole(least), dec(least))
}

// proper are values that may be, of every kind.
func proper() []api.Value {
	return append(numbers(), null(), truth(0), truth(1),
		text(""), text(" "), text("~"), text("a"), text("ab"), text("b"), text("B"), text("2"), text("a \"b\\"), text(strings.Repeat("x", 200)),
		sym("a"), sym("a1"), sym("ab"), sym("b"), sym("z9"), sym("abcdefghijkl"))
}

// improper are values that may not be.
func improper() []api.Value {
	return []api.Value{
		{Kind: api.Null, N: 1}, {Kind: api.Null, N: -1}, {Kind: api.Null, S: "a"}, {Kind: api.Null, N: least, S: "a"},
		{Kind: api.Int, S: "a"}, {Kind: api.Int, N: 5, S: "a"}, {Kind: api.Dec, S: "a"}, {Kind: api.Dec, N: 5, S: "a"},
		{Kind: api.Str, N: 1}, {Kind: api.Str, N: -1, S: "a"}, text("\x1f"), text("\x7f"), text("a\nb"), text("\x00"), text("\xff"), text("é"), text("a\x80"),
		text(strings.Repeat("x", 201)), text(strings.Repeat("x", 1000)),
		truth(2), truth(-1), truth(least), truth(greatest), {Kind: api.Bool, S: "a"}, {Kind: api.Bool, N: 1, S: "a"}, {Kind: api.Bool, S: " "},
		sym(""), sym("A"), sym("1"), sym("1a"), sym("aB"), sym("a_b"), sym("a b"), sym("a-"), sym(" a"), sym("a "), sym("#a"), sym("é"), sym("a\x00"),
		sym("abcdefghijklm"), {Kind: api.Sym, N: 1, S: "a"}, {Kind: api.Sym, N: -1, S: "a"},
		{Kind: 6}, {Kind: 6, N: 1}, {Kind: 6, S: "a"}, {Kind: 7, N: 1, S: "a"}, {Kind: 128}, {Kind: 255}, {Kind: 255, N: least, S: "a"},
	}
}

func all() []api.Value { return append(proper(), improper()...) }

// P2.1

func TestMay(t *testing.T) {
	for _, v := range proper() {
		if !May(v) {
			t.Errorf("May(%#v) = false", v)
		}
	}
	for _, v := range improper() {
		if May(v) {
			t.Errorf("May(%#v) = true", v)
		}
	}
}

func TestMayAsksEachByte(t *testing.T) {
	for b := 0; b < 256; b++ {
		one := string([]byte{byte(b)})
		letter := 'a' <= b && b <= 'z'
		digit := '0' <= b && b <= '9'
		for _, x := range []struct {
			v    api.Value
			want bool
		}{
			{text(one), 32 <= b && b <= 126},
			{text("abc" + one), 32 <= b && b <= 126},
			{text(one + "abc"), 32 <= b && b <= 126},
			{sym(one), letter},
			{sym(one + "a"), letter},
			{sym("a" + one), letter || digit},
			{sym("abcdefghijk" + one), letter || digit},
			{sym("a" + one + "z"), letter || digit},
		} {
			if May(x.v) != x.want {
				t.Errorf("May(%#v) = %#v", x.v, !x.want)
			}
		}
	}
}

func TestMayAsksLengths(t *testing.T) {
	for n := 0; n < 300; n++ {
		s := strings.Repeat("a", n)
		if got := May(text(s)); got != (n <= 200) {
			t.Errorf("May(Str of %d bytes) = %#v", n, got)
		}
		if got := May(sym(s)); got != (1 <= n && n <= 12) {
			t.Errorf("May(Sym of %d bytes) = %#v", n, got)
		}
	}
}

func TestOrder(t *testing.T) {
	for _, x := range []struct {
		a, b api.Value
		want int
	}{
		{null(), null(), 0}, {null(), whole(least), -1}, {whole(greatest), dec(least), -1}, {dec(greatest), text(""), -1},
		{text("~"), truth(0), -1}, {truth(1), sym("a"), -1}, {sym("z"), api.Value{Kind: 6}, -1}, {api.Value{Kind: 255}, api.Value{Kind: 254, N: 1}, 1},
		{whole(5), whole(-5), 1}, {whole(least), whole(greatest), -1}, {whole(2), dec(20000), -1}, {dec(1), dec(1), 0},
		{truth(0), truth(1), -1}, {truth(2), truth(1), 1},
		{text("a"), text("a"), 0}, {text("a"), text("b"), -1}, {text("a"), text("ab"), -1}, {text("B"), text("a"), -1}, {text("b"), text("ab"), 1},
		{text("\x7f"), text("\x80"), -1}, {text("é"), text("\xff"), -1},
		// N is asked ahead of S, the kind ahead of both
		{api.Value{Kind: api.Str, N: 1, S: "a"}, api.Value{Kind: api.Str, N: 2}, -1},
		{api.Value{Kind: api.Null, N: 9, S: "z"}, api.Value{Kind: api.Int}, -1},
		{api.Value{Kind: api.Null, S: "a"}, null(), 1}, {api.Value{Kind: api.Int, N: 5, S: "a"}, whole(5), 1},
	} {
		if got := Order(x.a, x.b); got != x.want {
			t.Errorf("Order(%#v, %#v) = %d, want %d", x.a, x.b, got, x.want)
		}
		if got := Order(x.b, x.a); got != -x.want {
			t.Errorf("Order(%#v, %#v) = %d, want %d", x.b, x.a, got, -x.want)
		}
	}
}

// 'What follows' of the chapter: Order is one of all values.
func TestOrderIsOne(t *testing.T) {
	l := all()
	for _, a := range l {
		for _, b := range l {
			ab := Order(a, b)
			if ab < -1 || ab > 1 || ab != -Order(b, a) || (ab == 0) != (a == b) {
				t.Errorf("Order(%#v, %#v) = %d, back %d", a, b, ab, Order(b, a))
			}
			for _, c := range l {
				if ab <= 0 && Order(b, c) <= 0 && Order(a, c) > 0 {
					t.Errorf("Order of %#v, %#v, %#v goes in a circle", a, b, c)
				}
			}
		}
	}
}

func TestCompare(t *testing.T) {
	for _, x := range []struct {
		a, b api.Value
		want int
		ok   bool
	}{
		{whole(2), dec(20000), 0, true}, {whole(2), dec(20001), -1, true}, {whole(2), dec(19999), 1, true}, {whole(-2), dec(-20001), 1, true},
		{whole(2), whole(3), -1, true}, {dec(2), dec(3), -1, true}, {whole(3), dec(3), 1, true}, {whole(0), dec(0), 0, true},
		{whole(greatest), dec(greatest), 1, true}, {whole(least), dec(least), -1, true}, {whole(greatest), dec(least), 1, true}, {whole(least), dec(greatest), -1, true},
		{whole(lastWhole), dec(greatest), -1, true}, {whole(lastWhole + 1), dec(greatest), 1, true}, {whole(-lastWhole), dec(least), 1, true}, {whole(-lastWhole - 1), dec(least), -1, true},
		{whole(greatest), whole(greatest - 1), 1, true}, {dec(least), dec(least), 0, true}, {whole(1 << 60), dec(1), 1, true},
		{text("a"), text("b"), -1, true}, {text("a"), text("a"), 0, true}, {text("B"), text("a"), -1, true}, {text(""), text("a"), -1, true},
		{truth(0), truth(1), -1, true}, {truth(1), truth(1), 0, true}, {sym("a"), sym("b"), -1, true}, {sym("a"), sym("a"), 0, true},
		{null(), null(), 0, false}, {null(), whole(0), 0, false}, {null(), text(""), 0, false}, {null(), truth(0), 0, false},
		{whole(2), text("2"), 0, false}, {dec(2), text("2"), 0, false}, {whole(1), truth(1), 0, false}, {dec(1), truth(1), 0, false},
		{text("a"), sym("a"), 0, false}, {truth(0), sym("a"), 0, false}, {truth(0), text(""), 0, false}, {sym("a"), whole(1), 0, false},
		{api.Value{Kind: 6}, api.Value{Kind: 6}, 0, false}, {api.Value{Kind: 255, N: 1}, api.Value{Kind: 255, N: 2}, 0, false}, {api.Value{Kind: 6}, whole(1), 0, false},
		// the worth of a number is its N alone; of the other kinds all of it is asked
		{api.Value{Kind: api.Int, N: 5, S: "a"}, whole(5), 0, true}, {api.Value{Kind: api.Dec, N: 50000, S: "a"}, whole(5), 0, true}, {truth(2), truth(1), 1, true}, {api.Value{Kind: api.Str, N: 1}, text("a"), 1, true},
	} {
		if got, ok := Compare(x.a, x.b); got != x.want || ok != x.ok {
			t.Errorf("Compare(%#v, %#v) = %d, %#v; want %d, %#v", x.a, x.b, got, ok, x.want, x.ok)
		}
		if got, ok := Compare(x.b, x.a); got != -x.want || ok != x.ok {
			t.Errorf("Compare(%#v, %#v) = %d, %#v; want %d, %#v", x.b, x.a, got, ok, -x.want, x.ok)
		}
	}
}

// modelWorth is a number's worth in units, without bounds.
func modelWorth(v api.Value) *big.Int {
	if v.Kind == api.Int {
		return new(big.Int).Mul(big.NewInt(v.N), big.NewInt(api.Unit))
	}
	return big.NewInt(v.N)
}

func isModelNumber(v api.Value) bool { return v.Kind == api.Int || v.Kind == api.Dec }

func TestCompareAgainstModel(t *testing.T) {
	for _, a := range all() {
		for _, b := range all() {
			want, wantOK := 0, false
			switch {
			case isModelNumber(a) && isModelNumber(b):
				want, wantOK = modelWorth(a).Cmp(modelWorth(b)), true
			case a.Kind == b.Kind && (a.Kind == api.Str || a.Kind == api.Bool || a.Kind == api.Sym):
				want, wantOK = Order(a, b), true
			}
			if got, ok := Compare(a, b); got != want || ok != wantOK {
				t.Errorf("Compare(%#v, %#v) = %d, %#v; want %d, %#v", a, b, got, ok, want, wantOK)
			}
		}
	}
}
