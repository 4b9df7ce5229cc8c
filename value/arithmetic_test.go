package value

import (
	"math/big"
	"testing"

	"witan/api"
)

type binary func(a, b api.Value) (api.Value, api.Errno)

type example struct {
	a, b, want api.Value
	e          api.Errno
}

func tryAll(t *testing.T, name string, f binary, examples []example) {
	t.Helper()
	for _, x := range examples {
		if got, e := f(x.a, x.b); got != x.want || e != x.e {
			t.Errorf("%s(%#v, %#v) = %#v, %d; want %#v, %d", name, x.a, x.b, got, e, x.want, x.e)
		}
	}
}

// P2.2

func TestAdd(t *testing.T) {
	tryAll(t, "Add", Add, []example{
		{whole(1), whole(2), whole(3), 0}, {whole(1), dec(5000), dec(15000), 0}, {dec(5000), whole(1), dec(15000), 0}, {dec(1), dec(2), dec(3), 0},
		{whole(1), dec(0), dec(10000), 0}, {whole(-3), whole(3), whole(0), 0},
		{whole(greatest), whole(1), null(), api.ErrOver}, {dec(greatest), dec(1), null(), api.ErrOver}, {dec(greatest), whole(1), null(), api.ErrOver}, {whole(greatest), whole(0), whole(greatest), 0},
		{whole(lastWhole), dec(0), dec(lastWhole * 10000), 0}, {whole(lastWhole + 1), dec(0), null(), api.ErrOver}, {dec(0), whole(-lastWhole - 1), null(), api.ErrOver},
		// one that is too great to be made a Dec, although the sum would be one
		{whole(lastWhole + 1), dec(-10000), null(), api.ErrOver},
	})
}

func TestSub(t *testing.T) {
	tryAll(t, "Sub", Sub, []example{
		{whole(1), whole(2), whole(-1), 0}, {whole(1), dec(5000), dec(5000), 0}, {dec(5000), whole(1), dec(-5000), 0}, {dec(1), dec(2), dec(-1), 0},
		{whole(least), whole(1), null(), api.ErrOver}, {dec(least), dec(1), null(), api.ErrOver}, {whole(-1), whole(least), whole(greatest), 0},
		{dec(1), whole(1 << 60), null(), api.ErrOver}, {whole(1 << 60), dec(1), null(), api.ErrOver},
	})
}

func TestMul(t *testing.T) {
	tryAll(t, "Mul", Mul, []example{
		{whole(3), whole(-4), whole(-12), 0}, {dec(15000), dec(15000), dec(22500), 0}, {whole(3), dec(5000), dec(15000), 0}, {dec(5000), whole(3), dec(15000), 0},
		{dec(15000), dec(1), dec(2), 0}, {dec(25000), dec(1), dec(2), 0}, {whole(0), dec(greatest), dec(0), 0},
		{whole(1 << 32), whole(1 << 31), null(), api.ErrOver}, {dec(greatest), dec(20000), null(), api.ErrOver}, {dec(greatest), whole(2), null(), api.ErrOver},
		{dec(0), whole(1 << 60), null(), api.ErrOver}, {whole(1 << 60), dec(0), null(), api.ErrOver},
	})
}

func TestDiv(t *testing.T) {
	tryAll(t, "Div", Div, []example{
		{whole(7), whole(2), whole(3), 0}, {whole(-7), whole(2), whole(-3), 0}, {whole(7), dec(20000), dec(35000), 0}, {dec(70000), whole(2), dec(35000), 0}, {dec(10000), dec(30000), dec(3333), 0}, {dec(20000), whole(-3), dec(-6667), 0},
		{whole(7), whole(0), null(), api.ErrDiv}, {whole(7), dec(0), null(), api.ErrDiv}, {dec(7), whole(0), null(), api.ErrDiv}, {dec(7), dec(0), null(), api.ErrDiv}, {whole(0), whole(0), null(), api.ErrDiv},
		{whole(least), whole(-1), null(), api.ErrOver}, {dec(1 << 62), dec(1), null(), api.ErrOver},
		// made a Dec ahead of being divided
		{whole(1 << 60), dec(0), null(), api.ErrOver}, {dec(0), whole(1 << 60), null(), api.ErrOver},
		{null(), whole(0), null(), 0}, {null(), dec(0), null(), 0}, {whole(0), null(), null(), 0},
	})
}

func TestNeg(t *testing.T) {
	neg := func(a, _ api.Value) (api.Value, api.Errno) { return Neg(a) }
	tryAll(t, "Neg", neg, []example{
		{whole(5), null(), whole(-5), 0}, {whole(-5), null(), whole(5), 0}, {whole(0), null(), whole(0), 0}, {dec(5), null(), dec(-5), 0}, {dec(0), null(), dec(0), 0},
		{whole(greatest), null(), whole(-greatest), 0}, {whole(least + 1), null(), whole(greatest), 0}, {whole(least), null(), null(), api.ErrOver},
		{dec(greatest), null(), dec(-greatest), 0}, {dec(least), null(), null(), api.ErrOver},
		{null(), null(), null(), 0}, {api.Value{N: 1, S: "a"}, null(), null(), 0}, {api.Value{Kind: api.Int, N: 5, S: "a"}, null(), whole(-5), 0},
		{text("a"), null(), null(), api.ErrKind}, {truth(1), null(), null(), api.ErrKind}, {sym("a"), null(), null(), api.ErrKind}, {api.Value{Kind: 6}, null(), null(), api.ErrKind}, {api.Value{Kind: 255, N: 1}, null(), null(), api.ErrKind},
	})
}

func TestArithmeticOfOtherKinds(t *testing.T) {
	for name, f := range map[string]binary{"Add": Add, "Sub": Sub, "Mul": Mul, "Div": Div, "Least": ofTwo(Least), "Most": ofTwo(Most)} {
		tryAll(t, name, f, []example{
			{null(), null(), null(), 0}, {null(), whole(1), null(), 0}, {whole(1), null(), null(), 0}, {dec(1), null(), null(), 0}, {null(), dec(1), null(), 0},
			// Null is asked ahead of what is too great, ErrKind ahead of both
			{null(), whole(greatest), null(), 0}, {whole(least), null(), null(), 0},
			{null(), text("a"), null(), api.ErrKind}, {text("a"), null(), null(), api.ErrKind}, {sym("a"), whole(0), null(), api.ErrKind}, {whole(0), truth(1), null(), api.ErrKind}, {truth(0), truth(1), null(), api.ErrKind}, {dec(1), sym("a"), null(), api.ErrKind}, {text("1"), text("2"), null(), api.ErrKind},
			{api.Value{Kind: 6}, whole(1), null(), api.ErrKind}, {whole(1), api.Value{Kind: 6}, null(), api.ErrKind}, {null(), api.Value{Kind: 255}, null(), api.ErrKind},
			{api.Value{N: 1}, whole(1), null(), 0}, {whole(1), api.Value{S: "a"}, null(), 0},
		})
	}
}

func ofTwo(f func(l ...api.Value) (api.Value, api.Errno)) binary {
	return func(a, b api.Value) (api.Value, api.Errno) { return f(a, b) }
}

func TestLeastAndMost(t *testing.T) {
	strange := api.Value{Kind: api.Int, N: 5, S: "a"}
	for _, x := range []struct {
		l           []api.Value
		least, most api.Value
		e           api.Errno
	}{
		{nil, null(), null(), 0}, {[]api.Value{}, null(), null(), 0},
		{[]api.Value{whole(7)}, whole(7), whole(7), 0}, {[]api.Value{dec(-7)}, dec(-7), dec(-7), 0}, {[]api.Value{null()}, null(), null(), 0}, {[]api.Value{text("a")}, null(), null(), api.ErrKind}, {[]api.Value{{Kind: 6}}, null(), null(), api.ErrKind}, {[]api.Value{truth(1)}, null(), null(), api.ErrKind},
		{[]api.Value{whole(-7)}, whole(-7), whole(-7), 0}, {[]api.Value{whole(greatest)}, whole(greatest), whole(greatest), 0}, {[]api.Value{whole(least)}, whole(least), whole(least), 0},
		{[]api.Value{whole(3), whole(1), whole(2)}, whole(1), whole(3), 0}, {[]api.Value{whole(-3), whole(-1), whole(-2)}, whole(-3), whole(-1), 0}, {[]api.Value{dec(3), dec(1), dec(2)}, dec(1), dec(3), 0}, {[]api.Value{whole(least), whole(greatest)}, whole(least), whole(greatest), 0},
		{[]api.Value{whole(3), dec(25000), whole(4)}, dec(25000), dec(40000), 0}, {[]api.Value{dec(25000), whole(2)}, dec(20000), dec(25000), 0}, {[]api.Value{whole(1), dec(10000)}, dec(10000), dec(10000), 0},
		{[]api.Value{whole(1), null(), whole(2)}, null(), null(), 0}, {[]api.Value{whole(greatest), dec(1), null()}, null(), null(), 0}, {[]api.Value{null(), whole(1), sym("a")}, null(), null(), api.ErrKind}, {[]api.Value{whole(greatest), dec(1), text("a")}, null(), null(), api.ErrKind},
		{[]api.Value{whole(lastWhole), dec(0), whole(-lastWhole)}, dec(-lastWhole * 10000), dec(lastWhole * 10000), 0},
		{[]api.Value{whole(lastWhole + 1), dec(0)}, null(), null(), api.ErrOver}, {[]api.Value{dec(0), whole(1), whole(-lastWhole - 1)}, null(), null(), api.ErrOver}, {[]api.Value{whole(greatest), whole(least), dec(0)}, null(), null(), api.ErrOver},
		{[]api.Value{strange}, whole(5), whole(5), 0}, {[]api.Value{strange, whole(5)}, whole(5), whole(5), 0}, {[]api.Value{strange, dec(1)}, dec(1), dec(50000), 0},
	} {
		if got, e := Least(x.l...); got != x.least || e != x.e {
			t.Errorf("Least(%#v) = %#v, %d; want %#v, %d", x.l, got, e, x.least, x.e)
		}
		if got, e := Most(x.l...); got != x.most || e != x.e {
			t.Errorf("Most(%#v) = %#v, %d; want %#v, %d", x.l, got, e, x.most, x.e)
		}
	}
}

// What is handed in is not changed.
func TestLeastAndMostChangeNothing(t *testing.T) {
	l := []api.Value{whole(3), dec(25000), {Kind: api.Int, N: 4, S: "a"}}
	Least(l...)
	Most(l...)
	if l[0] != whole(3) || l[1] != dec(25000) || l[2] != (api.Value{Kind: api.Int, N: 4, S: "a"}) {
		t.Error(l)
	}
}

// All of P2.2 held against numbers without bounds.

type model func(a, b *big.Int) (*big.Int, api.Errno)

func modelAdd(a, b *big.Int) (*big.Int, api.Errno) { return new(big.Int).Add(a, b), api.OK }

func modelSub(a, b *big.Int) (*big.Int, api.Errno) { return new(big.Int).Sub(a, b), api.OK }

func modelMul(a, b *big.Int) (*big.Int, api.Errno) { return new(big.Int).Mul(a, b), api.OK }

func modelLeast(a, b *big.Int) (*big.Int, api.Errno) {
	if a.Cmp(b) < 0 {
		return a, api.OK
	}
	return b, api.OK
}

func modelMost(a, b *big.Int) (*big.Int, api.Errno) {
	if a.Cmp(b) > 0 {
		return a, api.OK
	}
	return b, api.OK
}

func modelQuo(a, b *big.Int) (*big.Int, api.Errno) {
	if b.Sign() == 0 {
		return nil, api.ErrDiv
	}
	return new(big.Int).Quo(a, b), api.OK
}

func modelMulDec(a, b *big.Int) (*big.Int, api.Errno) {
	return nearest(new(big.Int).Mul(a, b), big.NewInt(api.Unit)), api.OK
}

func modelDivDec(a, b *big.Int) (*big.Int, api.Errno) {
	if b.Sign() == 0 {
		return nil, api.ErrDiv
	}
	return nearest(new(big.Int).Mul(a, big.NewInt(api.Unit)), b), api.OK
}

// nearest is the whole number nearest to top/bottom; of two the even one.
func nearest(top, bottom *big.Int) *big.Int {
	if bottom.Sign() < 0 {
		top, bottom = new(big.Int).Neg(top), new(big.Int).Neg(bottom)
	}
	below, rest := new(big.Int).DivMod(top, bottom, new(big.Int))
	if c := rest.Lsh(rest, 1).Cmp(bottom); c < 0 || c == 0 && below.Bit(0) == 0 {
		return below
	}
	return below.Add(below, big.NewInt(1))
}

// modelReckon asks what the chapter asks, in its order.
func modelReckon(a, b api.Value, ofInts, ofDecs model) (api.Value, api.Errno) {
	for _, v := range []api.Value{a, b} {
		if !isModelNumber(v) && v.Kind != api.Null {
			return null(), api.ErrKind
		}
	}
	if a.Kind == api.Null || b.Kind == api.Null {
		return null(), api.OK
	}
	if a.Kind == api.Int && b.Kind == api.Int {
		return modelTell(api.Int, big.NewInt(a.N), big.NewInt(b.N), ofInts)
	}
	if !modelWorth(a).IsInt64() || !modelWorth(b).IsInt64() {
		return null(), api.ErrOver
	}
	return modelTell(api.Dec, modelWorth(a), modelWorth(b), ofDecs)
}

func modelTell(kind uint8, a, b *big.Int, m model) (api.Value, api.Errno) {
	n, e := m(a, b)
	if e != api.OK {
		return null(), e
	}
	if !n.IsInt64() {
		return null(), api.ErrOver
	}
	return api.Value{Kind: kind, N: n.Int64()}, api.OK
}

func TestArithmeticAgainstModel(t *testing.T) {
	for _, c := range []struct {
		name           string
		f              binary
		ofInts, ofDecs model
	}{
		{"Add", Add, modelAdd, modelAdd}, {"Sub", Sub, modelSub, modelSub}, {"Mul", Mul, modelMul, modelMulDec}, {"Div", Div, modelQuo, modelDivDec},
		{"Least", ofTwo(Least), modelLeast, modelLeast}, {"Most", ofTwo(Most), modelMost, modelMost},
	} {
		for _, a := range all() {
			for _, b := range all() {
				want, wantE := modelReckon(a, b, c.ofInts, c.ofDecs)
				if got, e := c.f(a, b); got != want || e != wantE {
					t.Errorf("%s(%#v, %#v) = %#v, %d; want %#v, %d", c.name, a, b, got, e, want, wantE)
				}
			}
		}
	}
	for _, a := range all() {
		want, wantE := modelReckon(whole(0), a, modelSub, modelSub)
		if got, e := Neg(a); got != want || e != wantE {
			t.Errorf("Neg(%#v) = %#v, %d; want %#v, %d", a, got, e, want, wantE)
		}
	}
}

// Of three and more, in each order, Least and Most are those of two after each other.
func TestLeastAndMostOfMany(t *testing.T) {
	l := []api.Value{whole(-2), whole(0), whole(3), whole(lastWhole + 1), dec(-1), dec(25000), null(), text("a")}
	for _, a := range l {
		for _, b := range l {
			for _, c := range l {
				holdThree(t, "Least", Least, modelLeast, a, b, c)
				holdThree(t, "Most", Most, modelMost, a, b, c)
			}
		}
	}
}

func holdThree(t *testing.T, name string, f func(l ...api.Value) (api.Value, api.Errno), m model, l ...api.Value) {
	t.Helper()
	want, wantE := modelOfMany(m, l)
	if got, e := f(l...); got != want || e != wantE {
		t.Errorf("%s(%#v) = %#v, %d; want %#v, %d", name, l, got, e, want, wantE)
	}
}

func modelOfMany(m model, l []api.Value) (api.Value, api.Errno) {
	met := map[uint8]int{}
	for _, v := range l {
		met[v.Kind]++
	}
	if met[api.Null]+met[api.Int]+met[api.Dec] < len(l) {
		return null(), api.ErrKind
	}
	if met[api.Null] > 0 || len(l) == 0 {
		return null(), api.OK
	}
	kind, worth := api.Int, func(v api.Value) *big.Int { return big.NewInt(v.N) }
	if met[api.Dec] > 0 {
		kind, worth = api.Dec, modelWorth
	}
	best := worth(l[0])
	for _, v := range l {
		if !worth(v).IsInt64() {
			return null(), api.ErrOver
		}
		best, _ = m(best, worth(v))
	}
	return api.Value{Kind: kind, N: best.Int64()}, api.OK
}
