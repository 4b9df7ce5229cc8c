package num

import (
	"math"
	"math/big"
	"testing"

	"witan/api"
)

const (
	least    = math.MinInt64
	greatest = math.MaxInt64
)

type call func(a, b int64) (int64, api.Errno)

type example struct {
	a, b, want int64
	e          api.Errno
}

func tryAll(t *testing.T, name string, f call, examples []example) {
	t.Helper()
	for _, x := range examples {
		if got, e := f(x.a, x.b); got != x.want || e != x.e {
			t.Errorf("%s(%d, %d) = %d, %d; want %d, %d", name, x.a, x.b, got, e, x.want, x.e)
		}
	}
}

// P1.1

func TestAdd(t *testing.T) {
	tryAll(t, "Add", Add, []example{
		{2, 3, 5, 0}, {2, -3, -1, 0}, {-2, -3, -5, 0}, {0, 0, 0, 0},
		{greatest, 0, greatest, 0}, {0, greatest, greatest, 0}, {least, 0, least, 0}, {0, least, least, 0},
		{greatest - 1, 1, greatest, 0}, {greatest, 1, 0, api.ErrOver}, {1, greatest, 0, api.ErrOver},
		{least + 1, -1, least, 0}, {least, -1, 0, api.ErrOver}, {-1, least, 0, api.ErrOver},
		{greatest, least, -1, 0}, {least, greatest, -1, 0},
		{greatest, greatest, 0, api.ErrOver}, {least, least, 0, api.ErrOver},
		{1 << 62, 1 << 62, 0, api.ErrOver}, {1 << 62, 1<<62 - 1, greatest, 0}, {-1 << 62, -1 << 62, least, 0},
	})
}

func TestSub(t *testing.T) {
	tryAll(t, "Sub", Sub, []example{
		{2, 3, -1, 0}, {2, -3, 5, 0}, {-2, -3, 1, 0}, {-2, 3, -5, 0}, {0, 0, 0, 0},
		{greatest, 0, greatest, 0}, {least, 0, least, 0}, {0, greatest, -greatest, 0},
		{0, least, 0, api.ErrOver}, {-1, least, greatest, 0}, {1, least, 0, api.ErrOver},
		{least, 1, 0, api.ErrOver}, {least + 1, 1, least, 0}, {-1, greatest, least, 0}, {-2, greatest, 0, api.ErrOver},
		{greatest, -1, 0, api.ErrOver}, {greatest - 1, -1, greatest, 0},
		{greatest, greatest, 0, 0}, {least, least, 0, 0},
		{greatest, least, 0, api.ErrOver}, {least, greatest, 0, api.ErrOver},
	})
}

func TestMul(t *testing.T) {
	tryAll(t, "Mul", Mul, []example{
		{6, 7, 42, 0}, {-6, 7, -42, 0}, {6, -7, -42, 0}, {-6, -7, 42, 0},
		{0, 7, 0, 0}, {-7, 0, 0, 0}, {0, least, 0, 0}, {least, 0, 0, 0},
		{greatest, 1, greatest, 0}, {greatest, -1, -greatest, 0}, {least, 1, least, 0}, {1, least, least, 0},
		{least, -1, 0, api.ErrOver}, {-1, least, 0, api.ErrOver},
		{1 << 32, 1 << 31, 0, api.ErrOver}, {1 << 32, -1 << 31, least, 0}, {-1 << 32, -1 << 31, 0, api.ErrOver},
		{7 * 7 * 73 * 127, 337 * 92737 * 649657, greatest, 0},                   // the factors of the greatest
		{1 << 32, 1 << 32, 0, api.ErrOver}, {-1 << 32, 1 << 32, 0, api.ErrOver}, // 2^64: its lower half is 0
		{3037000499, 3037000499, 9223372030926249001, 0}, {3037000500, 3037000500, 0, api.ErrOver},
		{greatest, greatest, 0, api.ErrOver}, {least, least, 0, api.ErrOver}, {least, greatest, 0, api.ErrOver},
	})
}

func TestQuo(t *testing.T) {
	tryAll(t, "Quo", Quo, []example{
		{7, 2, 3, 0}, {-7, 2, -3, 0}, {7, -2, -3, 0}, {-7, -2, 3, 0}, {6, 2, 3, 0}, {1, 2, 0, 0}, {-1, 2, 0, 0}, {0, -5, 0, 0},
		{7, 0, 0, api.ErrDiv}, {0, 0, 0, api.ErrDiv}, {least, 0, 0, api.ErrDiv}, {greatest, 0, 0, api.ErrDiv},
		{least, -1, 0, api.ErrOver}, {least + 1, -1, greatest, 0}, {greatest, -1, -greatest, 0}, {5, -1, -5, 0},
		{least, 1, least, 0}, {least, 2, -1 << 62, 0}, {least, -2, 1 << 62, 0}, {least, least, 1, 0},
		{greatest, least, 0, 0}, {least, greatest, -1, 0}, {greatest, greatest, 1, 0},
	})
}

func TestMod(t *testing.T) {
	tryAll(t, "Mod", Mod, []example{
		{7, 2, 1, 0}, {-7, 2, -1, 0}, {7, -2, 1, 0}, {-7, -2, -1, 0}, {6, 2, 0, 0}, {-6, 2, 0, 0}, {0, -5, 0, 0}, {3, 5, 3, 0}, {-3, 5, -3, 0},
		{7, 0, 0, api.ErrDiv}, {0, 0, 0, api.ErrDiv}, {least, 0, 0, api.ErrDiv},
		{least, -1, 0, 0}, {greatest, -1, 0, 0}, {5, -1, 0, 0},
		{least, least, 0, 0}, {greatest, least, greatest, 0}, {least, greatest, -1, 0}, {least, 10, -8, 0},
	})
}

// P1.2

func TestScale(t *testing.T) {
	scale := func(a, _ int64) (int64, api.Errno) { return Scale(a) }
	tryAll(t, "Scale", scale, []example{
		{0, 0, 0, 0}, {1, 0, 10000, 0}, {-12, 0, -120000, 0},
		{922337203685477, 0, 9223372036854770000, 0}, {922337203685478, 0, 0, api.ErrOver},
		{-922337203685477, 0, -9223372036854770000, 0}, {-922337203685478, 0, 0, api.ErrOver},
		{1 << 60, 0, 0, api.ErrOver}, // 10000 * 2^60 is 0 in the lower 64 bits
		{greatest, 0, 0, api.ErrOver}, {least, 0, 0, api.ErrOver},
	})
}

func TestMulDec(t *testing.T) {
	tryAll(t, "MulDec", MulDec, []example{
		{15000, 20000, 30000, 0}, {-15000, 20000, -30000, 0}, {15000, -20000, -30000, 0}, {-15000, -20000, 30000, 0},
		{0, 5, 0, 0}, {-5, 0, 0, 0}, {0, least, 0, 0},
		// halves: to the even one, on both sides of 0
		{5000, 1, 0, 0}, {15000, 1, 2, 0}, {25000, 1, 2, 0}, {35000, 1, 4, 0},
		{-5000, 1, 0, 0}, {15000, -1, -2, 0}, {-25000, 1, -2, 0}, {-35000, 1, -4, 0}, {-25000, -1, 2, 0},
		// just below and just above a half
		{4999, 1, 0, 0}, {5001, 1, 1, 0}, {14999, 1, 1, 0}, {24999, 1, 2, 0}, {25001, 1, 3, 0}, {-25001, 1, -3, 0}, {-24999, 1, -2, 0},
		{greatest, 10000, greatest, 0}, {greatest, -10000, -greatest, 0}, {least, 10000, least, 0}, {10000, least, least, 0},
		{least, -10000, 0, api.ErrOver}, {greatest, 20000, 0, api.ErrOver}, {greatest, 10001, 0, api.ErrOver},
		{greatest, 1, 922337203685478, 0}, {least, 1, -922337203685478, 0},
		{greatest, greatest, 0, api.ErrOver}, {least, least, 0, api.ErrOver}, {least, greatest, 0, api.ErrOver},
	})
}

func TestDivDec(t *testing.T) {
	tryAll(t, "DivDec", DivDec, []example{
		{10000, 30000, 3333, 0}, {20000, 30000, 6667, 0}, {20000, -30000, -6667, 0}, {-20000, 30000, -6667, 0}, {-20000, -30000, 6667, 0},
		{0, 7, 0, 0}, {0, least, 0, 0}, {60000, 20000, 30000, 0},
		{1, 0, 0, api.ErrDiv}, {0, 0, 0, api.ErrDiv}, {greatest, 0, 0, api.ErrDiv}, {least, 0, 0, api.ErrDiv},
		// halves: to the even one, on both sides of 0
		{1, 20000, 0, 0}, {3, 20000, 2, 0}, {5, 20000, 2, 0}, {7, 20000, 4, 0},
		{-1, 20000, 0, 0}, {3, -20000, -2, 0}, {-5, 20000, -2, 0}, {-7, -20000, 4, 0},
		// just below and just above a half
		{1, 20001, 0, 0}, {1, 19999, 1, 0}, {5, 19999, 3, 0}, {5, 20001, 2, 0}, {-5, 19999, -3, 0},
		// a divisor of -1 is one of -1 unit
		{3, -1, -30000, 0}, {922337203685477, -1, -9223372036854770000, 0}, {922337203685478, -1, 0, api.ErrOver}, {least, -1, 0, api.ErrOver},
		{greatest, 10000, greatest, 0}, {greatest, -10000, -greatest, 0}, {least, 10000, least, 0}, {least, -10000, 0, api.ErrOver},
		{greatest, 9999, 0, api.ErrOver}, {1 << 62, 1, 0, api.ErrOver}, {1 << 62, 5000, 0, api.ErrOver}, {1 << 62, -5000, least, 0}, {-1 << 62, 5000, least, 0},
		{greatest, greatest, 10000, 0}, {least, least, 10000, 0}, {greatest, least, -10000, 0}, {10000, least, 0, 0},
	})
}

// Rests of a divisor above 2^62 are more than half of it although twice the rest is no int64, and for the least int64 no number of 64 bits.
func TestDivDecRoundsByGreatDivisors(t *testing.T) {
	half := int64(461168601842738) // 10000 times it is just below 2^62
	tryAll(t, "DivDec", DivDec, []example{
		{half, least, 0, 0}, {half + 1, least, -1, 0}, {half + 1, greatest, 1, 0}, {-half, greatest, 0, 0},
		{922337203685477, least, -1, 0}, {922337203685477, greatest, 1, 0},
	})
}

// Just inside and just outside of int64 by rounding alone.
func TestRoundingAtTheEdge(t *testing.T) {
	for a := int64(10001); a < 20000; a++ {
		for _, edge := range []*big.Int{bigOf(greatest), new(big.Int).Lsh(big.NewInt(1), 63), new(big.Int).SetUint64(math.MaxUint64)} {
			b := new(big.Int).Mul(edge, big.NewInt(api.Unit))
			b.Quo(b, big.NewInt(a))
			for step := int64(0); step < 3; step++ {
				factor := new(big.Int).Add(b, big.NewInt(step-1))
				if factor.IsInt64() {
					holdAgainstModel(t, "MulDec", MulDec, modelMulDec, a, factor.Int64())
					holdAgainstModel(t, "MulDec", MulDec, modelMulDec, -a, factor.Int64())
				}
			}
		}
	}
}

// Quotients that need a carry out of 64 bits when they are rounded up.
func TestRoundingPastSixtyFourBits(t *testing.T) {
	found := [2]int{}
	over := new(big.Int).Lsh(big.NewInt(1), 64)
	for small := int64(1); small < 60000; small++ {
		product := new(big.Int).Mul(over, big.NewInt(api.Unit))
		product.Quo(product.Sub(product, big.NewInt(1)), big.NewInt(small))
		if product.IsInt64() {
			found[0] += carries(t, "MulDec", MulDec, modelMulDec, product.Int64(), small)
		}
		dividend := new(big.Int).Mul(over, big.NewInt(small))
		dividend.Quo(dividend.Sub(dividend, big.NewInt(1)), big.NewInt(api.Unit))
		if dividend.IsInt64() {
			found[1] += carries(t, "DivDec", DivDec, modelDivDec, dividend.Int64(), small)
		}
	}
	if found[0] == 0 || found[1] == 0 {
		t.Error("no numbers of that kind were tried:", found)
	}
}

// carries tells 1, if the exact answer of the call is 2^64 by rounding.
func carries(t *testing.T, name string, f call, m model, a, b int64) int {
	t.Helper()
	holdAgainstModel(t, name, f, m, a, b)
	exact, _ := m(bigOf(a), bigOf(b))
	if exact.Cmp(new(big.Int).Lsh(big.NewInt(1), 64)) == 0 {
		return 1
	}
	return 0
}

// All of P1.1, P1.2 held against numbers without bounds.

type model func(a, b *big.Int) (*big.Int, api.Errno)

func bigOf(a int64) *big.Int { return big.NewInt(a) }

func modelAdd(a, b *big.Int) (*big.Int, api.Errno) { return new(big.Int).Add(a, b), api.OK }

func modelSub(a, b *big.Int) (*big.Int, api.Errno) { return new(big.Int).Sub(a, b), api.OK }

func modelMul(a, b *big.Int) (*big.Int, api.Errno) { return new(big.Int).Mul(a, b), api.OK }

func modelQuo(a, b *big.Int) (*big.Int, api.Errno) {
	if b.Sign() == 0 {
		return nil, api.ErrDiv
	}
	return new(big.Int).Quo(a, b), api.OK
}

func modelMod(a, b *big.Int) (*big.Int, api.Errno) {
	if b.Sign() == 0 {
		return nil, api.ErrDiv
	}
	product := new(big.Int).Mul(b, new(big.Int).Quo(a, b))
	return new(big.Int).Sub(a, product), api.OK
}

func modelScale(a, _ *big.Int) (*big.Int, api.Errno) { return modelMul(a, bigOf(api.Unit)) }

func modelMulDec(a, b *big.Int) (*big.Int, api.Errno) {
	return nearest(new(big.Int).Mul(a, b), bigOf(api.Unit)), api.OK
}

func modelDivDec(a, b *big.Int) (*big.Int, api.Errno) {
	if b.Sign() == 0 {
		return nil, api.ErrDiv
	}
	return nearest(new(big.Int).Mul(a, bigOf(api.Unit)), b), api.OK
}

// nearest finds the whole number nearest to top/bottom among those beside it: another way than the program's.
func nearest(top, bottom *big.Int) *big.Int {
	if bottom.Sign() < 0 {
		top, bottom = new(big.Int).Neg(top), new(big.Int).Neg(bottom)
	}
	below, rest := new(big.Int).DivMod(top, bottom, new(big.Int))
	twice := new(big.Int).Lsh(rest, 1)
	if c := twice.Cmp(bottom); c < 0 || c == 0 && below.Bit(0) == 0 {
		return below
	}
	return below.Add(below, bigOf(1))
}

func holdAgainstModel(t *testing.T, name string, f call, m model, a, b int64) {
	t.Helper()
	exact, wantE := m(bigOf(a), bigOf(b))
	if wantE == api.OK && !exact.IsInt64() {
		wantE = api.ErrOver
	}
	want := int64(0)
	if wantE == api.OK {
		want = exact.Int64()
	}
	if got, e := f(a, b); got != want || e != wantE {
		t.Errorf("%s(%d, %d) = %d, %d; want %d, %d", name, a, b, got, e, want, wantE)
	}
}

// edges are numbers about 0, Unit, its halves, the powers of 2, roots and the ends of int64, with both signs.
func edges() []int64 {
	var l []int64
	for _, middle := range []int64{0, 5000, 10000, 15000, 20000, 30000, 100000000, 922337203685477, 461168601842738, 3037000500, 303700049997605, 1844674407370955} {
		for near := int64(-2); near <= 2; near++ {
			l = append(l, middle+near, -middle+near)
		}
	}
	for shift := 2; shift < 63; shift += 3 {
		for near := int64(-1); near <= 1; near++ {
			l = append(l, 1<<shift+near, -1<<shift+near)
		}
	}
	for near := int64(0); near <= 3; near++ {
		l = append(l, greatest-near, least+near, 1<<62+near, -1<<62-near)
	}
	return l
}

func TestAgainstModel(t *testing.T) {
	scale := func(a, _ int64) (int64, api.Errno) { return Scale(a) }
	calls := []struct {
		name string
		f    call
		m    model
	}{
		{"Add", Add, modelAdd}, {"Sub", Sub, modelSub}, {"Mul", Mul, modelMul}, {"Quo", Quo, modelQuo},
		{"Mod", Mod, modelMod}, {"Scale", scale, modelScale}, {"MulDec", MulDec, modelMulDec}, {"DivDec", DivDec, modelDivDec},
	}
	l := edges()
	for _, c := range calls {
		for _, a := range l {
			for _, b := range l {
				holdAgainstModel(t, c.name, c.f, c.m, a, b)
			}
		}
	}
}

// 'What follows' of the chapter.
func TestBackAgain(t *testing.T) {
	l := edges()
	for _, a := range l {
		for _, b := range l {
			if sum, e := Add(a, b); e == api.OK {
				if back, e := Sub(sum, b); back != a || e != api.OK {
					t.Errorf("%d plus and less %d = %d, %d", a, b, back, e)
				}
			}
			if product, e := Mul(a, b); e == api.OK && b != 0 {
				if back, e := Quo(product, b); back != a || e != api.OK {
					t.Errorf("%d times and over %d = %d, %d", a, b, back, e)
				}
			}
		}
	}
}
