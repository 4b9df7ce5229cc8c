package memory

import (
	"math"
	"reflect"
	"slices"
	"testing"

	"witan/api"
)

func null() api.Value { return api.Value{} }

func whole(n int64) api.Value { return api.Value{Kind: api.Int, N: n} }

func dec(n int64) api.Value { return api.Value{Kind: api.Dec, N: n} }

func text(s string) api.Value { return api.Value{Kind: api.Str, S: s} }

func truth(n int64) api.Value { return api.Value{Kind: api.Bool, N: n} }

func sym(s string) api.Value { return api.Value{Kind: api.Sym, S: s} }

func list(s ...api.Value) []api.Value { return s }

func fact(id, t int, s ...api.Value) api.Fact { return api.Fact{ID: id, T: t, S: s} }

// made tells a memory that New made.
func made(t *testing.T, limit int) *Memory {
	t.Helper()
	m, e := New(limit)
	if m == nil || e != api.OK {
		t.Fatalf("New(%d) = %v, %d", limit, m, e)
	}
	return m
}

// fill adds facts with values n whole numbers from first on, at template's place 0.
func fill(t *testing.T, m *Memory, first, n int) {
	t.Helper()
	for i := range n {
		if id, fresh, e := m.Add(0, list(whole(int64(first+i)))); id != m.Last() || !fresh || e != api.OK {
			t.Fatalf("Add of %d = %d, %t, %d", first+i, id, fresh, e)
		}
	}
}

func holdAdd(t *testing.T, m *Memory, place int, s []api.Value, wantID int, wantFresh bool, want api.Errno) {
	t.Helper()
	if id, fresh, e := m.Add(place, s); id != wantID || fresh != wantFresh || e != want {
		t.Errorf("Add(%d, %.200v) = %d, %t, %d; want %d, %t, %d", place, s, id, fresh, e, wantID, wantFresh, want)
	}
}

func same(a, b api.Fact) bool { return a.ID == b.ID && a.T == b.T && slices.Equal(a.S, b.S) }

func isZero(f api.Fact) bool { return f.ID == 0 && f.T == 0 && len(f.S) == 0 }

func ends() []int { return []int{math.MinInt, math.MinInt + 1, math.MaxInt - 1, math.MaxInt} }

// holdAll holds all that a memory tells against facts that stand by rising ids.
func holdAll(t *testing.T, m *Memory, last int, want []api.Fact) {
	t.Helper()
	if got := m.Facts(); !slices.EqualFunc(got, want, same) {
		t.Errorf("Facts() = %v, want %v", got, want)
	}
	if m.Len() != len(want) || m.Last() != last {
		t.Errorf("Len() = %d, Last() = %d; want %d, %d", m.Len(), m.Last(), len(want), last)
	}
	at := map[int]api.Fact{}
	for _, f := range want {
		at[f.ID] = f
		if id := m.Find(f.T, slices.Clone(f.S)); id != f.ID {
			t.Errorf("Find(%d, %.200v) = %d, want %d", f.T, f.S, id, f.ID)
		}
	}
	ids := ends()
	for id := -3; id <= last+3; id++ {
		ids = append(ids, id)
	}
	for _, id := range ids {
		f, ok := m.Get(id)
		w, there := at[id]
		if ok != there || there && !same(f, w) || !there && !isZero(f) {
			t.Errorf("Get(%d) = %v, %t; want %v, %t", id, f, ok, w, there)
		}
	}
}

// different are lists of values of which no two are the same, those that may not be among them.
func different() [][]api.Value {
	return [][]api.Value{
		nil,
		list(null()), list(null(), null()), list(null(), null(), null()),
		list(whole(0)), list(dec(0)), list(text("")), list(truth(0)), list(api.Value{Kind: api.Sym}),
		list(whole(1)), list(whole(-1)), list(whole(10000)), list(dec(10000)), list(dec(1)), list(truth(1)),
		list(whole(math.MinInt64)), list(whole(math.MaxInt64)), list(dec(math.MinInt64)), list(dec(math.MaxInt64)),
		list(text("a")), list(sym("a")), list(text("b")), list(text("ab")), list(text("A")), list(text("a ")), list(text("1")), list(text("null")),
		list(whole(1), whole(2)), list(whole(2), whole(1)), list(whole(1), whole(1)), list(whole(1), whole(2), whole(3)), list(whole(12)),
		list(whole(1), null()), list(null(), whole(1)), list(whole(1), dec(2)), list(dec(1), whole(2)),
		list(text("a"), text("b")), list(text("ab"), text("")), list(text(""), text("ab")), list(text("a,b")), list(text("a"), text("c")), list(text("c"), text("b")),
		list(whole(1), text("x"), truth(1), sym("k"), dec(5), null()), list(whole(1), text("x"), truth(0), sym("k"), dec(5), null()),
		list(whole(1), text("x"), truth(1), sym("k"), dec(5), whole(0)), list(whole(2), text("x"), truth(1), sym("k"), dec(5), null()),
		list(whole(1), text("x"), truth(1), sym("k"), dec(5)),
		// which ones fit templates, and may be, is not asked
		list(api.Value{Kind: api.Null, N: 1}), list(api.Value{Kind: api.Null, S: "a"}), list(api.Value{Kind: api.Int, N: 1, S: "a"}), list(api.Value{Kind: api.Str, N: 1, S: "a"}),
		list(api.Value{Kind: api.Bool, N: 2}), list(api.Value{Kind: 6}), list(api.Value{Kind: 255}), list(text("\x00")), list(text("\xff")), list(sym("Not a name")),
		make([]api.Value, 9), make([]api.Value, 1000),
	}
}

// P5.1: New

func TestNew(t *testing.T) {
	for limit := 1; limit <= 200; limit++ {
		holdAll(t, made(t, limit), 0, nil)
	}
}

func TestNewOfOtherLimits(t *testing.T) {
	limits := append(ends(), math.MinInt32, math.MaxInt32, -10000, 1000, 1<<16)
	for n := range 300 {
		limits = append(limits, -n, 201+n)
	}
	for _, limit := range limits {
		if m, e := New(limit); m != nil || e != api.ErrArg {
			t.Errorf("New(%d) = %v, %d; want none, ErrArg", limit, m, e)
		}
	}
}

func TestMemoriesAreApart(t *testing.T) {
	a, b := made(t, 3), made(t, 3)
	holdAdd(t, a, 0, list(whole(1)), 1, true, api.OK)
	holdAdd(t, a, 0, list(whole(2)), 2, true, api.OK)
	holdAll(t, b, 0, nil)
	holdAdd(t, b, 0, list(whole(2)), 1, true, api.OK)
	holdAll(t, a, 2, []api.Fact{fact(1, 0, whole(1)), fact(2, 0, whole(2))})
	holdAll(t, b, 1, []api.Fact{fact(1, 0, whole(2))})
}

// P5.1: Add

func TestAdd(t *testing.T) {
	m := made(t, 200)
	a := list(whole(5), text("a"))
	holdAdd(t, m, 0, a, 1, true, api.OK)
	holdAdd(t, m, 0, a, 1, false, api.OK)
	holdAdd(t, m, 0, list(whole(5), text("b")), 2, true, api.OK)
	holdAdd(t, m, 1, a, 3, true, api.OK)
	holdAdd(t, m, 0, slices.Clone(a), 1, false, api.OK)
	holdAdd(t, m, 1, a, 3, false, api.OK)
	holdAll(t, m, 3, []api.Fact{fact(1, 0, a...), fact(2, 0, whole(5), text("b")), fact(3, 1, a...)})
}

// The chapter's example.
func TestAddBehindRemove(t *testing.T) {
	m := made(t, 1)
	a := list(sym("a"))
	holdAdd(t, m, 0, a, 1, true, api.OK)
	holdAdd(t, m, 0, a, 1, false, api.OK)
	if f, ok := m.Remove(1); !ok || !same(f, fact(1, 0, a...)) {
		t.Errorf("Remove(1) = %v, %t", f, ok)
	}
	holdAdd(t, m, 0, a, 2, true, api.OK)
	holdAll(t, m, 2, []api.Fact{fact(2, 0, a...)})
}

func TestAddHoldsAllValues(t *testing.T) {
	m := made(t, 200)
	var want []api.Fact
	for i, s := range different() {
		holdAdd(t, m, 7, s, i+1, true, api.OK)
		want = append(want, fact(i+1, 7, s...))
	}
	for i, s := range different() {
		holdAdd(t, m, 7, s, i+1, false, api.OK)
		if id := m.Find(8, s); id != 0 {
			t.Errorf("Find(8, %.200v) = %d", s, id)
		}
	}
	holdAll(t, m, len(want), want)
}

// Each one is asked, and each part of it: values that are the same but for one are not the same.
func TestAddOfValuesTheSameButForOne(t *testing.T) {
	for n := 1; n <= 12; n++ {
		base := make([]api.Value, n)
		for i := range base {
			base[i] = api.Value{Kind: api.Str, S: "s"}
		}
		for i := range base {
			for _, other := range []api.Value{{Kind: api.Sym, S: "s"}, {Kind: api.Str, N: 1, S: "s"}, {Kind: api.Str, S: "t"}, {Kind: api.Str}, {Kind: api.Str, S: "ss"}, {}} {
				m := made(t, 3)
				holdAdd(t, m, 0, base, 1, true, api.OK)
				s := slices.Clone(base)
				s[i] = other
				if id := m.Find(0, s); id != 0 {
					t.Errorf("Find(0, %v) = %d beside %v", s, id, base)
				}
				holdAdd(t, m, 0, s, 2, true, api.OK)
				holdAdd(t, m, 0, base, 1, false, api.OK)
				holdAdd(t, m, 0, s, 2, false, api.OK)
			}
		}
		m := made(t, 3)
		holdAdd(t, m, 0, base, 1, true, api.OK)
		holdAdd(t, m, 0, base[:n-1], 2, true, api.OK)
		holdAdd(t, m, 0, append(slices.Clone(base), base[0]), 3, true, api.OK)
	}
}

func TestAddWithoutValues(t *testing.T) {
	m := made(t, 3)
	holdAdd(t, m, 4, nil, 1, true, api.OK)
	holdAdd(t, m, 4, []api.Value{}, 1, false, api.OK)
	holdAdd(t, m, 5, []api.Value{}, 2, true, api.OK)
	holdAdd(t, m, 5, nil, 2, false, api.OK)
	holdAdd(t, m, 5, list(null()), 3, true, api.OK)
	holdAll(t, m, 3, []api.Fact{fact(1, 4), fact(2, 5), fact(3, 5, null())})
}

func TestAddAtAnyPlace(t *testing.T) {
	m := made(t, 200)
	var want []api.Fact
	for i, place := range append(ends(), -1, 0, 1, 2, 15, 16, 17, 1000, -1000, math.MinInt32, math.MaxInt32, 1<<32, 1<<32+1) {
		if id := m.Find(place, list(whole(1))); id != 0 {
			t.Errorf("Find(%d) = %d ahead of it", place, id)
		}
		holdAdd(t, m, place, list(whole(1)), i+1, true, api.OK)
		holdAdd(t, m, place, list(whole(1)), i+1, false, api.OK)
		want = append(want, fact(i+1, place, whole(1)))
	}
	holdAll(t, m, len(want), want)
}

func TestAddOfGreatFacts(t *testing.T) {
	m := made(t, 2)
	great := make([]api.Value, 100000)
	for i := range great {
		great[i] = text("some text or other")
	}
	other := slices.Clone(great)
	other[len(other)-1] = text("some text or othes")
	holdAdd(t, m, 0, great, 1, true, api.OK)
	holdAdd(t, m, 0, other, 2, true, api.OK)
	holdAdd(t, m, 0, great, 1, false, api.OK)
	holdAdd(t, m, 0, great[1:], 0, false, api.ErrFull)
}

func TestAddToAFullOne(t *testing.T) {
	for limit := 1; limit <= 200; limit++ {
		m := made(t, limit)
		fill(t, m, 0, limit)
		all := m.Facts()
		for range 3 {
			holdAdd(t, m, 0, list(whole(-1)), 0, false, api.ErrFull)
			holdAdd(t, m, 1, list(whole(0)), 0, false, api.ErrFull)
			holdAdd(t, m, 0, nil, 0, false, api.ErrFull)
		}
		for i := range limit {
			holdAdd(t, m, 0, list(whole(int64(i))), i+1, false, api.OK)
		}
		holdAll(t, m, limit, all)
		// what was refused gave no id away
		mid := (limit + 1) / 2
		m.Remove(mid)
		holdAdd(t, m, 0, list(whole(-1)), limit+1, true, api.OK)
		holdAdd(t, m, 0, list(whole(-2)), 0, false, api.ErrFull)
		holdAdd(t, m, 0, list(whole(int64(mid-1))), 0, false, api.ErrFull)
		holdAdd(t, m, 0, list(whole(-1)), limit+1, false, api.OK)
		holdAll(t, m, limit+1, append(slices.Delete(slices.Clone(all), mid-1, mid), fact(limit+1, 0, whole(-1))))
	}
}

// The limit is of facts that are there, not of ids.
func TestIdsRiseBeyondTheLimit(t *testing.T) {
	m := made(t, 2)
	fill(t, m, -1, 1)
	for i := 2; i <= 1000; i++ {
		s := list(whole(int64(i % 3)))
		holdAdd(t, m, 0, s, i, true, api.OK)
		holdAdd(t, m, 0, s, i, false, api.OK)
		holdAdd(t, m, 0, list(whole(99)), 0, false, api.ErrFull)
		if f, ok := m.Remove(i); !ok || !same(f, fact(i, 0, s...)) {
			t.Errorf("Remove(%d) = %v, %t", i, f, ok)
		}
		if m.Last() != i || m.Len() != 1 || m.Find(0, s) != 0 {
			t.Errorf("behind the removal of %d: Last() = %d, Len() = %d", i, m.Last(), m.Len())
		}
	}
	holdAll(t, m, 1000, []api.Fact{fact(1, 0, whole(-1))})
}

// P5.1: Remove

func TestRemove(t *testing.T) {
	m := made(t, 200)
	a, b, c := fact(1, 0, whole(1)), fact(2, 3, text("b"), null()), fact(3, -1)
	for _, f := range []api.Fact{a, b, c} {
		holdAdd(t, m, f.T, f.S, f.ID, true, api.OK)
	}
	for _, x := range []struct {
		f    api.Fact
		rest []api.Fact
	}{{b, []api.Fact{a, c}}, {a, []api.Fact{c}}, {c, nil}} {
		if f, ok := m.Remove(x.f.ID); !ok || !same(f, x.f) {
			t.Errorf("Remove(%d) = %v, %t", x.f.ID, f, ok)
		}
		holdAll(t, m, 3, x.rest)
		if id := m.Find(x.f.T, x.f.S); id != 0 {
			t.Errorf("Find of %v = %d behind its removal", x.f, id)
		}
		if f, ok := m.Remove(x.f.ID); ok || !isZero(f) {
			t.Errorf("Remove(%d) again = %v, %t", x.f.ID, f, ok)
		}
		holdAll(t, m, 3, x.rest)
	}
	holdAdd(t, m, b.T, b.S, 4, true, api.OK)
	holdAdd(t, m, a.T, a.S, 5, true, api.OK)
	holdAll(t, m, 5, []api.Fact{fact(4, b.T, b.S...), fact(5, a.T, a.S...)})
}

func TestRemoveOfOtherIds(t *testing.T) {
	m := made(t, 5)
	ids := append(ends(), 0, -1, -2, -1000, 1, 2, 3, 4, 5, 6, 1000, 1<<32+1)
	for _, id := range ids {
		if f, ok := m.Remove(id); ok || !isZero(f) {
			t.Errorf("Remove(%d) of none = %v, %t", id, f, ok)
		}
	}
	holdAll(t, m, 0, nil)
	fill(t, m, 0, 5)
	all := m.Facts()
	for _, id := range ids {
		if 1 <= id && id <= 5 {
			continue
		}
		if f, ok := m.Remove(id); ok || !isZero(f) {
			t.Errorf("Remove(%d) = %v, %t", id, f, ok)
		}
	}
	holdAll(t, m, 5, all)
}

// P5.2: Get, Find, Len, Last are asked by holdAll behind nearly all that is done here, too.

func TestGet(t *testing.T) {
	m := made(t, 10)
	for _, id := range append(ends(), -1, 0, 1) {
		if f, ok := m.Get(id); ok || !isZero(f) {
			t.Errorf("Get(%d) of none = %v, %t", id, f, ok)
		}
	}
	m.Add(2, list(whole(7), null()))
	m.Add(0, list(text("b")))
	m.Add(-5, nil)
	for _, want := range []api.Fact{fact(1, 2, whole(7), null()), fact(2, 0, text("b")), fact(3, -5)} {
		for range 2 {
			if f, ok := m.Get(want.ID); !ok || !same(f, want) {
				t.Errorf("Get(%d) = %v, %t; want %v", want.ID, f, ok, want)
			}
		}
	}
	m.Remove(2)
	for _, id := range append(ends(), -3, -2, -1, 0, 2, 4, 5, 200, 201, 1<<32+1) {
		if f, ok := m.Get(id); ok || !isZero(f) {
			t.Errorf("Get(%d) = %v, %t", id, f, ok)
		}
	}
	holdAll(t, m, 3, []api.Fact{fact(1, 2, whole(7), null()), fact(3, -5)})
}

func TestFind(t *testing.T) {
	m := made(t, 10)
	if id := m.Find(0, nil); id != 0 {
		t.Errorf("Find of none = %d", id)
	}
	a := list(whole(1), text("a"))
	m.Add(0, a)
	m.Add(1, a)
	m.Add(0, nil)
	for _, x := range []struct {
		place int
		s     []api.Value
		want  int
	}{
		{0, a, 1}, {1, a, 2}, {2, a, 0}, {-1, a, 0}, {math.MaxInt, a, 0}, {math.MinInt, a, 0},
		{0, nil, 3}, {0, []api.Value{}, 3}, {1, nil, 0}, {0, a[:1], 0}, {0, a[1:], 0}, {0, append(slices.Clone(a), null()), 0},
		{0, list(text("a"), whole(1)), 0}, {0, list(dec(10000), text("a")), 0}, {0, list(whole(1), sym("a")), 0}, {0, list(whole(2), text("a")), 0}, {0, list(null(), text("a")), 0},
	} {
		if id := m.Find(x.place, x.s); id != x.want {
			t.Errorf("Find(%d, %v) = %d, want %d", x.place, x.s, id, x.want)
		}
	}
	// it adds nothing
	holdAll(t, m, 3, []api.Fact{fact(1, 0, a...), fact(2, 1, a...), fact(3, 0)})
	m.Remove(1)
	if id := m.Find(0, a); id != 0 {
		t.Errorf("Find behind Remove = %d", id)
	}
	m.Add(0, a)
	if id := m.Find(0, a); id != 4 {
		t.Errorf("Find of what came again = %d, want 4", id)
	}
}

// Facts stand by rising ids, whatever was removed between, and each time the same.
func TestFactsByRisingIds(t *testing.T) {
	m := made(t, 200)
	var want []api.Fact
	for i := range 600 {
		if m.Len() == 200 {
			for _, at := range []int{199, 150, 101, 100, 37, 1, 0} {
				m.Remove(want[at].ID)
				want = slices.Delete(want, at, at+1)
			}
		}
		// values fall while ids rise
		m.Add(i%3, list(whole(int64(-i))))
		want = append(want, fact(i+1, i%3, whole(int64(-i))))
	}
	for range 20 {
		holdAll(t, m, 600, want)
	}
	for len(want) > 0 {
		at := len(want) * 2 / 3
		m.Remove(want[at].ID)
		want = slices.Delete(want, at, at+1)
		if got := m.Facts(); !slices.EqualFunc(got, want, same) {
			t.Fatalf("Facts() = %v, want %v", got, want)
		}
	}
	holdAll(t, m, 600, nil)
}

// Whoever ranges over the facts may leave off ahead of the last one.
func TestInOrderMayBeLeft(t *testing.T) {
	m := made(t, 9)
	fill(t, m, 0, 9)
	met := 0
	for f := range m.inOrder() {
		if met++; f.ID != met {
			t.Errorf("%d is told as number %d", f.ID, met)
		}
		if met == 4 {
			break
		}
	}
	if met != 4 {
		t.Errorf("%d were told, want 4", met)
	}
}

func TestLast(t *testing.T) {
	m := made(t, 3)
	for i, x := range []struct {
		do   func()
		last int
		n    int
	}{
		{func() {}, 0, 0},
		{func() { m.Add(0, list(whole(1))) }, 1, 1},
		{func() { m.Add(0, list(whole(1))) }, 1, 1},
		{func() { m.Remove(2) }, 1, 1},
		{func() { m.Remove(1) }, 1, 0},
		{func() { m.Remove(1) }, 1, 0},
		{func() { m.Add(0, list(whole(1))) }, 2, 1},
		{func() { m.Add(0, list(whole(2))) }, 3, 2},
		{func() { m.Remove(3) }, 3, 1},
		{func() { m.Add(0, list(whole(2))) }, 4, 2},
		{func() { m.Add(0, list(whole(3))) }, 5, 3},
		{func() { m.Add(0, list(whole(4))) }, 5, 3},
		{func() { m.Remove(4); m.Remove(2); m.Remove(5) }, 5, 0},
		{func() { m.Find(0, nil); m.Get(6); m.Facts() }, 5, 0},
		{func() { m.Add(0, nil) }, 6, 1},
	} {
		if x.do(); m.Last() != x.last || m.Len() != x.n {
			t.Errorf("%d: Last() = %d, Len() = %d; want %d, %d", i, m.Last(), m.Len(), x.last, x.n)
		}
	}
}

// P5.2: Copy

func TestCopy(t *testing.T) {
	m := made(t, 4)
	fill(t, m, 0, 4)
	m.Remove(4)
	m.Remove(2)
	c := m.Copy()
	if c == nil || c == m {
		t.Fatal("Copy() tells no other one")
	}
	both := []api.Fact{fact(1, 0, whole(0)), fact(3, 0, whole(2))}
	holdAll(t, m, 4, both)
	holdAll(t, c, 4, both)
	// each goes its own way, ids too: the same id for two facts
	holdAdd(t, m, 1, list(text("m")), 5, true, api.OK)
	holdAll(t, c, 4, both)
	holdAdd(t, c, 2, list(text("c")), 5, true, api.OK)
	holdAdd(t, c, 2, list(text("d")), 6, true, api.OK)
	holdAdd(t, c, 2, list(text("e")), 0, false, api.ErrFull)
	holdAll(t, m, 5, append(slices.Clone(both), fact(5, 1, text("m"))))
	holdAll(t, c, 6, append(slices.Clone(both), fact(5, 2, text("c")), fact(6, 2, text("d"))))
	if _, ok := m.Remove(1); !ok {
		t.Error("Remove(1) = false")
	}
	if f, ok := c.Remove(3); !ok || !same(f, both[1]) {
		t.Errorf("Remove(3) = %v, %t", f, ok)
	}
	holdAll(t, m, 5, []api.Fact{both[1], fact(5, 1, text("m"))})
	holdAll(t, c, 6, []api.Fact{both[0], fact(5, 2, text("c")), fact(6, 2, text("d"))})
	// a copy of a copy
	d := c.Copy()
	c.Remove(1)
	holdAdd(t, d, 0, list(whole(9)), 7, true, api.OK)
	holdAll(t, c, 6, []api.Fact{fact(5, 2, text("c")), fact(6, 2, text("d"))})
	holdAll(t, d, 7, []api.Fact{both[0], fact(5, 2, text("c")), fact(6, 2, text("d")), fact(7, 0, whole(9))})
}

func TestCopyHasTheLimit(t *testing.T) {
	for _, limit := range []int{1, 2, 3, 100, 199, 200} {
		m := made(t, limit)
		empty := m.Copy()
		holdAll(t, empty, 0, nil)
		fill(t, empty, 0, limit)
		holdAdd(t, empty, 1, nil, 0, false, api.ErrFull)
		holdAll(t, m, 0, nil)
		full := empty.Copy()
		holdAdd(t, full, 1, nil, 0, false, api.ErrFull)
		holdAdd(t, full, 0, list(whole(0)), 1, false, api.OK)
		full.Remove(1)
		holdAdd(t, full, 1, nil, limit+1, true, api.OK)
		holdAdd(t, empty, 0, list(whole(0)), 1, false, api.OK)
	}
}

// One that has no facts any more still knows the last id.
func TestCopyOfOneThatWasEmptied(t *testing.T) {
	m := made(t, 2)
	fill(t, m, 0, 2)
	m.Remove(1)
	m.Remove(2)
	c := m.Copy()
	holdAll(t, c, 2, nil)
	holdAdd(t, c, 0, list(whole(0)), 3, true, api.OK)
	holdAll(t, m, 2, nil)
	holdAdd(t, m, 0, list(whole(1)), 3, true, api.OK)
}

// Memory of its own: what is handed in and what is told.

// scribble writes over values, and behind them, where there is room.
func scribble(s []api.Value) {
	s = s[:cap(s)]
	for i := range s {
		s[i] = api.Value{Kind: 99, N: -99, S: "written over"}
	}
}

func scribbleFacts(l []api.Fact) {
	for _, f := range l[:cap(l)] {
		scribble(f.S)
	}
	clear(l[:cap(l)])
}

func TestHandedInIsNotKept(t *testing.T) {
	m := made(t, 10)
	var want []api.Fact
	s := make([]api.Value, 0, 8)
	for n := range 8 {
		s = s[:0]
		for i := range n {
			s = append(s, whole(int64(10*n+i)))
		}
		m.Add(n, s)
		want = append(want, fact(n+1, n, slices.Clone(s)...))
		m.Find(n, s)
		scribble(s)
		holdAll(t, m, n+1, want)
	}
	// one that was there already, and one that is refused
	s = list(whole(10))
	m.Add(1, s)
	scribble(s)
	m.Add(8, list(whole(1)))
	m.Add(9, list(whole(1)))
	want = append(want, fact(9, 8, whole(1)), fact(10, 9, whole(1)))
	s = list(whole(2))
	holdAdd(t, m, 10, s, 0, false, api.ErrFull)
	scribble(s)
	holdAll(t, m, 10, want)
}

func TestHandedInIsNotChanged(t *testing.T) {
	for _, s := range different() {
		m := made(t, 2)
		// what stands behind the list is not the memory's either
		room := append(slices.Clone(s), text("behind"), text("it"))
		before := slices.Clone(room)
		handed := room[:len(s)]
		m.Add(0, handed)
		m.Add(0, handed)
		m.Add(1, handed)
		m.Add(2, handed)
		m.Find(0, handed)
		m.Facts()
		m.Remove(1)
		scribbleFacts(m.Facts())
		if !slices.Equal(room, before) {
			t.Errorf("%v was changed to %v", before, room)
		}
	}
}

func TestToldHasMemoryOfItsOwn(t *testing.T) {
	m := made(t, 200)
	var want []api.Fact
	for i, s := range different() {
		m.Add(i%2, s)
		want = append(want, fact(i+1, i%2, s...))
	}
	last := len(want)
	for _, w := range want {
		f, _ := m.Get(w.ID)
		other, _ := m.Get(w.ID)
		scribble(f.S)
		if !same(other, w) {
			t.Errorf("Get(%d) tells %v twice", w.ID, other)
		}
	}
	holdAll(t, m, last, want)
	l, other := m.Facts(), m.Facts()
	scribbleFacts(l)
	if !slices.EqualFunc(other, want, same) {
		t.Errorf("Facts() tells %v, whose memory was told ahead", other)
	}
	holdAll(t, m, last, want)
	c := m.Copy()
	scribbleFacts(c.Facts())
	f, _ := c.Remove(last)
	scribble(f.S)
	holdAll(t, m, last, want)
	holdAll(t, c, last, want[:last-1])
	f, _ = m.Remove(1)
	scribble(f.S)
	f, _ = m.Remove(last)
	scribble(f.S)
	holdAll(t, m, last, want[1:last-1])
	holdAll(t, c, last, want[:last-1])
}

// No two lists of one answer share memory: one that is written over, or grows, leaves the others.
func TestFactsShareNothing(t *testing.T) {
	m := made(t, 200)
	var want []api.Fact
	for i, s := range different() {
		m.Add(3, s)
		want = append(want, fact(i+1, 3, s...))
	}
	for i := range want {
		l := m.Facts()
		scribble(append(l[i].S, text("one more")))
		scribble(l[i].S)
		l[i] = want[i]
		if !slices.EqualFunc(l, want, same) {
			t.Errorf("%d was written over; now there is %v", i, l)
		}
	}
	holdAll(t, m, len(want), want)
}

// What is told by a memory may be handed in to it, or to another one.
func TestToldIsHandedIn(t *testing.T) {
	m := made(t, 4)
	fill(t, m, 0, 2)
	f, _ := m.Get(1)
	holdAdd(t, m, f.T, f.S, 1, false, api.OK)
	f.S[0] = whole(50)
	holdAdd(t, m, f.T, f.S, 3, true, api.OK)
	f.S[0] = whole(60)
	g, _ := m.Remove(2)
	holdAdd(t, m, g.T, g.S, 4, true, api.OK)
	g.S[0] = whole(70)
	holdAll(t, m, 4, []api.Fact{fact(1, 0, whole(0)), fact(3, 0, whole(50)), fact(4, 0, whole(1))})
}

// One that is not there, or was not made.
func TestNoMemory(t *testing.T) {
	var none *Memory
	for _, m := range []*Memory{none, new(Memory)} {
		for range 2 {
			for _, s := range append(different(), []api.Value{}) {
				for _, place := range append(ends(), -1, 0, 1) {
					holdAdd(t, m, place, s, 0, false, api.ErrNil)
					if id := m.Find(place, s); id != 0 {
						t.Errorf("Find of no memory = %d", id)
					}
				}
			}
			for _, id := range append(ends(), -1, 0, 1, 2) {
				if f, ok := m.Get(id); ok || !isZero(f) {
					t.Errorf("Get of no memory = %v, %t", f, ok)
				}
				if f, ok := m.Remove(id); ok || !isZero(f) {
					t.Errorf("Remove of no memory = %v, %t", f, ok)
				}
			}
			if l, n, last, c := m.Facts(), m.Len(), m.Last(), m.Copy(); len(l) != 0 || n != 0 || last != 0 || c != nil {
				t.Errorf("no memory tells %v, %d, %d, %v", l, n, last, c)
			}
		}
	}
}

// The calls have the chapter's signatures.
func TestSignatures(t *testing.T) {
	var _ func(int) (*Memory, api.Errno) = New
	var _ interface {
		Add(int, []api.Value) (int, bool, api.Errno)
		Remove(int) (api.Fact, bool)
		Get(int) (api.Fact, bool)
		Find(int, []api.Value) int
		Facts() []api.Fact
		Len() int
		Last() int
		Copy() *Memory
	} = made(t, 1)
	if k := reflect.TypeFor[Memory]().Kind(); k != reflect.Struct {
		t.Errorf("a Memory is a %v", k)
	}
}
