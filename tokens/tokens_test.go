package tokens

import (
	"math"
	"slices"
	"testing"

	"witan/api"
)

// adds asks for a token that comes.
func (h *held) adds(parent, node, fact, want int) {
	h.t.Helper()
	if id, e := h.add(parent, node, fact); id != want || e != api.OK {
		h.t.Errorf("Add %d, %d, %d: %d, %d; not %d", parent, node, fact, id, e, want)
	}
}

// refuses asks for an error.
func (h *held) refuses(parent, node, fact int, want api.Errno) {
	h.t.Helper()
	if id, e := h.add(parent, node, fact); id != 0 || e != want {
		h.t.Errorf("Add %d, %d, %d: %d, %d; not %d", parent, node, fact, id, e, want)
	}
}

// removes asks for the numbers of those that go.
func (h *held) removes(id int, want ...int) {
	h.t.Helper()
	if l := h.remove(id); !slices.Equal(l, want) {
		h.t.Errorf("Remove %d: %v, not %v", id, l, want)
	}
}

// numbers holds those that were told against those that were wanted.
func numbers(t *testing.T, call string, got []int, want ...int) {
	t.Helper()
	if !slices.Equal(got, want) {
		t.Errorf("%s: %v, not %v", call, got, want)
	}
}

// tree has, below the token 0, 1 and 2; below 1 3 and 4; below 3 5 and 7; below 4 6; below 2 8.
func tree(t *testing.T) *held {
	t.Helper()
	h := hold(t)
	for i, x := range [][3]int{{0, 1, 5}, {0, 1, 6}, {1, 2, 6}, {1, 2, 0}, {3, 3, 5}, {4, 3, 7}, {3, 0, 5}, {2, 2, 6}} {
		h.adds(x[0], x[1], x[2], i+1)
	}
	return h
}

// The chapter's examples.
func TestExamples(t *testing.T) {
	h := hold(t)
	h.adds(0, 1, 7, 1)
	h.adds(1, 2, 0, 2)
	h.adds(2, 3, 9, 3)
	numbers(t, "Tuple 3", h.arena.Tuple(3), 7, 9)
	h.removes(2, 2, 3)
	if n := h.arena.Len(); n != 2 {
		t.Error("Len:", n)
	}
}

// P21.2: of a new one.
func TestNew(t *testing.T) {
	a := New()
	if x, ok := a.Get(0); x != (api.Token{ID: 0, Parent: -1, Node: 0, Fact: 0}) || !ok {
		t.Error("Get 0:", x, ok)
	}
	if x, ok := a.Get(1); x != (api.Token{}) || ok {
		t.Error("Get 1:", x, ok)
	}
	if a.Len() != 1 {
		t.Error("Len:", a.Len())
	}
	numbers(t, "Kids 0", a.Kids(0))
	numbers(t, "Kids -1", a.Kids(-1), 0)
	numbers(t, "At 0", a.At(0), 0)
	numbers(t, "With 0", a.With(0))
	numbers(t, "Tuple 0", a.Tuple(0))
}

// P21.1: an Add that is refused, and leaves all as it was, the next number too.
func TestAddRefused(t *testing.T) {
	h := tree(t)
	h.removes(4, 4, 6)
	next := 9
	args := [][2]int{{1, 5}, {0, 0}, {-1, 5}, {1, -1}, {-1, -1}, {math.MinInt, 5}, {1, math.MinInt}, {math.MinInt, math.MinInt}, {-1 << 32, 0}, {0, -1 << 32}, {math.MaxInt, -1}, {-1, math.MaxInt}}
	none := append(far(), 4, 6, next, next+1, 1000)
	for _, parent := range none {
		for _, x := range args {
			h.refuses(parent, x[0], x[1], api.ErrNone)
		}
	}
	for _, parent := range []int{0, 1, 3, 8} {
		for _, x := range args[2:] {
			h.refuses(parent, x[0], x[1], api.ErrArg)
		}
		h.adds(parent, 0, 0, next)
		next++
	}
	h.adds(next-1, math.MaxInt, math.MaxInt, next)
	h.adds(next, 1<<32, 1<<32, next+1)
	numbers(t, "Tuple", h.arena.Tuple(next+1), 6, 6, math.MaxInt, 1<<32)
}

// P21.1: numbers rise, and none comes again, also of the greatest that went.
func TestNumbers(t *testing.T) {
	h := hold(t)
	for n := 1; n < 20; n++ {
		h.adds(0, 1, 5, n)
		h.removes(n, n)
		h.refuses(n, 1, 5, api.ErrNone)
	}
	h.adds(0, 1, 5, 20)
	h.adds(20, 1, 5, 21)
	h.adds(20, 1, 5, 22)
	h.removes(22, 22)
	h.adds(20, 1, 5, 23)
	h.removes(20, 20, 21, 23)
	h.removes(20)
	h.adds(0, 1, 5, 24)
	numbers(t, "Kids 0", h.arena.Kids(0), 24)
}

// P21.1: what is not there, went already, or is the token 0.
func TestRemoveOfNone(t *testing.T) {
	for _, h := range []*held{hold(t), tree(t)} {
		h.removes(0)
		for _, id := range append(far(), 9, 10, 1000) {
			h.removes(id)
		}
	}
	h := tree(t)
	h.removes(3, 3, 5, 7)
	for _, id := range []int{3, 5, 7, 0} {
		h.removes(id)
	}
	h.removes(1, 1, 4, 6)
	for _, id := range []int{1, 3, 4, 5, 6, 7, 0} {
		h.removes(id)
	}
}

// P21.1: those without anything below them, and with much, on many ways.
func TestRemove(t *testing.T) {
	for _, c := range [][]int{{1, 1, 3, 4, 5, 6, 7}, {2, 2, 8}, {3, 3, 5, 7}, {4, 4, 6}, {5, 5}, {6, 6}, {7, 7}, {8, 8}} {
		tree(t).removes(c[0], c[1:]...)
	}
	h := tree(t)
	h.removes(5, 5)
	h.adds(4, 3, 5, 9)
	h.adds(7, 3, 5, 10)
	h.adds(10, 0, 0, 11)
	h.adds(2, 0, 0, 12)
	h.removes(1, 1, 3, 4, 6, 7, 9, 10, 11)
	h.adds(0, 0, 0, 13)
	h.removes(2, 2, 8, 12)
	h.removes(13, 13)
}

// P21.1: tokens are told as they were.
func TestRemovedTokens(t *testing.T) {
	a := New()
	for _, x := range [][3]int{{0, 1, 7}, {0, 4, 8}, {1, 2, 0}, {2, 0, 3}, {3, math.MaxInt, math.MaxInt}} {
		a.Add(x[0], x[1], x[2])
	}
	want := []api.Token{{ID: 1, Parent: 0, Node: 1, Fact: 7}, {ID: 3, Parent: 1, Node: 2, Fact: 0}, {ID: 5, Parent: 3, Node: math.MaxInt, Fact: math.MaxInt}}
	if l := a.Remove(1); !slices.Equal(l, want) {
		t.Error(l)
	}
	if x, ok := a.Get(4); x != (api.Token{ID: 4, Parent: 2, Node: 0, Fact: 3}) || !ok {
		t.Error(x, ok)
	}
}

// P21.2: many at one node, and with one fact, of one parent and of different ones.
func TestAtAndWith(t *testing.T) {
	h := hold(t)
	h.adds(0, 1, 5, 1)
	h.adds(0, 1, 5, 2)
	for n := 3; n < 12; n++ {
		h.adds(n%3, 1, 5, n)
	}
	h.adds(5, 2, 5, 12)
	h.adds(5, 1, 6, 13)
	numbers(t, "At 1", h.arena.At(1), 1, 2, 3, 4, 5, 6, 7, 8, 9, 10, 11, 13)
	numbers(t, "With 5", h.arena.With(5), 1, 2, 3, 4, 5, 6, 7, 8, 9, 10, 11, 12)
	numbers(t, "Kids 1", h.arena.Kids(1), 4, 7, 10)
	h.removes(1, 1, 4, 7, 10)
	numbers(t, "At 1", h.arena.At(1), 2, 3, 5, 6, 8, 9, 11, 13)
	numbers(t, "With 5", h.arena.With(5), 2, 3, 5, 6, 8, 9, 11, 12)
	h.removes(12, 12)
	numbers(t, "At 2", h.arena.At(2))
	numbers(t, "With 6", h.arena.With(6), 13)
	h.removes(2, 2, 5, 8, 11, 13)
	numbers(t, "With 6", h.arena.With(6))
	numbers(t, "At 1", h.arena.At(1), 3, 6, 9)
	numbers(t, "Kids 2", h.arena.Kids(2))
}

// P21.2: nodes and facts are numbers of their own, also where a token has the same.
func TestNodesAndFactsApart(t *testing.T) {
	h := hold(t)
	h.adds(0, 2, 3, 1)
	h.adds(1, 3, 1, 2)
	h.adds(1, 1, 2, 3)
	for n, want := range [][]int{{1}, {2, 3}, nil, nil} {
		numbers(t, "Kids", h.arena.Kids(n), want...)
	}
	for n, want := range [][]int{{0}, {3}, {1}, {2}} {
		numbers(t, "At", h.arena.At(n), want...)
	}
	for n, want := range [][]int{nil, {2}, {3}, {1}} {
		numbers(t, "With", h.arena.With(n), want...)
	}
}

// P21.2: the node 0 has the token 0, and others beside it; the fact 0 is none.
func TestNodeAndFactOf0(t *testing.T) {
	h := hold(t)
	h.adds(0, 1, 0, 1)
	numbers(t, "At 0", h.arena.At(0), 0)
	h.adds(1, 0, 0, 2)
	h.adds(0, 0, 5, 3)
	numbers(t, "At 0", h.arena.At(0), 0, 2, 3)
	numbers(t, "With 0", h.arena.With(0))
	h.removes(1, 1, 2)
	numbers(t, "At 0", h.arena.At(0), 0, 3)
	h.removes(3, 3)
	numbers(t, "At 0", h.arena.At(0), 0)
	numbers(t, "With 0", h.arena.With(0))
	for _, n := range far() {
		numbers(t, "At", h.arena.At(n))
		numbers(t, "With", h.arena.With(n))
	}
}

// P21.2: the parent of the token 0 is -1, and of no other one.
func TestKids(t *testing.T) {
	h := tree(t)
	for id, want := range [][]int{{1, 2}, {3, 4}, {8}, {5, 7}, {6}, nil, nil, nil, nil, nil} {
		numbers(t, "Kids", h.arena.Kids(id), want...)
	}
	numbers(t, "Kids -1", h.arena.Kids(-1), 0)
	for _, id := range []int{math.MinInt, -2, 1000, math.MaxInt} {
		numbers(t, "Kids", h.arena.Kids(id))
	}
	h.removes(3, 3, 5, 7)
	numbers(t, "Kids 1", h.arena.Kids(1), 4)
	numbers(t, "Kids 3", h.arena.Kids(3))
	h.removes(1, 1, 4, 6)
	h.removes(2, 2, 8)
	numbers(t, "Kids 0", h.arena.Kids(0))
	numbers(t, "Kids -1", h.arena.Kids(-1), 0)
}

// P21.2: facts that are 0 among others are not told; the same one may come again.
func TestTuple(t *testing.T) {
	h := hold(t)
	for i, fact := range []int{0, 9, 0, 0, 3, 9, math.MaxInt, 0, 1} {
		h.adds(i, 1, fact, i+1)
	}
	h.adds(5, 1, 4, 10)
	for id, want := range [][]int{nil, nil, {9}, {9}, {9}, {9, 3}, {9, 3, 9}, {9, 3, 9, math.MaxInt}, {9, 3, 9, math.MaxInt}, {9, 3, 9, math.MaxInt, 1}, {9, 3, 4}, nil} {
		numbers(t, "Tuple", h.arena.Tuple(id), want...)
	}
	h.removes(6, 6, 7, 8, 9)
	numbers(t, "Tuple 6", h.arena.Tuple(6))
	numbers(t, "Tuple 9", h.arena.Tuple(9))
	numbers(t, "Tuple 10", h.arena.Tuple(10), 9, 3, 4)
	for _, id := range far() {
		numbers(t, "Tuple", h.arena.Tuple(id))
	}
}

// P21.2: Len behind each call.
func TestLen(t *testing.T) {
	a := New()
	want := func(n int) {
		t.Helper()
		if a.Len() != n {
			t.Errorf("Len: %d, not %d", a.Len(), n)
		}
	}
	want(1)
	for n := range 5 {
		a.Add(n, 1, 5)
		want(n + 2)
	}
	a.Add(7, 1, 5)
	want(6)
	a.Add(5, -1, 5)
	want(6)
	a.Remove(0)
	want(6)
	a.Remove(6)
	want(6)
	a.Remove(3)
	want(3)
	a.Remove(3)
	want(3)
	a.Remove(1)
	want(1)
}

// An arena of which all below 0 went is as a new one but for the next number.
func TestAllWent(t *testing.T) {
	h := tree(t)
	h.removes(2, 2, 8)
	h.removes(1, 1, 3, 4, 5, 6, 7)
	if len(h.arena.tokens) != 1 || len(h.arena.kids) != 1 || len(h.arena.nodes) != 1 || len(h.arena.facts) != 0 {
		t.Error("more is kept than the token 0:", *h.arena)
	}
	h.adds(0, 1, 5, 9)
	h.adds(9, 2, 6, 10)
	numbers(t, "Tuple 10", h.arena.Tuple(10), 5, 6)
	h.removes(9, 9, 10)
	numbers(t, "Kids 0", h.arena.Kids(0))
}

// A long way down: each token below the one before.
func TestLongWay(t *testing.T) {
	const long = 10000
	a := New()
	var want []int
	for n := 1; n <= long; n++ {
		if id, e := a.Add(n-1, n%7, n%3*n); id != n || e != api.OK {
			t.Fatal(id, e)
		}
		if n%3 > 0 {
			want = append(want, n%3*n)
		}
	}
	if !slices.Equal(a.Tuple(long), want) || a.Len() != long+1 {
		t.Error("Tuple of the last one, or Len")
	}
	for _, half := range []int{long / 2, 1} {
		there := a.Len()
		l := a.Remove(half)
		if len(l) != there-half || a.Len() != half {
			t.Fatal("Remove", len(l), a.Len())
		}
		for i, x := range l {
			if n := half + i; x != (api.Token{ID: n, Parent: n - 1, Node: n % 7, Fact: n % 3 * n}) {
				t.Fatal(x)
			}
		}
		numbers(t, "Tuple", a.Tuple(long))
	}
	numbers(t, "At 0", a.At(0), 0)
	numbers(t, "At 1", a.At(1))
	if id, e := a.Add(0, 1, 5); id != long+1 || e != api.OK {
		t.Error(id, e)
	}
}

// Many below one: all are told rising, whatever order maps are gone through in.
func TestManyBelowOne(t *testing.T) {
	const many = 10000
	a := New()
	a.Add(0, 2, 6)
	var all []int
	for n := 2; n <= many; n++ {
		a.Add(1, 1, 5)
		all = append(all, n)
	}
	numbers(t, "Kids 1", a.Kids(1), all...)
	numbers(t, "At 1", a.At(1), all...)
	numbers(t, "With 5", a.With(5), all...)
	l := a.Remove(1)
	for i, x := range l {
		if x.ID != i+1 {
			t.Fatal(i, x)
		}
	}
	if len(l) != many || a.Len() != 1 {
		t.Error("Remove 1:", len(l), a.Len())
	}
	numbers(t, "At 1", a.At(1))
	numbers(t, "With 5", a.With(5))
}

// What was told is written over and appended to: the arena stays as it was, and
// so do the lists that were told before.
func TestWrittenOver(t *testing.T) {
	h := tree(t)
	calls := []func() []int{
		func() []int { return h.arena.Kids(1) }, func() []int { return h.arena.At(2) }, func() []int { return h.arena.With(6) }, func() []int { return h.arena.Tuple(5) }, func() []int { return h.arena.At(0) },
	}
	for _, call := range calls {
		first, second := call(), call()
		before := slices.Clone(first)
		more := append(second, 91, 92, 93)
		clear(more)
		clear(second[:cap(second)])
		if !slices.Equal(first, before) || !slices.Equal(call(), before) || len(before) < 2 {
			t.Error(first, before, call())
		}
		h.all()
	}
	gone := h.arena.Remove(1)
	before := slices.Clone(gone)
	h.there = slices.DeleteFunc(h.there, func(x api.Token) bool { return slices.Contains(before, x) })
	h.all()
	h.removes(2, 2, 8)
	h.adds(0, 1, 5, 9)
	if !slices.Equal(gone, before) || len(gone) != 6 {
		t.Error(gone, before)
	}
}

// Two arenas have nothing in common.
func TestTwo(t *testing.T) {
	h, other := tree(t), hold(t)
	other.adds(0, 9, 9, 1)
	h.removes(1, 1, 3, 4, 5, 6, 7)
	other.adds(1, 9, 9, 2)
	h.all()
	other.all()
}

// P1: an arena that is not there, or was not made.
func TestNotMade(t *testing.T) {
	ids := append(far(), 0, 1, 2)
	for _, a := range []*Arena{nil, {}, new(Arena)} {
		for _, n := range ids {
			for _, m := range ids {
				for _, args := range [][3]int{{n, m, 5}, {n, 1, m}, {0, n, m}, {n, m, m}} {
					if id, e := a.Add(args[0], args[1], args[2]); id != 0 || e != api.ErrNil {
						t.Error("Add", args, id, e)
					}
				}
			}
			if l := a.Remove(n); len(l) > 0 {
				t.Error("Remove", n, l)
			}
			if x, ok := a.Get(n); x != (api.Token{}) || ok {
				t.Error("Get", n, x, ok)
			}
			if len(a.Kids(n))+len(a.At(n))+len(a.With(n))+len(a.Tuple(n)) > 0 {
				t.Error("a list of", n)
			}
		}
		if a.Len() != 0 {
			t.Error("Len", a.Len())
		}
	}
}
