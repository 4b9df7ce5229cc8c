package tokens

import (
	"fmt"
	"math"
	"math/rand"
	"slices"
	"testing"

	"witan/api"
)

// held is an arena, and all that its answers hang on: the tokens that are there,
// in the order in which they came, and how many ever came.
type held struct {
	t     *testing.T
	arena *Arena
	there []api.Token
	came  int
	marks int
	marked
}

// marked are lists that were told before, each written over with a mark of its
// own: whether they have it still.
type marked []func() bool

func hold(t *testing.T) *held {
	t.Helper()
	h := &held{t: t, arena: New(), there: []api.Token{{ID: 0, Parent: -1, Node: 0, Fact: 0}}}
	h.all()
	return h
}

// over writes a mark over a list, and over what it has room for, and tells what
// asks whether it is there still.
func over[T comparable](l []T, mark T) func() bool {
	l = l[:cap(l)]
	for i := range l {
		l[i] = mark
	}
	return func() bool { return !slices.ContainsFunc(l, func(x T) bool { return x != mark }) }
}

// mark keeps the last of those that were written over, for so long that a list
// that was told meanwhile would have been seen in them.
func (h *held) mark(f func() bool) {
	h.marked = append(h.marked, f)
	if more := len(h.marked) - 200; more > 0 {
		h.marked = h.marked[more:]
	}
}

// list holds numbers that were told against those that were wanted, and writes
// over them.
func (h *held) list(call string, n int, got, want []int) {
	h.t.Helper()
	if !slices.Equal(got, want) {
		h.t.Errorf("%s %d: %v, not %v, of %v", call, n, got, want, h.there)
	}
	h.marks--
	h.mark(over(got, h.marks))
}

func (h *held) find(id int) int {
	return slices.IndexFunc(h.there, func(t api.Token) bool { return t.ID == id })
}

// having tells the numbers of those of which one asks this; they came rising.
func (h *held) having(asked func(t api.Token) bool) []int {
	var l []int
	for _, t := range h.there {
		if asked(t) {
			l = append(l, t.ID)
		}
	}
	return l
}

// isFrom tells whether a token is one, or below it.
func (h *held) isFrom(t api.Token, id int) bool {
	return t.ID == id || t.ID != 0 && h.isFrom(h.there[h.find(t.Parent)], id)
}

func (h *held) tuple(id int) []int {
	i := h.find(id)
	if i < 0 {
		return nil
	}
	l := h.tuple(h.there[i].Parent)
	if h.there[i].Fact == 0 {
		return l
	}
	return append(l, h.there[i].Fact)
}

func far() []int { return []int{math.MinInt, -1 << 32, -2, -1, 1 << 32, math.MaxInt} }

// all asks all there is to be told, of all tokens, and of numbers of none.
func (h *held) all() {
	h.t.Helper()
	numbers := far()
	for n := range h.came + 3 {
		numbers = append(numbers, n)
	}
	for _, t := range h.there {
		numbers = append(numbers, t.Node, t.Fact)
	}
	slices.Sort(numbers)
	for _, n := range slices.Compact(numbers) {
		var want api.Token
		i := h.find(n)
		if i >= 0 {
			want = h.there[i]
		}
		if got, ok := h.arena.Get(n); got != want || ok != (i >= 0) {
			h.t.Errorf("Get %d: %v, %t; not %v, %t", n, got, ok, want, i >= 0)
		}
		h.list("Kids", n, h.arena.Kids(n), h.having(func(t api.Token) bool { return t.Parent == n }))
		h.list("At", n, h.arena.At(n), h.having(func(t api.Token) bool { return t.Node == n }))
		h.list("With", n, h.arena.With(n), h.having(func(t api.Token) bool { return t.Fact == n && n != 0 }))
		h.list("Tuple", n, h.arena.Tuple(n), h.tuple(n))
	}
	if n := h.arena.Len(); n != len(h.there) {
		h.t.Errorf("Len: %d, of %v", n, h.there)
	}
	for _, whole := range h.marked {
		if !whole() {
			h.t.Error("a list that was told before is another one now")
		}
	}
}

// add adds a token, and tells its number and the error.
func (h *held) add(parent, node, fact int) (int, api.Errno) {
	h.t.Helper()
	wantID, want := 0, api.OK
	switch {
	case h.find(parent) < 0:
		want = api.ErrNone
	case node < 0 || fact < 0:
		want = api.ErrArg
	default:
		h.came++
		wantID = h.came
		h.there = append(h.there, api.Token{ID: wantID, Parent: parent, Node: node, Fact: fact})
	}
	id, e := h.arena.Add(parent, node, fact)
	if id != wantID || e != want {
		h.t.Errorf("Add %d, %d, %d: %d, %d; not %d, %d", parent, node, fact, id, e, wantID, want)
	}
	h.all()
	return id, e
}

// remove removes a token, and tells the numbers of those that went.
func (h *held) remove(id int) []int {
	h.t.Helper()
	var gone, stay []api.Token
	for _, t := range h.there {
		if id != 0 && h.isFrom(t, id) {
			gone = append(gone, t)
		} else {
			stay = append(stay, t)
		}
	}
	h.there = stay
	got := h.arena.Remove(id)
	if !slices.Equal(got, gone) {
		h.t.Errorf("Remove %d: %v, not %v, beside %v", id, got, gone, stay)
	}
	h.marks--
	h.mark(over(got, api.Token{ID: h.marks, Parent: h.marks, Node: h.marks, Fact: h.marks}))
	h.all()
	var ids []int
	for _, t := range gone {
		ids = append(ids, t.ID)
	}
	return ids
}

// one tells a number by chance, mostly of those given, now and then any at all.
func one(r *rand.Rand, given ...int) int {
	if r.Intn(12) == 0 {
		return far()[r.Intn(len(far()))]
	}
	return given[r.Intn(len(given))]
}

// P21.1, P21.2: tokens by chance, that come and go.
func TestByChance(t *testing.T) {
	seen := map[string]int{}
	for seed := range int64(800) {
		r := rand.New(rand.NewSource(seed))
		h := hold(t)
		goes := 2 + r.Intn(12)
		for range 5 + r.Intn(40) {
			last := h.there[len(h.there)-1].ID
			some := h.there[r.Intn(len(h.there))].ID
			ever := r.Intn(h.came + 2)
			if r.Intn(goes) == 0 {
				n := len(h.remove(one(r, last, some, some, ever)))
				seen[fmt.Sprint("went ", min(n, 5))]++
			} else {
				_, e := h.add(one(r, 0, last, last, some, some, ever), one(r, 0, 1, 2, 3, 3), one(r, 0, 0, 5, 6, 7))
				seen[fmt.Sprint("error ", e)]++
			}
			if t.Failed() {
				t.Fatal("seed", seed)
			}
		}
		seen[fmt.Sprint("deep ", min(4, deepest(h)))]++
	}
	for what, least := range map[string]int{
		"went 0": 300, "went 1": 300, "went 2": 100, "went 3": 50, "went 4": 30, "went 5": 60, "deep 4": 200,
		fmt.Sprint("error ", api.OK): 3000, fmt.Sprint("error ", api.ErrNone): 1000, fmt.Sprint("error ", api.ErrArg): 1000,
	} {
		if seen[what] < least {
			t.Errorf("%s: %d times alone; %v", what, seen[what], seen)
		}
	}
}

// deepest tells how far the deepest of the tokens is from the token 0.
func deepest(h *held) int {
	most := 0
	for _, t := range h.there {
		deep := 0
		for ; t.ID != 0; t = h.there[h.find(t.Parent)] {
			deep++
		}
		most = max(most, deep)
	}
	return most
}
