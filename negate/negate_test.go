package negate

import (
	"math"
	"slices"
	"strings"
	"testing"

	"witan/api"
)

func fact(id, t int, s string) api.Fact { return api.Fact{ID: id, T: t, S: values(s)} }

// of holds gates of the usual templates and the pattern of a text.
func of(t *testing.T, p string) *held {
	t.Helper()
	return hold(t, usual(), pattern(t, p))
}

// wantLeft asks whether a left is on that comes, where one is asked.
func (h *held) wantLeft(id int, vars string, want bool) {
	h.t.Helper()
	if on, e := h.left(id, bindings(vars)); on != want || e != api.OK {
		h.t.Errorf("Left %d, %s: %t, %d; not %t", id, vars, on, e, want)
	}
}

// wantUnleft asks whether a left was on that goes, where one is asked.
func (h *held) wantUnleft(id int, want bool) {
	h.t.Helper()
	if on, e := h.unleft(id); on != want || e != api.OK {
		h.t.Errorf("Unleft %d: %t, %d; not %t", id, on, e, want)
	}
}

// wantRight asks for the lefts that a right turns, which comes.
func (h *held) wantRight(f api.Fact, want ...int) {
	h.t.Helper()
	if l, e := h.right(f); !slices.Equal(l, want) || e != api.OK {
		h.t.Errorf("Right %s: %v, %d; not %v", short(whole(f)), l, e, want)
	}
}

// wantUnright asks for the lefts that a right turns, which goes.
func (h *held) wantUnright(id int, want ...int) {
	h.t.Helper()
	if l, e := h.unright(id); !slices.Equal(l, want) || e != api.OK {
		h.t.Errorf("Unright %d: %v, %d; not %v", id, l, e, want)
	}
}

func (h *held) twiceLeft(id int, vars string) {
	h.t.Helper()
	if _, e := h.left(id, bindings(vars)); e != api.ErrTwice {
		h.t.Errorf("Left %d: %d", id, e)
	}
}

func (h *held) twiceRight(f api.Fact) {
	h.t.Helper()
	if _, e := h.right(f); e != api.ErrTwice {
		h.t.Errorf("Right %s: %d", short(whole(f)), e)
	}
}

func (h *held) noLeft(ids ...int) {
	h.t.Helper()
	for _, id := range ids {
		if _, e := h.unleft(id); e != api.ErrNone {
			h.t.Errorf("Unleft %d: %d", id, e)
		}
	}
}

func (h *held) noRight(ids ...int) {
	h.t.Helper()
	for _, id := range ids {
		if _, e := h.unright(id); e != api.ErrNone {
			h.t.Errorf("Unright %d: %d", id, e)
		}
	}
}

// wantAll asks which lefts are on where one is asked, and which where none is.
func (h *held) wantAll(one, none []int) {
	h.t.Helper()
	h.each(func(g *Gate, exists bool) {
		h.t.Helper()
		on, off := none, one
		if exists {
			on, off = one, none
		}
		if l := g.All(); !slices.Equal(l, on) {
			h.t.Errorf("%t: All: %v, not %v", exists, l, on)
		}
		for _, id := range on {
			if !g.On(id) {
				h.t.Errorf("%t: %d is not on", exists, id)
			}
		}
		for _, id := range off {
			if g.On(id) {
				h.t.Errorf("%t: %d is on", exists, id)
			}
		}
	})
}

func (h *held) wantLefts(want ...int) {
	h.t.Helper()
	h.each(func(g *Gate, _ bool) {
		h.t.Helper()
		if l := g.Lefts(); !slices.Equal(l, want) {
			h.t.Errorf("Lefts: %v, not %v", l, want)
		}
	})
}

func (h *held) wantRights(want ...int) {
	h.t.Helper()
	h.each(func(g *Gate, _ bool) {
		h.t.Helper()
		if l := g.Rights(); !slices.Equal(l, want) {
			h.t.Errorf("Rights: %v, not %v", l, want)
		}
	})
}

// The chapter's examples.
func TestExamples(t *testing.T) {
	g := New(usual(), pattern(t, "a(x: ?n)"), false)
	if on, e := g.Left(1, bindings("n 7")); !on || e != api.OK {
		t.Error(on, e)
	}
	for _, x := range []struct {
		id   int
		want []int
	}{{5, []int{1}}, {6, nil}} {
		if l, e := g.Right(fact(x.id, 0, "7 0")); !slices.Equal(l, x.want) || e != api.OK {
			t.Error(x.id, l, e)
		}
	}
	for _, x := range []struct {
		id   int
		want []int
	}{{5, nil}, {6, []int{1}}} {
		if l, e := g.Unright(x.id); !slices.Equal(l, x.want) || e != api.OK {
			t.Error(x.id, l, e)
		}
	}
}

// P23.1: a new one has nothing, whatever the pattern and whatever is asked.
func TestNew(t *testing.T) {
	for _, p := range []string{"a()", "a(x: ?n)", "c()", "a(z: 1)"} {
		h := of(t, p)
		h.wantLefts()
		h.wantRights()
		h.wantAll(nil, nil)
		h.noLeft(far()...)
		h.noRight(far()...)
	}
	h := hold(t, nil, api.Pattern{})
	if h.one == nil || h.none == nil {
		t.Error("New tells nothing")
	}
}

// P23.1, what follows: a left is on where one is asked, if it has a pair, and else
// where none is asked.
func TestLeft(t *testing.T) {
	for _, exists := range []bool{true, false} {
		for _, came := range []bool{true, false} {
			g := New(usual(), pattern(t, "a(x: ?n)"), exists)
			if came {
				g.Right(fact(5, 0, "7 0"))
			}
			for id, x := range []struct {
				vars string
				pair bool
			}{{"n 7", came}, {"n 8", false}, {"", came}, {"m 8", came}, {"n 7 n 8", came}, {"n 8 n 7", false}, {"n 7.0", false}} {
				if on, e := g.Left(id, bindings(x.vars)); on != (x.pair == exists) || e != api.OK || g.On(id) != on {
					t.Error(exists, came, x, on, e, g.On(id))
				}
				if on, e := g.Unleft(id); on != (x.pair == exists) || e != api.OK || g.On(id) {
					t.Error(exists, came, x, on, e, g.On(id))
				}
			}
		}
	}
}

// P23.1: the first right that a left goes with turns it, and the last one that goes.
func TestFirstAndLast(t *testing.T) {
	h := of(t, "a(x: ?n)")
	h.wantLeft(1, "n 7", false)
	h.wantRight(fact(5, 0, "7 0"), 1)
	h.wantRight(fact(6, 0, "7 1"))
	h.wantRight(fact(7, 0, "8 1"))
	h.wantRight(fact(8, 0, "7 1"))
	h.wantLeft(2, "n 7", true)
	h.wantUnright(5)
	h.wantUnright(8)
	h.wantAll([]int{1, 2}, nil)
	h.wantUnright(6, 1, 2)
	h.wantUnright(7)
	h.wantRight(fact(5, 0, "7 0"), 1, 2)
	h.wantUnright(5, 1, 2)
	h.wantAll(nil, []int{1, 2})
}

// P23.1: a right turns several lefts, one, none; what it turned it turns back, if no
// other one is there.
func TestTurned(t *testing.T) {
	h := of(t, "a(x: ?n, y: > ?m)")
	for id, vars := range map[int]string{4: "n 1 m 2", 2: "m 2", 9: "n 2 m 2", 3: "m 5", -7: "m 0 n 1", 12: "n 1"} {
		h.wantLeft(id, vars, false)
	}
	h.wantRight(fact(1, 0, "1 3"), -7, 2, 4)
	h.wantAll([]int{-7, 2, 4}, []int{3, 9, 12})
	h.wantRight(fact(2, 0, "2 3"), 9)
	h.wantRight(fact(3, 0, "1 1"))
	h.wantRight(fact(4, 0, "1 9"), 3)
	h.wantRight(fact(5, 0, "1 0"))
	h.wantUnright(1)
	h.wantAll([]int{-7, 2, 3, 4, 9}, []int{12})
	h.wantUnright(4, 3, 4)
	h.wantUnright(3, -7)
	h.wantUnright(2, 2, 9)
	h.wantUnright(5)
	h.wantAll(nil, []int{-7, 2, 3, 4, 9, 12})
}

// P23.1: of what is on, and what is not, each goes as what it was, and is turned no
// more.
func TestUnleft(t *testing.T) {
	h := of(t, "a(x: ?n)")
	for id := range 4 {
		h.wantLeft(id, []string{"n 1", "n 2"}[id%2], false)
	}
	h.wantUnleft(0, false)
	h.wantRight(fact(1, 0, "1 1"), 2)
	h.wantUnleft(2, true)
	h.wantUnleft(1, false)
	h.wantUnright(1)
	h.wantRight(fact(1, 0, "2 1"), 3)
	h.wantUnleft(3, true)
	h.wantUnright(1)
	h.wantAll(nil, nil)
}

// P23.1: what is there is refused, whatever it binds or has, and all stays as it was.
func TestTwice(t *testing.T) {
	h := of(t, "a(x: ?n)")
	h.wantLeft(3, "n 1", false)
	h.wantLeft(4, "n 2", false)
	h.wantRight(fact(3, 0, "1 5"), 3)
	for _, vars := range []string{"n 1", "n 2", "", "m 1", "n 1 n 2"} {
		h.twiceLeft(3, vars)
		h.twiceLeft(4, vars)
	}
	for _, f := range []api.Fact{fact(3, 0, "1 5"), fact(3, 0, "2 5"), fact(3, 1, "1 5 5"), fact(3, -1, "1 5"), fact(3, 0, "")} {
		h.twiceRight(f)
	}
	h.wantAll([]int{3}, []int{4})
	h.wantRight(fact(5, 0, "1 5"))
	h.wantUnright(5)
	h.wantUnright(3, 3)
	h.wantUnleft(3, false)
	h.wantUnleft(4, false)
}

// P23.1: what is not there, was never there, went already.
func TestNone(t *testing.T) {
	h := of(t, "a()")
	h.wantLeft(3, "", false)
	h.wantRight(fact(4, 0, "1 1"), 3)
	h.noLeft(4, 2, -3, 1<<32+3, math.MaxInt, math.MinInt)
	h.noRight(3, 5, -4, 1<<32+4, math.MaxInt, math.MinInt)
	h.wantAll([]int{3}, nil)
	h.wantUnright(4, 3)
	h.noRight(4)
	h.wantAll(nil, []int{3})
	h.wantUnleft(3, false)
	h.noLeft(3)
	h.noRight(4)
	h.wantLefts()
	h.wantRights()
	h.wantAll(nil, nil)
}

// P23.1: what went may come again, with other bindings, as another fact; of what it
// was before nothing is left.
func TestAgain(t *testing.T) {
	h := of(t, "a(x: ?n)")
	h.wantLeft(1, "n 1", false)
	h.wantRight(fact(1, 0, "1 1"), 1)
	h.wantUnleft(1, true)
	h.wantLeft(1, "n 2", false)
	h.wantUnleft(1, false)
	h.wantLeft(1, "", true)
	h.wantUnright(1, 1)
	h.wantRight(fact(1, 0, "7 1"), 1)
	h.wantUnright(1, 1)
	h.wantRight(fact(1, 1, "7 1 1"))
	h.twiceRight(fact(1, 0, "7 1"))
	h.wantUnright(1)
	h.wantRight(fact(2, 0, "3 3"), 1)
	h.wantRight(fact(1, 0, "3 3"))
	h.wantUnleft(1, true)
	h.wantUnright(2)
	h.wantLeft(1, "n 3", true)
	h.wantUnright(1, 1)
}

// P23.1, P23.2: any numbers, also the same ones on both sides, which are told rising.
func TestNumbers(t *testing.T) {
	h := of(t, "a()")
	ids := []int{0, -1, 1, math.MaxInt, math.MinInt, 1 << 32, -1 << 32, 200, 201, 1<<32 + 1, 9, 10}
	rising := slices.Sorted(slices.Values(ids))
	for _, id := range ids {
		h.wantLeft(id, "", false)
	}
	h.wantAll(nil, rising)
	for i, id := range ids {
		if i == 0 {
			h.wantRight(fact(id, 0, "1 1"), rising...)
		} else {
			h.wantRight(fact(id, 0, "1 1"))
		}
	}
	h.wantAll(rising, nil)
	h.wantLefts(rising...)
	h.wantRights(rising...)
	for _, id := range ids {
		h.twiceLeft(id, "")
		h.twiceRight(fact(id, 1, ""))
	}
	last := len(ids) - 1
	for _, id := range ids[:last] {
		h.wantUnright(id)
	}
	h.wantUnright(ids[last], rising...)
	for i, id := range ids {
		h.wantUnleft(id, false)
		h.wantAll(nil, slices.Sorted(slices.Values(ids[i+1:])))
	}
	h.wantLefts()
	h.wantRights()
}

// P23.1: facts and bindings that make no pair.
func TestNoPairs(t *testing.T) {
	h := of(t, "a(x: ?n, y: 5)")
	h.wantLeft(1, "n 1", false)
	for id, f := range []api.Fact{fact(0, 0, "2 5"), fact(0, 0, "1 6"), fact(0, 0, "1"), fact(0, 0, ""), fact(0, 1, "1 5 5"), fact(0, 2, "1 5"), fact(0, -1, "1 5"), fact(0, math.MaxInt, "1 5"), fact(0, math.MinInt, "1 5"), fact(0, 0, "1.0 5"), fact(0, 0, "null 5"), fact(0, 0, "1 null"), fact(0, 0, "bad 5")} {
		f.ID = id
		h.wantRight(f)
		h.twiceRight(f)
	}
	h.wantAll(nil, []int{1})
	for id := range 13 {
		h.wantUnright(id)
	}
	h.wantUnleft(1, false)
	g := of(t, "a(x: ?n, y: > 6 / ?m + 2)")
	g.wantRight(fact(1, 0, "1 5"))
	for i, vars := range []string{"", "n 1", "n 1 m 0", "n 2 m 3", "n 1.0 m 3", "n null m 3", "n 1 m 2", `n 1 m "u"`, "n 1 m null", "m 0 n 1 m 3", "n worse m 3"} {
		g.wantLeft(i, vars, false)
	}
	g.wantLeft(20, "m 3", true)
	g.wantLeft(21, "n 1 m 6", true)
	g.wantUnright(1, 20, 21)
}

// P23.1: what a left binds, and what the slots of a fact bind.
func TestBindings(t *testing.T) {
	for _, x := range []struct {
		pattern, vars, fact string
		goes                bool
	}{
		{"a()", "", "1 2", true},
		{"a()", "k 1 n 2", "1 2", true},
		{"a(x: ?n)", "", "1 2", true},
		{"a(x: ?n)", "n 1 n 3 k 4", "1 2", true},
		{"a(x: ?n)", "n 3 n 1", "1 2", false},
		{"a(x: ?n, y: ?n)", "", "1 1", true},
		{"a(x: ?n, y: ?n)", "", "1 2", false},
		{"a(x: ?n, y: > ?n)", "", "1 2", true},
		{"a(x: ?n, y: > ?n)", "n 2", "1 2", false},
		{"a(x: > ?n)", "", "1 2", false},
		{"a(x: > ?n)", "n 0", "1 2", true},
		{"a(x: ?n)", "n null", "null 2", true},
		{"a(x: ?n)", "n bad", "bad 2", true},
		{"a(x: not(?n))", "n 2", "1 2", true},
		{"a(x: not(?n))", "n 1", "1 2", false},
		{"f: a(x: ?n)", "f 7", "1 2", true},
		{"a(z: ?n)", "", "1 2", false},
		{"c()", "", "1 2", false},
	} {
		var turned []int
		if x.goes {
			turned = []int{1}
		}
		g, h := of(t, x.pattern), of(t, x.pattern)
		g.wantLeft(1, x.vars, false)
		g.wantRight(fact(5, 0, x.fact), turned...)
		h.wantRight(fact(5, 0, x.fact))
		h.wantLeft(1, x.vars, x.goes)
		g.wantUnleft(1, x.goes)
		h.wantUnright(5, turned...)
		if t.Failed() {
			t.Fatal(x)
		}
	}
}

// P23.2: of lefts of which none, some, all are on; of such as are not there.
func TestOnAndAll(t *testing.T) {
	h := of(t, "a(x: ?n)")
	h.wantAll(nil, nil)
	h.wantRight(fact(5, 0, "1 1"))
	h.wantAll(nil, nil)
	h.wantLeft(8, "n 2", false)
	h.wantLeft(6, "n 2", false)
	h.wantAll(nil, []int{6, 8})
	h.wantLeft(7, "n 1", true)
	h.wantAll([]int{7}, []int{6, 8})
	h.wantRight(fact(6, 0, "2 1"), 6, 8)
	h.wantAll([]int{6, 7, 8}, nil)
	h.wantUnleft(7, true)
	h.wantAll([]int{6, 8}, nil)
	h.wantUnright(6, 6, 8)
	h.wantAll(nil, []int{6, 8})
	h.each(func(g *Gate, exists bool) {
		for _, id := range append(far(), 5, 7, 9) {
			if g.On(id) {
				t.Error(exists, id)
			}
		}
	})
}

// What follows: which are on hangs on what is there, not on the order in which it
// came; one that comes and goes leaves all as it was.
func TestOrders(t *testing.T) {
	vars := map[int]string{1: "n 1", 2: "m 4", 3: "n 2 m 5", 4: "n 1 m 9"}
	facts := []api.Fact{fact(1, 0, "1 5"), fact(2, 0, "2 6"), fact(3, 0, "1 4"), fact(4, 1, "1 5 5")}
	for shift := range 8 {
		for _, step := range []int{1, 3, 5, 7} {
			h := of(t, "a(x: ?n, y: > ?m)")
			for i := range 8 {
				if n := (i*step + shift) % 8; n < 4 {
					h.left(n+1, bindings(vars[n+1]))
				} else {
					h.right(facts[n-4])
				}
			}
			for range 2 {
				h.wantAll([]int{2, 3}, []int{1, 4})
				h.wantLeft(7, "m 6", false)
				h.wantLeft(8, "m 1", true)
				h.wantRight(fact(9, 0, "1 7"), 7)
				h.wantUnleft(8, true)
				h.wantUnright(9, 7)
				h.wantUnleft(7, false)
			}
			for i := range 8 {
				if n := (i*step + shift + 3) % 8; n < 4 {
					h.unleft(n + 1)
				} else {
					h.unright(n - 3)
				}
			}
			h.wantLefts()
			h.wantRights()
		}
	}
}

// What went is not kept, nor what was refused.
func TestNothingIsKept(t *testing.T) {
	h := of(t, "a(x: ?n)")
	for id := range 10 {
		h.left(id, nil)
		h.left(id, bindings("n 1"))
		h.right(fact(id, 0, "1 1"))
		h.right(fact(id, 1, "1 1"))
	}
	for id := range 10 {
		h.unleft(id)
		h.unleft(id)
		h.unright(id)
		h.unright(id)
	}
	h.each(func(g *Gate, exists bool) {
		if n := len(g.in.counts); n > 0 {
			t.Error(exists, n)
		}
	})
}

// P23.1: gates of the same pattern go their own ways.
func TestGatesAreApart(t *testing.T) {
	g, h := of(t, "a(x: ?n)"), of(t, "a(x: ?n)")
	g.wantLeft(1, "", false)
	h.noLeft(1)
	h.wantRight(fact(1, 0, "1 1"))
	g.noRight(1)
	g.wantAll(nil, []int{1})
	h.wantLeft(1, "n 1", true)
	g.wantRight(fact(2, 0, "2 2"), 1)
	g.wantUnleft(1, true)
	h.wantAll([]int{1}, nil)
}

// Rules that hold everywhere: what is told shares no memory, of one call or of
// several, and stays what it was.
func TestMemory(t *testing.T) {
	g := New(usual(), pattern(t, "a(x: ?n)"), true)
	for _, id := range []int{2, 3, 1} {
		g.Left(id, bindings("k 3"))
	}
	first, _ := g.Right(fact(5, 0, "1 2"))
	second, _ := g.Unright(5)
	third, _ := g.Right(fact(6, 0, "1 2"))
	lists := [][]int{first, second, third, g.All(), g.All(), g.Lefts(), g.Lefts()}
	rights := [][]int{g.Rights(), g.Rights()}
	var all []span
	for _, l := range slices.Concat(lists, rights) {
		all = append(all, spans(l)...)
	}
	if !areApart(all) {
		t.Error("memory is shared")
	}
	for i, l := range lists {
		if !slices.Equal(l, []int{1, 2, 3}) {
			t.Error(i, l)
		}
		clear(l[:cap(l)])
		_ = append(l, 7)
	}
	for _, l := range rights {
		if !slices.Equal(l, []int{6}) {
			t.Error(l)
		}
		clear(l[:cap(l)])
	}
	if !slices.Equal(g.All(), []int{1, 2, 3}) || !slices.Equal(g.Lefts(), []int{1, 2, 3}) || !slices.Equal(g.Rights(), []int{6}) {
		t.Error(g.All(), g.Lefts(), g.Rights())
	}
}

// P23.1, P23.2: many lefts and rights.
func TestMany(t *testing.T) {
	const many = 400
	for _, exists := range []bool{true, false} {
		g := New(usual(), pattern(t, "a(x: ?n, y: > ?m)"), exists)
		var ids []int
		for i := range many {
			ids = append(ids, i)
			if on, e := g.Left(i*7%many, bindings("m 1")); on == exists || e != api.OK {
				t.Fatal(i, on, e)
			}
		}
		f := fact(0, 0, "3 2")
		for i := range many {
			f.ID = i * 9 % many
			if l, e := g.Right(f); e != api.OK || (len(l) > 0) != (i == 0) || i == 0 && !slices.Equal(l, ids) {
				t.Fatal(i, len(l), e)
			}
		}
		if all := g.All(); exists && !slices.Equal(all, ids) || !exists && len(all) > 0 {
			t.Fatal(len(all))
		}
		for i := range many {
			if l, e := g.Unright(i * 11 % many); e != api.OK || (len(l) > 0) != (i == many-1) || i == many-1 && !slices.Equal(l, ids) {
				t.Fatal(i, len(l), e)
			}
		}
	}
}

// P23.2: what is on is told without asking for pairs anew.
func TestManyAsked(t *testing.T) {
	g := New(usual(), pattern(t, "a(x: ?n)"), true)
	for i := range 1000 {
		g.Left(i, bindings("n 1"))
		g.Right(fact(i, 0, "2 2"))
	}
	for i := range 2000 {
		if g.On(i) || len(g.All()) > 0 {
			t.Fatal(i)
		}
	}
}

// P1: great templates, patterns, facts and bindings.
func TestGreat(t *testing.T) {
	const many = 3000
	ts := usual()
	ts[0].Slots = slices.Repeat(ts[0].Slots, many)
	p := pattern(t, "a(x: ?n, y: > ?m)")
	p.Slots = slices.Repeat(p.Slots, many)
	g := New(ts, p, true)
	g.Left(1, append(slices.Repeat(bindings("k 3"), many), bindings("m 1")...))
	if l, e := g.Right(fact(5, 0, "7 3 "+strings.Repeat("1 ", many))); e != api.OK || !slices.Equal(l, []int{1}) {
		t.Error(l, e)
	}
}

// P1: a gate that is not there, or was not made.
func TestNotMade(t *testing.T) {
	for _, g := range []*Gate{nil, {}, new(Gate)} {
		for _, id := range far() {
			for range 2 {
				for _, vars := range [][]api.Binding{nil, bindings("n 1")} {
					if on, e := g.Left(id, vars); on || e != api.ErrNil {
						t.Error("Left", on, e)
					}
				}
				for _, f := range []api.Fact{{ID: id}, fact(id, 0, "1 2"), fact(id, -1, "")} {
					if l, e := g.Right(f); l != nil || e != api.ErrNil {
						t.Error("Right", l, e)
					}
				}
				if on, e := g.Unleft(id); on || e != api.ErrNil {
					t.Error("Unleft", on, e)
				}
				if l, e := g.Unright(id); l != nil || e != api.ErrNil {
					t.Error("Unright", l, e)
				}
				if g.On(id) {
					t.Error("On", id)
				}
			}
		}
		for name, l := range map[string][]int{"All": g.All(), "Lefts": g.Lefts(), "Rights": g.Rights()} {
			if l != nil {
				t.Error(name, l)
			}
		}
	}
}
