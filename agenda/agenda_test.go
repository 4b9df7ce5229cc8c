package agenda

import (
	"fmt"
	"math"
	"math/rand"
	"slices"
	"testing"

	"witan/api"
	"witan/order"
)

func act(rule, salience int, tuple ...int) api.Act {
	return api.Act{Rule: rule, Tuple: tuple, Salience: salience}
}

func acted(l ...api.Act) []api.Act { return l }

// same holds what was told against what was wanted.
func same(t *testing.T, what string, got []api.Act, want ...api.Act) {
	t.Helper()
	if bare(got) != bare(want) {
		t.Errorf("%s: %v, not %v", what, got, want)
	}
}

func isTrue(t *testing.T, what string, got, want bool) {
	t.Helper()
	if got != want {
		t.Errorf("%s: %t", what, got)
	}
}

func every() []uint8 { return []uint8{api.Depth, api.Breadth, api.Lex, 0, 4, 200, 255} }

// P27.1, P27.2: the chapter's examples.
func TestExamples(t *testing.T) {
	for _, strategy := range every() {
		x := act(0, 0, 1, 2)
		a := New(strategy)
		a.Change(nil, acted(x))
		isTrue(t, "Fire", a.Fire(x), true)
		a.Change(nil, acted(x))
		same(t, "fired, and come again", a.List())
		a.Change(acted(x), nil)
		a.Change(nil, acted(x))
		same(t, "gone, then come", a.List(), x)
	}
}

// P27.1: New.
func TestNew(t *testing.T) {
	for strategy := range 256 {
		h := hold(t, uint8(strategy))
		h.change(nil, nil)
		h.change([]api.Act{}, []api.Act{})
		h.fire(act(0, 0))
		h.fire(act(1, 0, 2))
		c := h.copy()
		c.change(nil, acted(act(1, 0, 2)))
		h.all()
	}
}

// P27.1: one that matches already stays as it is.
func TestComeAgain(t *testing.T) {
	for _, strategy := range every() {
		for _, fired := range []bool{false, true} {
			a := New(strategy)
			a.Change(nil, acted(act(1, 5, 7), act(2, 4, 7)))
			list := acted(act(1, 5, 7), act(2, 4, 7))
			if fired {
				isTrue(t, "Fire", a.Fire(act(1, 5, 7)), true)
				list = list[1:]
			}
			for _, salience := range []int{5, 0, -1, 9, math.MinInt, math.MaxInt} {
				a.Change(nil, acted(act(1, salience, 7)))
				same(t, "List", a.List(), list...)
				same(t, "All", a.All(), act(1, 5, 7), act(2, 4, 7))
				x, ok := a.Next()
				isTrue(t, "Next", ok, true)
				same(t, "Next", acted(x), list[0])
				same(t, "List of a copy", a.Copy().List(), list...)
				same(t, "All of a copy", a.Copy().All(), act(1, 5, 7), act(2, 4, 7))
				for _, asked := range []int{5, salience, 77} {
					isTrue(t, "Has", a.Has(act(1, asked, 7)), true)
					isTrue(t, "Fired", a.Fired(act(1, asked, 7)), fired)
					isTrue(t, "Fired, the other one", a.Fired(act(2, asked, 7)), false)
				}
			}
		}
	}
}

// P27.1: what is gone is asked by rule and tuple.
func TestGone(t *testing.T) {
	for _, strategy := range every() {
		for _, fired := range []bool{false, true} {
			for _, salience := range []int{5, 0, 9, -5, math.MinInt, math.MaxInt} {
				a := New(strategy)
				a.Change(nil, acted(act(1, 5, 7, 3), act(2, 4, 7, 3)))
				list := acted(act(1, 5, 7, 3), act(2, 4, 7, 3))
				if fired {
					a.Fire(act(1, 5, 7, 3))
					list = list[1:]
				}
				a.Change(acted(act(1, salience, 7), act(1, salience, 3, 7), act(1, salience, 7, 3, 3), act(0, salience, 7, 3), act(1, salience)), nil)
				same(t, "List, where none of those goes that match", a.List(), list...)
				same(t, "All, where none of those goes that match", a.All(), act(1, 5, 7, 3), act(2, 4, 7, 3))
				isTrue(t, "Fired", a.Fired(act(1, 5, 7, 3)), fired)
				a.Change(acted(act(1, salience, 7, 3)), nil)
				same(t, "List", a.List(), act(2, 4, 7, 3))
				same(t, "All", a.All(), act(2, 4, 7, 3))
				isTrue(t, "Has", a.Has(act(1, 5, 7, 3)), false)
				isTrue(t, "Fired", a.Fired(act(1, 5, 7, 3)), false)
				isTrue(t, "Fire", a.Fire(act(1, 5, 7, 3)), false)
				a.Change(acted(act(1, salience, 7, 3), act(1, salience, 7, 3)), nil)
				same(t, "All, when it goes once more", a.All(), act(2, 4, 7, 3))
			}
		}
	}
}

// P27.1: what is gone and comes again matches anew, with the salience with which it
// came, in one call or in two.
func TestGoneAndCome(t *testing.T) {
	for _, strategy := range every() {
		for _, fired := range []bool{false, true} {
			for _, calls := range []int{1, 2} {
				a := New(strategy)
				a.Change(nil, acted(act(1, 5, 7), act(2, 4, 7)))
				if fired {
					a.Fire(act(1, 5, 7))
				}
				gone, come := acted(act(1, 8, 7)), acted(act(1, 3, 7), act(1, 9, 7))
				if calls == 1 {
					a.Change(gone, come)
				} else {
					a.Change(gone, nil)
					a.Change(nil, come)
				}
				same(t, "List", a.List(), act(2, 4, 7), act(1, 3, 7))
				same(t, "All", a.All(), act(2, 4, 7), act(1, 3, 7))
				isTrue(t, "Fired", a.Fired(act(1, 5, 7)), false)
				isTrue(t, "Fire", a.Fire(act(1, 5, 7)), true)
				same(t, "List, fired", a.List(), act(2, 4, 7))
			}
		}
	}
}

// P27.1: those that are gone go first, also where they did not match till then.
func TestGoneFirst(t *testing.T) {
	for _, strategy := range every() {
		a := New(strategy)
		a.Change(acted(act(1, 5, 7)), acted(act(1, 5, 7)))
		same(t, "List", a.List(), act(1, 5, 7))
		a.Change(acted(act(1, 5, 7), act(1, 5, 7)), acted(act(1, 6, 7), act(1, 5, 7), act(1, 7, 7)))
		same(t, "List, of some the first", a.List(), act(1, 6, 7))
		same(t, "All, of some the first", a.All(), act(1, 6, 7))
		isTrue(t, "Fire", a.Fire(act(1, 6, 7)), true)
		isTrue(t, "Fire again", a.Fire(act(1, 6, 7)), false)
		same(t, "List, fired", a.List())
	}
}

// P27.1: which activations are the same.
func TestApart(t *testing.T) {
	const least, greatest = math.MinInt, math.MaxInt
	apart := acted(
		act(1, 0), act(1, 0, 1), act(1, 0, 1, 2), act(1, 0, 1, 2, 3), act(1, 0, 2, 1), act(1, 0, 12), act(1, 0, 123), act(1, 0, 12, 3), act(1, 0, 1, 23),
		act(1, 0, 1, 1), act(1, 0, 1, 1, 1), act(1, 0, 11), act(1, 0, 0), act(1, 0, 0, 0), act(1, 0, 1, 0), act(1, 0, 10), act(1, 0, -1), act(1, 0, 1, -2), act(1, 0, -1, 2), act(1, 0, -12),
		act(1, 0, 257), act(1, 0, 1<<16|1), act(1, 0, 1<<32|1), act(1, 0, 1<<32), act(1, 0, -1<<32), act(1, 0, least), act(1, 0, greatest), act(1, 0, least, greatest), act(1, 0, greatest, least), act(1, 0, least|1),
		act(2, 0), act(2, 0, 1), act(2, 0, 1, 2), act(0, 0), act(0, 0, 1), act(12, 0), act(11, 0, 2), act(-1, 0), act(-1, 0, 1), act(257, 0, 1), act(1<<32|1, 0, 1), act(least, 0, 1), act(greatest, 0, 1), act(least|1, 0, 1),
		act(1, 0, 7, 7, 7, 7, 7, 7, 7, 7, 7), act(1, 0, 7, 7, 7, 7, 7, 7, 7, 7, 8), act(1, 0, 7, 7, 7, 7, 7, 7, 7, 7),
	)
	for i, x := range apart {
		h := hold(t, every()[i%7])
		h.change(nil, apart)
		if len(h.agenda.All()) != len(apart) {
			t.Fatal(len(h.agenda.All()), "of", len(apart))
		}
		h.fire(x)
		h.change(acted(x), nil)
		h.fire(x)
		h.change(nil, acted(x, x))
		h.change(apart[:i], apart)
		h.change(apart, nil)
	}
	if n := len(New(api.Depth).All()); n != 0 {
		t.Fatal(n)
	}
}

// P27.1, P27.2: a tuple that is not there and an empty one are one.
func TestNoTuple(t *testing.T) {
	none, empty := api.Act{Rule: 3}, api.Act{Rule: 3, Tuple: []int{}, Salience: 1}
	for _, strategy := range every() {
		for _, l := range [][]api.Act{{none, empty}, {empty, none}} {
			a := New(strategy)
			a.Change(nil, l)
			same(t, "List", a.List(), l[0])
			isTrue(t, "Has", a.Has(l[1]), true)
			isTrue(t, "Fire", a.Fire(l[1]), true)
			isTrue(t, "Fire of the other one", a.Fire(l[0]), false)
			isTrue(t, "Fired", a.Fired(l[0]), true)
			a.Change(l[1:], nil)
			isTrue(t, "Has, gone", a.Has(l[0]), false)
		}
	}
}

// P27.2: List, Next and All are in the strategy's order.
func TestOrder(t *testing.T) {
	x, y, z, top, low, none := act(4, 0, 3, 5), act(3, 0, 4, 4), act(2, 0, 5), act(9, 1, 1), act(0, -1, 9, 9), act(5, 0)
	for _, c := range []struct {
		strategy uint8
		want     []api.Act
	}{
		{api.Depth, acted(top, z, x, y, none, low)},
		{api.Breadth, acted(top, none, y, z, x, low)},
		{api.Lex, acted(top, x, z, y, none, low)},
		{0, acted(top, z, x, y, none, low)},
		{9, acted(top, z, x, y, none, low)},
		{255, acted(top, z, x, y, none, low)},
	} {
		for i := range 40 {
			come := slices.Clone(c.want)
			rand.New(rand.NewSource(int64(i))).Shuffle(len(come), func(i, j int) { come[i], come[j] = come[j], come[i] })
			a := New(c.strategy)
			a.Change(nil, come[:i%6])
			a.Change(nil, come)
			same(t, fmt.Sprint("List by ", c.strategy), a.List(), c.want...)
			for k, x := range c.want {
				next, ok := a.Next()
				again, _ := a.Next()
				isTrue(t, "Next", ok, true)
				same(t, "Next, twice", acted(next, again), x, x)
				isTrue(t, "Fired ahead of it", a.Fired(next), false)
				isTrue(t, "Fire", a.Fire(next), true)
				isTrue(t, "Fire once more", a.Fire(next), false)
				isTrue(t, "Fired", a.Fired(next), true)
				isTrue(t, "Has", a.Has(next), true)
				same(t, fmt.Sprint("List by ", c.strategy), a.List(), c.want[k+1:]...)
				same(t, fmt.Sprint("All by ", c.strategy), a.All(), c.want...)
			}
			next, ok := a.Next()
			isTrue(t, "Next of none", ok, false)
			if next.Rule != 0 || next.Tuple != nil || next.Salience != 0 {
				t.Error("Next of none:", next)
			}
		}
	}
}

// P27.2: Fire of one in the midst, of one with another salience, of none.
func TestFire(t *testing.T) {
	for _, strategy := range every() {
		for at := range 5 {
			h := hold(t, strategy)
			h.change(nil, acted(act(0, 4, 9), act(1, 3, 8, 9), act(2, 2, 9), act(3, 1, 8), act(4, 0)))
			x := h.there[at].act
			isTrue(t, "Fire with another rule", h.agenda.Fire(act(x.Rule+7, x.Salience, x.Tuple...)), false)
			isTrue(t, "Fire with another tuple", h.agenda.Fire(act(x.Rule, x.Salience, 1, 1)), false)
			h.all()
			x.Salience = 77
			h.fire(x)
			if n := len(h.agenda.List()); n != 4 {
				t.Error(n)
			}
			h.fire(x)
			for {
				next, ok := h.next()
				if !ok {
					break
				}
				h.fire(next)
			}
			h.fire(x)
		}
	}
}

// P27.2, what follows: what was fired is in no list, till it was gone and came again.
func TestFiredStays(t *testing.T) {
	r := rand.New(rand.NewSource(3))
	for i := range 60 {
		h := hold(t, every()[i%7])
		fired := act(1, r.Intn(3)-1, 1, 2)
		h.change(nil, acted(act(0, 0, 3), fired, act(1, 1, 1)))
		h.fire(fired)
		for range 30 {
			gone := slices.DeleteFunc(h.some(r, 3), func(x api.Act) bool { return order.Same(x, fired) })
			h.change(gone, append(h.some(r, 3), fired))
			if x, ok := h.next(); ok && r.Intn(2) == 0 {
				h.fire(x)
			}
			isTrue(t, "in the list", slices.ContainsFunc(h.agenda.List(), func(x api.Act) bool { return order.Same(x, fired) }), false)
			isTrue(t, "Fired", h.agenda.Fired(fired), true)
			isTrue(t, "Fire", h.agenda.Fire(fired), false)
		}
		h.change(acted(fired), nil)
		h.change(nil, acted(fired))
		isTrue(t, "in the list again", slices.ContainsFunc(h.agenda.List(), func(x api.Act) bool { return order.Same(x, fired) }), true)
	}
}

// P27.2: a copy, and what it was copied from, each go their own way.
func TestCopy(t *testing.T) {
	x, y, z := act(0, 3, 1), act(1, 2, 1, 2), act(2, 1)
	for _, strategy := range every() {
		a := New(strategy)
		a.Change(nil, acted(z, y, x))
		a.Fire(x)
		b := a.Copy()
		c := b.Copy()
		for _, l := range []*Agenda{a, b, c} {
			same(t, "List", l.List(), y, z)
			same(t, "All", l.All(), x, y, z)
			isTrue(t, "Fired", l.Fired(x), true)
			isTrue(t, "Fired, the next one", l.Fired(y), false)
			isTrue(t, "Fire", l.Fire(x), false)
		}
		a.Change(acted(x, y), nil)
		isTrue(t, "Fire", b.Fire(y), true)
		c.Change(acted(x), acted(act(0, 0, 1), act(7, 9)))
		same(t, "List of the first", a.List(), z)
		same(t, "All of the first", a.All(), z)
		same(t, "List of the second", b.List(), z)
		same(t, "All of the second", b.All(), x, y, z)
		same(t, "List of the third", c.List(), act(7, 9), y, z, act(0, 0, 1))
		same(t, "All of the third", c.All(), act(7, 9), y, z, act(0, 0, 1))
		isTrue(t, "Fired of the first", a.Fired(x), false)
		isTrue(t, "Fired of the second", b.Fired(x) && b.Fired(y), true)
		isTrue(t, "Fired of the third", c.Fired(x) || c.Fired(y), false)
	}
}

// P1: one that is not there, or was not made, has nothing, and takes nothing.
func TestNotThere(t *testing.T) {
	var none *Agenda
	for _, a := range []*Agenda{none, {}, none.Copy(), new(Agenda).Copy()} {
		for _, l := range [][]api.Act{nil, {}, {{}}, {act(1, 2, 3), act(1, 2, 3)}} {
			a.Change(nil, l)
			a.Change(l, nil)
			a.Change(l, l)
			same(t, "List", a.List())
			same(t, "All", a.All())
			x, ok := a.Next()
			same(t, "Next", acted(x), api.Act{})
			isTrue(t, "Next", ok, false)
			for _, x := range append(l, api.Act{}, act(math.MinInt, math.MaxInt, math.MinInt)) {
				isTrue(t, "Fire", a.Fire(x), false)
				isTrue(t, "Has", a.Has(x), false)
				isTrue(t, "Fired", a.Fired(x), false)
			}
		}
		if a.Copy() != nil {
			t.Error("a copy of none")
		}
	}
}

// P1: an agenda that is assigned to another one is the same one.
func TestAssigned(t *testing.T) {
	a := New(api.Depth)
	b := *a
	for i := range 8 {
		a.Change(nil, acted(act(i, i, i)))
		b.Change(acted(act(i-3, 0, i-3)), acted(act(i, 0, 9)))
		b.Fire(act(i, 0, i))
		same(t, "All", b.All(), a.All()...)
		same(t, "List", b.List(), a.List()...)
	}
}

// P1, P27.1, P27.2: any run of calls, of agendas and their copies.
func TestByChance(t *testing.T) {
	seen := map[string]int{}
	for seed := range int64(350) {
		r := rand.New(rand.NewSource(seed))
		l := []*held{hold(t, every()[seed%7])}
		for range 25 {
			i := r.Intn(len(l))
			for _, met := range l[i].step(r) {
				seen[met]++
			}
			if r.Intn(8) == 0 && len(l) < 4 {
				l = append(l, l[i].copy())
			}
			for _, h := range l {
				h.all()
			}
			if t.Failed() {
				t.Fatal("seed ", seed)
			}
		}
	}
	least := map[string]int{"next true": 500, "next false": 50, "fire none": 200, "gone none": 500, "come none, went false, came false": 3000, "come none, went true, came false": 60}
	for _, state := range []string{"fired true alike true", "fired true alike false", "fired false alike true", "fired false alike false"} {
		least["fire "+state] = 50
		least["gone "+state] = 50
		least["come "+state+", went false, came false"] = 50
	}
	least["come fired false alike true, went true, came true"] = 5
	least["come fired false alike false, went true, came true"] = 5
	least["come fired false alike false, went false, came true"] = 100
	for met, n := range least {
		if seen[met] < n {
			t.Errorf("%s: %d times alone; %v", met, seen[met], seen)
		}
	}
}

// TestMany: nothing takes the longer for each part, the more of them there are.
func TestMany(t *testing.T) {
	const many = 40_000
	for _, strategy := range []uint8{api.Depth, api.Breadth, api.Lex} {
		var come []api.Act
		for i := range many {
			come = append(come, act(i%5, i%3, i*7919%many, i/2))
		}
		a := New(strategy)
		a.Change(nil, come)
		for i := range many / 2 {
			a.Change(come[i*2:i*2+1], nil)
		}
		var fired []api.Act
		for {
			x, ok := a.Next()
			if !ok || !a.Fire(x) {
				break
			}
			fired = append(fired, x)
			a.Change(nil, acted(x))
		}
		if len(fired) != many/2 || bare(fired) != bare(a.All()) || len(a.List()) != 0 {
			t.Error(strategy, len(fired), len(a.All()), len(a.List()))
		}
		c := a.Copy()
		a.Change(fired, come)
		if len(a.List()) != many || len(c.List()) != 0 || bare(c.All()) != bare(fired) {
			t.Error(strategy, len(a.List()), len(c.List()))
		}
	}
}

// TestLongTuple: a tuple may have any number of ids.
func TestLongTuple(t *testing.T) {
	long := make([]int, 100_000)
	for i := range long {
		long[i] = i
	}
	for _, strategy := range every() {
		a := New(strategy)
		x, y := act(0, 0, long...), act(0, 0, long[:len(long)-1]...)
		a.Change(nil, acted(x, y))
		if n := len(a.List()); n != 2 {
			t.Fatal(n)
		}
		isTrue(t, "Fire", a.Fire(y), true)
		if l := a.List(); len(l) != 1 || len(l[0].Tuple) != len(long) {
			t.Fatal(len(l))
		}
	}
}
