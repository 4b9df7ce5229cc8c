package agenda

import (
	"fmt"
	"math"
	"math/rand"
	"slices"
	"strconv"
	"testing"

	"witan/api"
	"witan/order"
)

// entry is what matches, and whether it was fired.
type entry struct {
	act   api.Act
	fired bool
}

// held is an agenda, and all that its answers hang on: its strategy, and what
// matches, in the order in which it came.
type held struct {
	t        *testing.T
	strategy uint8
	agenda   *Agenda
	there    []entry
	told     []answer
	marks    int
}

// answer is a list that was told before, written over or not, and what it was then.
type answer struct {
	list []api.Act
	was  string
}

func hold(t *testing.T, strategy uint8) *held {
	t.Helper()
	h := &held{t: t, strategy: strategy, agenda: New(strategy)}
	h.all()
	return h
}

// room tells a copy whose lists have room behind them, where they are there.
func room(l []api.Act) []api.Act {
	if l == nil {
		return nil
	}
	c := make([]api.Act, len(l), len(l)+2)
	for i, x := range l {
		c[i] = x
		if x.Tuple != nil {
			c[i].Tuple = append(make([]int, 0, len(x.Tuple)+2), x.Tuple...)
		}
	}
	return c
}

func copyOf(x api.Act) api.Act { return room([]api.Act{x})[0] }

// whole writes all that a list has, also what it and its tuples have room for.
func whole(l []api.Act) string {
	s := strconv.AppendInt(nil, int64(len(l)), 10)
	write := func(n int) { s = strconv.AppendInt(append(s, ' '), int64(n), 10) }
	for _, x := range l[:cap(l)] {
		write(x.Rule)
		write(x.Salience)
		write(len(x.Tuple))
		for _, id := range x.Tuple[:cap(x.Tuple)] {
			write(id)
		}
		s = append(s, ';')
	}
	return string(s)
}

// bare writes what an answer is; a tuple that is not there is as an empty one.
func bare(l []api.Act) string { return fmt.Sprint(l) }

// spoil writes over all of a list, and over what it and its tuples have room for,
// over each tuple a number of its own from mark on, and tells the next number.
func spoil(l []api.Act, mark int) int {
	l = l[:cap(l)]
	for i, x := range l {
		l[i].Rule, l[i].Salience = mark, mark
		for k := range x.Tuple[:cap(x.Tuple)] {
			x.Tuple[:cap(x.Tuple)][k] = mark
		}
		mark++
	}
	return mark
}

// isSpoilt tells whether each has still what was written over it.
func isSpoilt(l []api.Act) bool {
	return !slices.ContainsFunc(l[:cap(l)], func(x api.Act) bool {
		return slices.ContainsFunc(x.Tuple[:cap(x.Tuple)], func(id int) bool { return id != x.Rule })
	})
}

// inOrder tells what matches: one stands behind so many as are ahead of it.
func (h *held) inOrder() []entry {
	l := make([]entry, len(h.there))
	for _, x := range h.there {
		ahead := 0
		for _, y := range h.there {
			if order.Compare(h.strategy, y.act, x.act) < 0 {
				ahead++
			}
		}
		l[ahead] = x
	}
	return l
}

// both tells the activations that were not fired, and all of them.
func (h *held) both() (list, all []api.Act) {
	for _, x := range h.inOrder() {
		if !x.fired {
			list = append(list, copyOf(x.act))
		}
		all = append(all, copyOf(x.act))
	}
	return list, all
}

func (h *held) find(a api.Act) int {
	return slices.IndexFunc(h.there, func(x entry) bool {
		return x.act.Rule == a.Rule && slices.Equal(x.act.Tuple, a.Tuple)
	})
}

// keep writes over each second answer, and keeps some of the last of them all.
func (h *held) keep(list []api.Act) {
	if h.marks++; h.marks%2 == 0 {
		h.marks = spoil(list, h.marks)
		if !isSpoilt(list) {
			h.t.Error("parts of what was told share memory")
		}
	}
	h.told = append(h.told, answer{list, whole(list)})
	if more := len(h.told) - 12; more > 0 {
		h.told = h.told[more:]
	}
}

func (h *held) holdList(call string, got, want []api.Act) {
	h.t.Helper()
	if bare(got) != bare(want) {
		h.t.Errorf("%s by %d: %v, not %v; of %v", call, h.strategy, got, want, h.there)
	}
	h.keep(got)
}

// handing hands in a copy, which is to stay as it is, and writes over it.
func (h *held) handing(l []api.Act, call func(l []api.Act)) {
	h.t.Helper()
	in := room(l)
	before := whole(in)
	call(in)
	if after := whole(in); after != before {
		h.t.Errorf("handed in was %s, and is %s", before, after)
	}
	spoil(in, -77)
}

// holdOne asks of one activation, with any salience.
func (h *held) holdOne(x api.Act) {
	at := h.find(x)
	has, fired := at >= 0, at >= 0 && h.there[at].fired
	h.handing([]api.Act{x}, func(l []api.Act) {
		for _, salience := range []int{x.Salience, x.Salience + 1, 0} {
			y := l[0]
			y.Salience = salience
			if gotHas, gotFired := h.agenda.Has(y), h.agenda.Fired(y); gotHas != has || gotFired != fired {
				h.t.Errorf("Has, Fired %v by %d: %t, %t, not %t, %t; of %v", y, h.strategy, gotHas, gotFired, has, fired, h.there)
			}
		}
	})
}

// near tells activations that are much like one.
func near(x api.Act) []api.Act {
	l := []api.Act{x}
	with := func(rule int, tuple ...int) { l = append(l, api.Act{Rule: rule, Tuple: tuple, Salience: x.Salience}) }
	with(x.Rule+1, x.Tuple...)
	with(x.Rule^math.MinInt, x.Tuple...)
	with(x.Rule, slices.Concat(x.Tuple, []int{0})...)
	if n := len(x.Tuple); n > 0 {
		with(x.Rule, x.Tuple[:n-1]...)
		with(x.Rule, x.Tuple[1:]...)
		with(x.Rule, slices.Concat(x.Tuple, x.Tuple[n-1:])...)
		with(x.Rule, slices.Concat(x.Tuple[1:], x.Tuple[:1])...)
		with(x.Rule, slices.Concat(x.Tuple[:n-1], []int{x.Tuple[n-1] ^ 1<<32})...)
		with(x.Rule, slices.Concat(x.Tuple[:n-1], []int{-x.Tuple[n-1]})...)
	}
	return l
}

// next tells what Next is to tell.
func (h *held) next() (api.Act, bool) {
	list, _ := h.both()
	if len(list) == 0 {
		return api.Act{}, false
	}
	return list[0], true
}

// holdNext asks twice, since nothing is fired by it.
func (h *held) holdNext(list []api.Act) {
	h.t.Helper()
	want := append(list, api.Act{})[:1]
	for range 2 {
		got, ok := h.agenda.Next()
		if ok != (len(list) > 0) || bare([]api.Act{got}) != bare(want) {
			h.t.Errorf("Next by %d: %v, %t; not the first of %v", h.strategy, got, ok, list)
		}
		h.keep([]api.Act{got})
	}
}

// all asks all there is to be told, also of what does not match.
func (h *held) all() {
	h.t.Helper()
	list, all := h.both()
	h.holdList("List", h.agenda.List(), list)
	h.holdNext(list)
	h.holdList("All", h.agenda.All(), all)
	h.holdOne(api.Act{})
	for _, x := range h.there {
		for _, a := range near(x.act) {
			h.holdOne(a)
		}
	}
	for _, a := range h.told {
		if whole(a.list) != a.was {
			h.t.Errorf("what was told was %s, and is %s", a.was, whole(a.list))
		}
	}
}

// change lets some go and others come, and tells what each of them met.
func (h *held) change(gone, come []api.Act) []string {
	h.t.Helper()
	var met []string
	went, came := map[int]bool{}, map[int]bool{}
	for _, x := range gone {
		at := h.find(x)
		met = append(met, "gone "+h.state(at, x))
		if at >= 0 {
			if h.there[at].fired {
				went[tag(x)] = true
			}
			h.there = slices.Delete(h.there, at, at+1)
		}
	}
	for _, x := range come {
		at := h.find(x)
		met = append(met, fmt.Sprintf("come %s, went %t, came %t", h.state(at, x), went[tag(x)], came[tag(x)]))
		came[tag(x)] = true
		if at < 0 {
			h.there = append(h.there, entry{act: copyOf(x)})
		}
	}
	h.handing(gone, func(gone []api.Act) {
		h.t.Helper()
		h.handing(come, func(come []api.Act) { h.agenda.Change(gone, come) })
	})
	h.all()
	return met
}

// tag is a number for a rule and a tuple, for counts alone.
func tag(x api.Act) int {
	n := x.Rule
	for _, id := range x.Tuple {
		n = n*31 + id + 7
	}
	return n
}

// state tells how what is there stands to what is handed in.
func (h *held) state(at int, x api.Act) string {
	if at < 0 {
		return "none"
	}
	return fmt.Sprintf("fired %t alike %t", h.there[at].fired, h.there[at].act.Salience == x.Salience)
}

// fire fires one, and tells what it met.
func (h *held) fire(x api.Act) string {
	h.t.Helper()
	at := h.find(x)
	met := "fire " + h.state(at, x)
	want := at >= 0 && !h.there[at].fired
	h.handing([]api.Act{x}, func(l []api.Act) {
		h.t.Helper()
		if got := h.agenda.Fire(l[0]); got != want {
			h.t.Errorf("Fire %v by %d: %t, not %t; of %v", x, h.strategy, got, want, h.there)
		}
	})
	if at >= 0 {
		h.there[at].fired = true
	}
	h.all()
	return met
}

func (h *held) copy() *held {
	h.t.Helper()
	c := &held{t: h.t, strategy: h.strategy, agenda: h.agenda.Copy(), there: slices.Clone(h.there)}
	for i, x := range c.there {
		c.there[i].act = copyOf(x.act)
	}
	c.all()
	h.all()
	return c
}

// one makes an activation of few parts, mostly much like one that matches.
func (h *held) one(r *rand.Rand) api.Act {
	pick := func(l ...int) int { return l[r.Intn(len(l))] }
	x := api.Act{Rule: pick(0, 0, 1, 2, -1, math.MinInt, math.MaxInt), Salience: pick(0, 0, 0, 1, -1, 5, math.MinInt, math.MaxInt)}
	for range r.Intn(4) {
		x.Tuple = append(x.Tuple, pick(1, 1, 2, 2, 3, 12, 0, -1, 1<<32|1, math.MinInt, math.MaxInt))
	}
	if len(x.Tuple) == 0 && r.Intn(2) == 0 {
		x.Tuple = []int{}
	}
	if len(h.there) == 0 || r.Intn(3) == 0 {
		return x
	}
	y := copyOf(h.there[r.Intn(len(h.there))].act)
	switch r.Intn(8) {
	case 0:
		y.Rule = x.Rule
	case 1:
		y.Tuple = append(y.Tuple, pick(1, 2, 0))
	case 2:
		y.Tuple = y.Tuple[:len(y.Tuple)/2]
	case 3, 4:
		y.Salience = x.Salience
	}
	return y
}

// some makes a list, in which one may stand twice.
func (h *held) some(r *rand.Rand, most int) []api.Act {
	var l []api.Act
	for range r.Intn(most + 1) {
		l = append(l, h.one(r))
		if r.Intn(5) == 0 {
			y := copyOf(l[r.Intn(len(l))])
			y.Salience += r.Intn(2)
			l = append(l, y)
		}
	}
	return l
}

// step does one thing by chance, and tells what was met.
func (h *held) step(r *rand.Rand) []string {
	h.t.Helper()
	switch r.Intn(6) {
	case 0, 1:
		gone, come := h.some(r, 3), h.some(r, 2)
		if len(gone) > 0 && r.Intn(2) == 0 {
			come = append(come, copyOf(gone[0]))
		}
		return h.change(gone, come)
	case 2:
		return h.change(nil, h.some(r, 3))
	case 3:
		return []string{h.fire(h.one(r))}
	}
	x, ok := h.next()
	if ok {
		h.fire(x)
	}
	return []string{fmt.Sprint("next ", ok)}
}
