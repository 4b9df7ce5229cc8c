package negate

import (
	"fmt"
	"math"
	"math/rand"
	"reflect"
	"slices"
	"strconv"
	"strings"
	"testing"

	"witan/api"
	"witan/passes"
	"witan/rule"
	"witan/vtext"
)

// left is one that is there.
type left struct {
	id   int
	vars []api.Binding
}

// held is two gates with the same lefts and rights, of which one asks that there is
// a right, the other one that there is none, and all that their answers hang on:
// templates and a pattern, and what is there, in the order in which it came.
type held struct {
	t         *testing.T
	one, none *Gate
	templates []api.Template
	pattern   api.Pattern
	lefts     []left
	rights    []api.Fact
	told      []answer
	turn      int
}

// answer is a list that was told before, written over or not, and what it was when
// the call was over.
type answer struct {
	list any
	was  string
}

// hold makes both gates, and writes over what was handed in.
func hold(t *testing.T, ts []api.Template, p api.Pattern) *held {
	t.Helper()
	h := &held{t: t, templates: copyOf(ts), pattern: copyOf(p)}
	for _, exists := range []bool{true, false} {
		ts, p := room(ts), room(p)
		before := whole(ts) + whole(p)
		g := New(ts, p, exists)
		if after := whole(ts) + whole(p); after != before {
			t.Errorf("handed in was %s, and is %s", short(before), short(after))
		}
		spoil(reflect.ValueOf(ts))
		spoil(reflect.ValueOf(p))
		if exists {
			h.one = g
		} else {
			h.none = g
		}
	}
	h.all()
	return h
}

// each does something with both gates.
func (h *held) each(do func(g *Gate, exists bool)) {
	do(h.one, true)
	do(h.none, false)
}

// goes tells whether a left has a pair.
func (h *held) goes(l left) bool {
	return slices.ContainsFunc(h.rights, func(f api.Fact) bool {
		_, ok := passes.Pass(copyOf(h.templates), copyOf(h.pattern), copyOf(f), copyOf(l.vars))
		return ok
	})
}

// paired tells the lefts that have a pair.
func (h *held) paired() []int {
	var l []int
	for _, x := range h.lefts {
		if h.goes(x) {
			l = append(l, x.id)
		}
	}
	return l
}

// either tells what is in one of two lists alone.
func either(a, b []int) []int {
	l := slices.DeleteFunc(slices.Clone(a), func(x int) bool { return slices.Contains(b, x) })
	return append(l, slices.DeleteFunc(slices.Clone(b), func(x int) bool { return slices.Contains(a, x) })...)
}

func (h *held) findLeft(id int) int {
	return slices.IndexFunc(h.lefts, func(l left) bool { return l.id == id })
}

func (h *held) findRight(id int) int {
	return slices.IndexFunc(h.rights, func(f api.Fact) bool { return f.ID == id })
}

// keep writes over each second answer, and keeps some of the last of them all.
func (h *held) keep(list any) {
	if h.turn++; h.turn%2 == 0 {
		spoil(reflect.ValueOf(list))
	}
	h.told = append(h.told, answer{list, whole(list)})
	if more := len(h.told) - 40; more > 0 {
		h.told = h.told[more:]
	}
}

// holdNumbers holds numbers that were told against those that were wanted, rising.
func (h *held) holdNumbers(call string, got, want []int) {
	h.t.Helper()
	want = slices.Sorted(slices.Values(want))
	if !slices.Equal(got, want) {
		h.t.Errorf("%s: %v, not %v; of %s, %s, %s", call, got, want, short(whole(h.lefts)), short(whole(h.rights)), short(whole(h.pattern)))
	}
	h.keep(got)
}

func (h *held) holdBool(call string, got, want bool) {
	h.t.Helper()
	if got != want {
		h.t.Errorf("%s: %t, not %t; of %s, %s, %s", call, got, want, short(whole(h.lefts)), short(whole(h.rights)), short(whole(h.pattern)))
	}
}

func (h *held) holdErrno(call string, got, want api.Errno) {
	h.t.Helper()
	if got != want {
		h.t.Errorf("%s: %d, not %d", call, got, want)
	}
}

func far() []int { return []int{math.MinInt, -1 << 32, -2, -1, 0, 1, 1 << 32, math.MaxInt} }

// all asks both gates all there is to be told, also of numbers of none.
func (h *held) all() {
	h.t.Helper()
	var lefts, rights []int
	for _, l := range h.lefts {
		lefts = append(lefts, l.id)
	}
	for _, f := range h.rights {
		rights = append(rights, f.ID)
	}
	paired := h.paired()
	h.each(func(g *Gate, exists bool) {
		h.t.Helper()
		on := paired
		if !exists {
			on = either(lefts, paired)
		}
		for _, id := range slices.Concat(lefts, rights, far()) {
			h.holdBool("On "+strconv.Itoa(id), g.On(id), slices.Contains(on, id))
		}
		h.holdNumbers("All", g.All(), on)
		h.holdNumbers("Lefts", g.Lefts(), lefts)
		h.holdNumbers("Rights", g.Rights(), rights)
	})
	for _, a := range h.told {
		if whole(a.list) != a.was {
			h.t.Errorf("what was told was %s, and is %s", short(a.was), short(whole(a.list)))
		}
	}
}

// handing hands a copy in, which is to stay as it is, and writes over it.
func handing[T any](h *held, x T, call func(x T)) {
	h.t.Helper()
	in := room(x)
	before := whole(in)
	call(in)
	if after := whole(in); after != before {
		h.t.Errorf("handed in was %s, and is %s", short(before), short(after))
	}
	spoil(reflect.ValueOf(in))
}

// left hands a left in, and tells what the gate says that asks for one.
func (h *held) left(id int, vars []api.Binding) (bool, api.Errno) {
	h.t.Helper()
	call := "Left " + strconv.Itoa(id) + ", " + short(whole(vars))
	on, want := false, api.OK
	if h.findLeft(id) >= 0 {
		want = api.ErrTwice
	} else {
		l := left{id, copyOf(vars)}
		h.lefts = append(h.lefts, l)
		on = h.goes(l)
	}
	h.each(func(g *Gate, exists bool) {
		h.t.Helper()
		handing(h, vars, func(in []api.Binding) {
			got, e := g.Left(id, in)
			h.holdErrno(call, e, want)
			h.holdBool(call, got, want == api.OK && on == exists)
		})
	})
	h.all()
	return on, want
}

// unleft lets a left go, and tells what the gate says that asks for one.
func (h *held) unleft(id int) (bool, api.Errno) {
	h.t.Helper()
	call := "Unleft " + strconv.Itoa(id)
	on, want := false, api.ErrNone
	if i := h.findLeft(id); i >= 0 {
		on, want = h.goes(h.lefts[i]), api.OK
		h.lefts = slices.Delete(h.lefts, i, i+1)
	}
	h.each(func(g *Gate, exists bool) {
		h.t.Helper()
		got, e := g.Unleft(id)
		h.holdErrno(call, e, want)
		h.holdBool(call, got, want == api.OK && on == exists)
	})
	h.all()
	return on, want
}

// right hands a right in, and tells what it turns.
func (h *held) right(f api.Fact) ([]int, api.Errno) {
	h.t.Helper()
	call, before, want := "Right "+short(whole(f)), h.paired(), api.OK
	if h.findRight(f.ID) >= 0 {
		want = api.ErrTwice
	} else {
		h.rights = append(h.rights, copyOf(f))
	}
	turned := either(before, h.paired())
	h.each(func(g *Gate, _ bool) {
		h.t.Helper()
		handing(h, f, func(in api.Fact) {
			got, e := g.Right(in)
			h.holdErrno(call, e, want)
			h.holdNumbers(call, got, turned)
		})
	})
	h.all()
	return slices.Sorted(slices.Values(turned)), want
}

// unright lets a right go, and tells what it turns.
func (h *held) unright(id int) ([]int, api.Errno) {
	h.t.Helper()
	call, before, want := "Unright "+strconv.Itoa(id), h.paired(), api.ErrNone
	if i := h.findRight(id); i >= 0 {
		want = api.OK
		h.rights = slices.Delete(h.rights, i, i+1)
	}
	turned := either(before, h.paired())
	h.each(func(g *Gate, _ bool) {
		h.t.Helper()
		got, e := g.Unright(id)
		h.holdErrno(call, e, want)
		h.holdNumbers(call, got, turned)
	})
	h.all()
	return slices.Sorted(slices.Values(turned)), want
}

// one tells the value of a text. Some that may not be have words of their own.
func one(text string) api.Value {
	switch text {
	case "bad":
		return api.Value{Kind: api.Bool, N: 2}
	case "worse":
		return api.Value{Kind: 255, N: -1, S: "\xff"}
	}
	v, e := vtext.Parse(text)
	if e != api.OK {
		panic("no value's text: " + text)
	}
	return v
}

// values tells those of texts with a blank between.
func values(s string) []api.Value {
	var l []api.Value
	for _, w := range strings.Fields(s) {
		l = append(l, one(w))
	}
	return l
}

// bindings tells those of names and values with blanks between.
func bindings(s string) []api.Binding {
	var l []api.Binding
	w := strings.Fields(s)
	for i := 0; i < len(w); i += 2 {
		l = append(l, api.Binding{Name: w[i], V: one(w[i+1])})
	}
	return l
}

// pattern tells that of a text.
func pattern(t testing.TB, s string) api.Pattern {
	t.Helper()
	p, at, e := rule.Parse("rule r when " + s + " then end")
	if e != api.OK {
		t.Fatalf("%s: %v, %d", s, at, e)
	}
	return p.Rules[0].Conds[0].Patterns[0]
}

// usual are templates, of which one has the name of another one.
func usual() []api.Template {
	slots := func(s string) []api.Slot {
		var l []api.Slot
		for _, name := range strings.Fields(s) {
			l = append(l, api.Slot{Name: name, Kind: api.Int})
		}
		return l
	}
	return []api.Template{{Name: "a", Slots: slots("x y")}, {Name: "b", Slots: slots("x y z")}, {Name: "a", Slots: slots("y x")}, {Name: "d"}}
}

// seen counts what calls by chance told.
type seen map[string]int

func (s seen) side(name string, on bool, e api.Errno) {
	s[fmt.Sprint(name, " ", e)]++
	if e == api.OK {
		s[fmt.Sprint(name, " ", on)]++
	}
}

func (s seen) turned(name string, l []int, e api.Errno) {
	s[fmt.Sprint(name, " ", e)]++
	if e == api.OK {
		s[fmt.Sprint(name, " turns ", min(3, len(l)))]++
	}
}

func (s seen) hold(t *testing.T, least map[string]int) {
	t.Helper()
	for what, n := range least {
		if s[what] < n {
			t.Errorf("%s: %d times alone; %v", what, s[what], s)
		}
	}
}

// chance lets lefts and rights come and go, of few numbers, so that many are there
// already.
func (h *held) chance(r *rand.Rand, calls int, s seen, vars func() []api.Binding, fact func() api.Fact) {
	h.t.Helper()
	for range calls {
		l, f := left{r.Intn(6) - 2, vars()}, fact()
		switch r.Intn(7) {
		case 0, 1:
			on, e := h.left(l.id, l.vars)
			s.side("Left", on, e)
		case 2, 3:
			turned, e := h.right(f)
			s.turned("Right", turned, e)
		case 4:
			on, e := h.unleft(l.id)
			s.side("Unleft", on, e)
		case 5, 6:
			turned, e := h.unright(f.ID)
			s.turned("Unright", turned, e)
		}
		if h.t.Failed() {
			h.t.FailNow()
		}
	}
}

// P23.1, P23.2: patterns, lefts and rights by chance.
func TestByChance(t *testing.T) {
	r := rand.New(rand.NewSource(1))
	s := seen{}
	patterns := []string{
		"a()", "a(x: ?n)", "a(x: ?n, y: > ?m)", "a(x: ?n, y: ?n)", "a(x: ?n, y: ?m)", "a(y: ?n, x: ?m)", "a(x: 1)", "a(x: > ?n)", "a(x: not(?n))", "a(x: [?n .. ?m])", "a(y: ?k, x: < ?k)", "a(x: ?n, x: ?n)", "a(x: -, y: null)", "a(x: > 6 / ?n)", "a(x: ?n, ?m)",
		"b(z: ?n)", "b(x: ?n, z: ?m, y: ?n)", "d()", "c()", "a(z: 1)",
	}
	pool := values("0 1 1 2 2 3 1.0 null \"u\"")
	value := func() api.Value { return pool[r.Intn(len(pool))] }
	for i := range 800 {
		h := hold(t, usual(), pattern(t, patterns[i%len(patterns)]))
		h.chance(r, 40, s, func() []api.Binding {
			var l []api.Binding
			for _, name := range [][]string{nil, {"n"}, {"m"}, {"n", "m"}, {"m", "n"}, {"k", "m"}, {"n", "n"}}[r.Intn(7)] {
				l = append(l, api.Binding{Name: name, V: value()})
			}
			return l
		}, func() api.Fact {
			f := api.Fact{ID: r.Intn(6) - 2, T: max(0, r.Intn(10)-6)}
			if h.pattern.T == "b" && r.Intn(4) > 0 {
				f.T = 1
			}
			for range r.Intn(9) - 5 + 3 {
				f.S = append(f.S, value())
			}
			for len(f.S) < 3 && r.Intn(6) > 0 {
				f.S = append(f.S, value())
			}
			return f
		})
	}
	least := map[string]int{"Left true": 500, "Left false": 1500, "Unleft true": 200, "Unleft false": 700}
	for n, times := range []int{2000, 150, 70, 70} {
		least[fmt.Sprint("Right turns ", n)], least[fmt.Sprint("Unright turns ", n)] = times, times
	}
	for _, call := range []string{"Left", "Right"} {
		least[fmt.Sprint(call, " ", api.ErrTwice)] = 2500
	}
	for _, call := range []string{"Unleft", "Unright"} {
		least[fmt.Sprint(call, " ", api.ErrNone)] = 1200
	}
	s.hold(t, least)
}

// P1: anything at all.
func TestAnything(t *testing.T) {
	r := rand.New(rand.NewSource(2))
	s := seen{}
	for range 3000 {
		h := hold(t, anything[[]api.Template](r), anything[api.Pattern](r))
		h.chance(r, 8, s, func() []api.Binding { return anything[[]api.Binding](r) }, func() api.Fact {
			f := anything[api.Fact](r)
			if i := slices.IndexFunc(h.templates, func(x api.Template) bool { return x.Name == h.pattern.T }); i >= 0 && r.Intn(2) == 0 {
				f.T = i
			}
			return f
		})
	}
	s.hold(t, map[string]int{"Left true": 50, "Unleft true": 20, "Right turns 0": 1000, "Right turns 1": 50, "Right turns 2": 20, "Unright turns 1": 10})
}

// P1, P23.1: each part of what is handed in changed alone.
func TestEachPart(t *testing.T) {
	type all struct {
		Templates []api.Template
		Pattern   api.Pattern
		Left      []api.Binding
		Right     api.Fact
	}
	came := map[string]int{}
	ask := func(a all) {
		h := hold(t, a.Templates, a.Pattern)
		h.left(4, bindings("m 2"))
		h.left(5, a.Left)
		turned, _ := h.right(a.Right)
		came["Right "+strconv.Itoa(len(turned))]++
		h.right(api.Fact{ID: 9, T: 1, S: values("1 5 3")})
		h.unleft(5)
		h.unright(a.Right.ID)
		on, _ := h.left(5, a.Left)
		came[strconv.FormatBool(on)]++
		turned, _ = h.unright(9)
		came["Unright "+strconv.Itoa(len(turned))]++
		h.unleft(4)
		h.right(a.Right)
		h.left(4, a.Left)
	}
	a := all{usual(), pattern(t, "f: b(y: ?n, x: not(?n, 4), z: > ?m)"), bindings("m 2 n 5"), api.Fact{ID: 7, T: 1, S: values("1 5 3")}}
	ask(a)
	for i, v := range partsOf(&a) {
		for k := range changes(v) {
			c := copyOf(a)
			changes(partsOf(&c)[i])[k]()
			ask(c)
		}
	}
	for what, n := range map[string]int{"true": 100, "false": 50, "Right 0": 100, "Right 1": 2, "Unright 0": 100, "Unright 1": 5, "Unright 2": 20} {
		if came[what] < n {
			t.Error(what, came)
		}
	}
}
