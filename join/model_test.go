package join

import (
	"cmp"
	"fmt"
	"math"
	"math/rand"
	"reflect"
	"slices"
	"strconv"
	"strings"
	"testing"

	"witan/api"
	"witan/passes"
	"witan/rule"
	"witan/vtext"
)

// left is one that is there.
type left struct {
	id   int
	vars []api.Binding
}

// held is a join, and all that its answers hang on: templates and a pattern, and
// the lefts and rights that are there, in the order in which they came.
type held struct {
	t         *testing.T
	join      *Join
	templates []api.Template
	pattern   api.Pattern
	lefts     []left
	rights    []api.Fact
	told      []answer
	turn      int
}

// answer is a list that was told before, written over or not, and what it was when
// the call was over.
type answer struct {
	list any
	was  string
}

// hold makes a join, and writes over what was handed in.
func hold(t *testing.T, ts []api.Template, p api.Pattern) *held {
	t.Helper()
	h := &held{t: t, templates: copyOf(ts), pattern: copyOf(p)}
	ts, p = room(ts), room(p)
	before := whole(ts) + whole(p)
	h.join = New(ts, p)
	if after := whole(ts) + whole(p); after != before {
		t.Errorf("handed in was %s, and is %s", short(before), short(after))
	}
	spoil(reflect.ValueOf(ts))
	spoil(reflect.ValueOf(p))
	h.all()
	return h
}

// goes tells what a left and a right bind, and whether they go together.
func (h *held) goes(l left, f api.Fact) ([]api.Binding, bool) {
	return passes.Pass(copyOf(h.templates), copyOf(h.pattern), copyOf(f), copyOf(l.vars))
}

// pairs tells all those that are asked for, by rising lefts, then by rising IDs.
func (h *held) pairs(asked func(left, right int) bool) []api.Pair {
	var all []api.Pair
	for _, f := range h.rights {
		for _, l := range h.lefts {
			if !asked(l.id, f.ID) {
				continue
			}
			if vars, ok := h.goes(l, f); ok {
				all = append(all, api.Pair{Left: l.id, Right: f.ID, Vars: vars})
			}
		}
	}
	slices.SortFunc(all, func(a, b api.Pair) int {
		return cmp.Or(cmp.Compare(a.Left, b.Left), cmp.Compare(a.Right, b.Right))
	})
	return all
}

func (h *held) ofLeft(id int) []api.Pair {
	return h.pairs(func(left, _ int) bool { return left == id })
}

func (h *held) ofRight(id int) []api.Pair {
	return h.pairs(func(_, right int) bool { return right == id })
}

func (h *held) findLeft(id int) int {
	return slices.IndexFunc(h.lefts, func(l left) bool { return l.id == id })
}

func (h *held) findRight(id int) int {
	return slices.IndexFunc(h.rights, func(f api.Fact) bool { return f.ID == id })
}

// is tells whether two lists of pairs are the same, an empty list like one that is
// not there.
func is(a, b []api.Pair) bool {
	return slices.EqualFunc(a, b, func(x, y api.Pair) bool {
		return x.Left == y.Left && x.Right == y.Right && slices.Equal(x.Vars, y.Vars)
	})
}

// keep writes over each second answer, and keeps some of the last of them all.
func (h *held) keep(list any) {
	if h.turn++; h.turn%2 == 0 {
		spoil(reflect.ValueOf(list))
	}
	h.told = append(h.told, answer{list, whole(list)})
	if more := len(h.told) - 40; more > 0 {
		h.told = h.told[more:]
	}
}

// holdPairs holds pairs that were told against those that were wanted.
func (h *held) holdPairs(call string, got, want []api.Pair) {
	h.t.Helper()
	if !is(got, want) {
		h.t.Errorf("%s: %s, not %s; of %s, %s, %s", call, short(whole(got)), short(whole(want)), short(whole(h.lefts)), short(whole(h.rights)), short(whole(h.pattern)))
	}
	if !areApart(spans(got)) {
		h.t.Errorf("%s: memory is shared", call)
	}
	h.keep(got)
}

// holdNumbers does so of numbers.
func (h *held) holdNumbers(call string, got, want []int) {
	h.t.Helper()
	slices.Sort(want)
	if !slices.Equal(got, want) {
		h.t.Errorf("%s: %v, not %v", call, got, want)
	}
	h.keep(got)
}

func far() []int { return []int{math.MinInt, -1 << 32, -2, -1, 0, 1, 1 << 32, math.MaxInt} }

// all asks all there is to be told, also of numbers of none.
func (h *held) all() {
	h.t.Helper()
	var lefts, rights []int
	for _, l := range h.lefts {
		lefts = append(lefts, l.id)
	}
	for _, f := range h.rights {
		rights = append(rights, f.ID)
	}
	for _, id := range slices.Concat(lefts, rights, far()) {
		h.holdPairs("Pairs "+strconv.Itoa(id), h.join.Pairs(id), h.ofLeft(id))
	}
	h.holdNumbers("Lefts", h.join.Lefts(), lefts)
	h.holdNumbers("Rights", h.join.Rights(), rights)
	for _, a := range h.told {
		if whole(a.list) != a.was {
			h.t.Errorf("what was told was %s, and is %s", short(a.was), short(whole(a.list)))
		}
	}
}

// answered holds an answer against what was wanted, and asks all.
func (h *held) answered(call string, got, want []api.Pair, e, wantE api.Errno) {
	h.t.Helper()
	if e != wantE {
		h.t.Errorf("%s: %d, not %d", call, e, wantE)
	}
	h.holdPairs(call, got, want)
	h.all()
}

// handed asks that what was handed in is what it was and shares nothing with the
// answer, and writes over it.
func (h *held) handed(in any, before string, l []api.Pair) {
	h.t.Helper()
	if after := whole(in); after != before {
		h.t.Errorf("handed in was %s, and is %s", short(before), short(after))
	}
	if !areApart(slices.Concat(spans(in), spans(l))) {
		h.t.Error("memory is shared")
	}
	spoil(reflect.ValueOf(in))
}

// left hands a left in.
func (h *held) left(id int, vars []api.Binding) ([]api.Pair, api.Errno) {
	h.t.Helper()
	in := room(vars)
	before := whole(in)
	got, e := h.join.Left(id, in)
	h.handed(in, before, got)
	told := copyOf(got)
	call := "Left " + strconv.Itoa(id) + ", " + short(whole(vars))
	if h.findLeft(id) >= 0 {
		h.answered(call, got, nil, e, api.ErrTwice)
		return told, e
	}
	h.lefts = append(h.lefts, left{id, copyOf(vars)})
	h.answered(call, got, h.ofLeft(id), e, api.OK)
	return told, e
}

// right hands a right in.
func (h *held) right(f api.Fact) ([]api.Pair, api.Errno) {
	h.t.Helper()
	in := room(f)
	before := whole(in)
	got, e := h.join.Right(in)
	h.handed(in, before, got)
	told := copyOf(got)
	call := "Right " + short(whole(f))
	if h.findRight(f.ID) >= 0 {
		h.answered(call, got, nil, e, api.ErrTwice)
		return told, e
	}
	h.rights = append(h.rights, copyOf(f))
	h.answered(call, got, h.ofRight(f.ID), e, api.OK)
	return told, e
}

// unleft lets a left go.
func (h *held) unleft(id int) ([]api.Pair, api.Errno) {
	h.t.Helper()
	got, e := h.join.Unleft(id)
	told := copyOf(got)
	call := "Unleft " + strconv.Itoa(id)
	i := h.findLeft(id)
	if i < 0 {
		h.answered(call, got, nil, e, api.ErrNone)
		return told, e
	}
	want := h.ofLeft(id)
	h.lefts = slices.Delete(h.lefts, i, i+1)
	h.answered(call, got, want, e, api.OK)
	return told, e
}

// unright lets a right go.
func (h *held) unright(id int) ([]api.Pair, api.Errno) {
	h.t.Helper()
	got, e := h.join.Unright(id)
	told := copyOf(got)
	call := "Unright " + strconv.Itoa(id)
	i := h.findRight(id)
	if i < 0 {
		h.answered(call, got, nil, e, api.ErrNone)
		return told, e
	}
	want := h.ofRight(id)
	h.rights = slices.Delete(h.rights, i, i+1)
	h.answered(call, got, want, e, api.OK)
	return told, e
}

// one tells the value of a text. Some that may not be have words of their own.
func one(text string) api.Value {
	switch text {
	case "bad":
		return api.Value{Kind: api.Bool, N: 2}
	case "worse":
		return api.Value{Kind: 255, N: -1, S: "\xff"}
	}
	v, e := vtext.Parse(text)
	if e != api.OK {
		panic("no value's text: " + text)
	}
	return v
}

// values tells those of texts with a blank between.
func values(s string) []api.Value {
	var l []api.Value
	for _, w := range strings.Fields(s) {
		l = append(l, one(w))
	}
	return l
}

// bindings tells those of names and values with blanks between.
func bindings(s string) []api.Binding {
	var l []api.Binding
	w := strings.Fields(s)
	for i := 0; i < len(w); i += 2 {
		l = append(l, api.Binding{Name: w[i], V: one(w[i+1])})
	}
	return l
}

// pattern tells that of a text.
func pattern(t testing.TB, s string) api.Pattern {
	t.Helper()
	p, at, e := rule.Parse("rule r when " + s + " then end")
	if e != api.OK {
		t.Fatalf("%s: %v, %d", s, at, e)
	}
	return p.Rules[0].Conds[0].Patterns[0]
}

// usual are templates, of which one has the name of another one.
func usual() []api.Template {
	slots := func(s string) []api.Slot {
		var l []api.Slot
		for _, name := range strings.Fields(s) {
			l = append(l, api.Slot{Name: name, Kind: api.Int})
		}
		return l
	}
	return []api.Template{{Name: "a", Slots: slots("x y")}, {Name: "b", Slots: slots("x y z")}, {Name: "a", Slots: slots("y x")}, {Name: "d"}}
}

// seen counts what calls by chance told.
type seen map[string]int

func (s seen) call(name string, l []api.Pair, e api.Errno) {
	s[fmt.Sprint(name, " ", e)]++
	s[fmt.Sprint("pairs ", min(3, len(l)))]++
}

func (s seen) hold(t *testing.T, least map[string]int) {
	t.Helper()
	for what, n := range least {
		if s[what] < n {
			t.Errorf("%s: %d times alone; %v", what, s[what], s)
		}
	}
}

// chance lets lefts and rights come and go, of few numbers, so that many are there
// already.
func (h *held) chance(r *rand.Rand, calls int, s seen, vars func() []api.Binding, fact func() api.Fact) {
	h.t.Helper()
	for range calls {
		l, f := left{r.Intn(6) - 2, vars()}, fact()
		switch r.Intn(6) {
		case 0, 1:
			got, e := h.left(l.id, l.vars)
			s.call("Left", got, e)
		case 2, 3:
			got, e := h.right(f)
			s.call("Right", got, e)
		case 4:
			got, e := h.unleft(l.id)
			s.call("Unleft", got, e)
		case 5:
			got, e := h.unright(f.ID)
			s.call("Unright", got, e)
		}
		if h.t.Failed() {
			h.t.FailNow()
		}
	}
}

// P22.1, P22.2: patterns, lefts and rights by chance.
func TestByChance(t *testing.T) {
	r := rand.New(rand.NewSource(1))
	s := seen{}
	patterns := []string{
		"a()", "a(x: ?n)", "a(x: ?n, y: > ?m)", "a(x: ?n, y: ?n)", "a(x: ?n, y: ?m)", "a(y: ?n, x: ?m)", "a(x: 1)", "a(x: > ?n)", "a(x: not(?n))", "a(x: [?n .. ?m])", "a(y: ?k, x: < ?k)", "a(x: ?n, x: ?n)", "a(x: -, y: null)", "a(x: > 6 / ?n)", "a(x: ?n, ?m)",
		"b(z: ?n)", "b(x: ?n, z: ?m, y: ?n)", "d()", "c()", "a(z: 1)",
	}
	pool := values("0 1 1 2 2 3 1.0 null \"u\"")
	value := func() api.Value { return pool[r.Intn(len(pool))] }
	for i := range 800 {
		h := hold(t, usual(), pattern(t, patterns[i%len(patterns)]))
		h.chance(r, 30, s, func() []api.Binding {
			var l []api.Binding
			for _, name := range [][]string{nil, {"n"}, {"m"}, {"n", "m"}, {"m", "n"}, {"k", "m"}, {"n", "n"}}[r.Intn(7)] {
				l = append(l, api.Binding{Name: name, V: value()})
			}
			return l
		}, func() api.Fact {
			f := api.Fact{ID: r.Intn(6) - 2, T: max(0, r.Intn(10)-6)}
			if h.pattern.T == "b" && r.Intn(4) > 0 {
				f.T = 1
			}
			for range r.Intn(9) - 5 + 3 {
				f.S = append(f.S, value())
			}
			for len(f.S) < 3 && r.Intn(6) > 0 {
				f.S = append(f.S, value())
			}
			return f
		})
	}
	least := map[string]int{"pairs 0": 5000, "pairs 1": 1000, "pairs 2": 500, "pairs 3": 250}
	for _, call := range []string{"Left", "Right"} {
		least[fmt.Sprint(call, " ", api.OK)], least[fmt.Sprint(call, " ", api.ErrTwice)] = 2500, 2500
	}
	for _, call := range []string{"Unleft", "Unright"} {
		least[fmt.Sprint(call, " ", api.OK)], least[fmt.Sprint(call, " ", api.ErrNone)] = 1200, 1200
	}
	s.hold(t, least)
}

// P1: anything at all.
func TestAnything(t *testing.T) {
	r := rand.New(rand.NewSource(2))
	s := seen{}
	for range 3000 {
		h := hold(t, anything[[]api.Template](r), anything[api.Pattern](r))
		h.chance(r, 8, s, func() []api.Binding { return anything[[]api.Binding](r) }, func() api.Fact {
			f := anything[api.Fact](r)
			if i := slices.IndexFunc(h.templates, func(x api.Template) bool { return x.Name == h.pattern.T }); i >= 0 && r.Intn(2) == 0 {
				f.T = i
			}
			return f
		})
	}
	s.hold(t, map[string]int{"pairs 0": 5000, "pairs 1": 300, "pairs 2": 50})
}

// P1, P22.1: each part of what is handed in changed alone.
func TestEachPart(t *testing.T) {
	type all struct {
		Templates []api.Template
		Pattern   api.Pattern
		Left      []api.Binding
		Right     api.Fact
	}
	came := map[int]int{}
	ask := func(a all) {
		h := hold(t, a.Templates, a.Pattern)
		h.right(api.Fact{ID: 9, T: 1, S: values("1 5 3")})
		h.left(4, bindings("m 2"))
		h.left(5, a.Left)
		h.right(a.Right)
		l, _ := h.unright(9)
		came[len(l)]++
		h.unleft(5)
		h.unright(a.Right.ID)
		h.left(4, a.Left)
	}
	a := all{usual(), pattern(t, "f: b(y: ?n, x: not(?n, 4), z: > ?m)"), bindings("m 2 n 5"), api.Fact{ID: 7, T: 1, S: values("1 5 3")}}
	ask(a)
	for i, v := range partsOf(&a) {
		for k := range changes(v) {
			c := copyOf(a)
			changes(partsOf(&c)[i])[k]()
			ask(c)
		}
	}
	if came[0] < 50 || came[1] < 10 || came[2] < 100 {
		t.Error(came)
	}
}
