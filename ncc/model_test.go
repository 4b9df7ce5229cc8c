package ncc

import (
	"fmt"
	"math"
	"math/rand"
	"reflect"
	"slices"
	"strconv"
	"strings"
	"testing"

	"witan/api"
	"witan/negate"
	"witan/passes"
	"witan/rule"
	"witan/vtext"
)

// left is one that is there, and how many rows it has.
type left struct {
	id   int
	vars []api.Binding
	rows int
}

// held is a group, and all that its answers hang on: templates and patterns, and what
// is there, in the order in which it came. Of one pattern layer 23's gate that asks
// that there is none is held against it, too.
type held struct {
	t         *testing.T
	group     *Group
	gate      *negate.Gate
	templates []api.Template
	patterns  []api.Pattern
	lefts     []left
	rights    []api.Fact
	told      []answer
	turn      int
}

// answer is a list that was told before, written over or not, and what it was when
// the call was over.
type answer struct {
	list any
	was  string
}

// hold makes the group, and writes over what was handed in.
func hold(t *testing.T, ts []api.Template, l []api.Pattern) *held {
	t.Helper()
	h := &held{t: t, templates: copyOf(ts), patterns: copyOf(l)}
	handing(h, ts, func(ts []api.Template) {
		handing(h, l, func(l []api.Pattern) { h.group = New(ts, l) })
	})
	if len(l) == 1 {
		h.gate = negate.New(h.templates, h.patterns[0], false)
	}
	h.all()
	return h
}

// rowsOf counts the rows of patterns by trying each right at each pattern.
func (h *held) rowsOf(patterns []api.Pattern, vars []api.Binding) int {
	if len(patterns) == 0 {
		return 1
	}
	n := 0
	for _, f := range h.rights {
		if bound, ok := passes.Pass(h.templates, patterns[0], f, vars); ok {
			n += h.rowsOf(patterns[1:], bound)
		}
	}
	return n
}

// count counts all lefts' rows anew, and tells the lefts that turn by that.
func (h *held) count() []int {
	var turned []int
	for i, l := range h.lefts {
		n := h.rowsOf(h.patterns, l.vars)
		if (n == 0) != (l.rows == 0) {
			turned = append(turned, l.id)
		}
		h.lefts[i].rows = n
	}
	return turned
}

func (h *held) findLeft(id int) int {
	return slices.IndexFunc(h.lefts, func(l left) bool { return l.id == id })
}

func (h *held) findRight(id int) int {
	return slices.IndexFunc(h.rights, func(f api.Fact) bool { return f.ID == id })
}

// keep writes over each second answer, and keeps some of the last of them all.
func (h *held) keep(list any) {
	if h.turn++; h.turn%2 == 0 {
		spoil(reflect.ValueOf(list))
	}
	h.told = append(h.told, answer{list, whole(list)})
	if more := len(h.told) - 40; more > 0 {
		h.told = h.told[more:]
	}
}

// wrong tells of a call that told one thing, not another one.
func (h *held) wrong(call string, got, want any) {
	h.t.Helper()
	h.t.Errorf("%s: %v, not %v; of %s, %s, %s", call, got, want, short(fmt.Sprint(h.lefts)), short(whole(h.rights)), short(whole(h.patterns)))
}

// holdNumbers holds numbers that were told against those that were wanted, rising.
func (h *held) holdNumbers(call string, got, want []int) {
	h.t.Helper()
	want = slices.Sorted(slices.Values(want))
	if !slices.Equal(got, want) {
		h.wrong(call, got, want)
	}
	h.keep(got)
}

func (h *held) holdBool(call string, got, want bool) {
	h.t.Helper()
	if got != want {
		h.wrong(call, got, want)
	}
}

func (h *held) holdErrno(call string, got, want api.Errno) {
	h.t.Helper()
	if got != want {
		h.wrong(call, got, want)
	}
}

func far() []int { return []int{math.MinInt, -1 << 32, -2, -1, 0, 1, 1 << 32, math.MaxInt} }

// all asks the group all there is to be told, also of numbers of none.
func (h *held) all() {
	h.t.Helper()
	var on []int
	for _, l := range h.lefts {
		if l.rows == 0 {
			on = append(on, l.id)
		}
		if n := h.group.Rows(l.id); n != l.rows {
			h.wrong("Rows "+strconv.Itoa(l.id), n, l.rows)
		}
		h.holdBool("On "+strconv.Itoa(l.id), h.group.On(l.id), l.rows == 0)
	}
	others := far()
	for _, f := range h.rights {
		others = append(others, f.ID)
	}
	for _, id := range others {
		if h.findLeft(id) >= 0 {
			continue
		}
		h.holdBool("On "+strconv.Itoa(id), h.group.On(id), false)
		if n := h.group.Rows(id); n != 0 {
			h.wrong("Rows "+strconv.Itoa(id), n, 0)
		}
	}
	h.holdNumbers("All", h.group.All(), on)
	if h.gate != nil {
		h.holdNumbers("the gate's All", h.gate.All(), on)
	}
	for _, a := range h.told {
		if whole(a.list) != a.was {
			h.t.Errorf("what was told was %s, and is %s", short(a.was), short(whole(a.list)))
		}
	}
}

// handing hands a copy in, which is to stay as it is, and writes over it.
func handing[T any](h *held, x T, call func(x T)) {
	h.t.Helper()
	in := room(x)
	before := whole(in)
	call(in)
	if after := whole(in); after != before {
		h.t.Errorf("handed in was %s, and is %s", short(before), short(after))
	}
	spoil(reflect.ValueOf(in))
}

// left hands a left in, and tells what is wanted of that.
func (h *held) left(id int, vars []api.Binding) (bool, api.Errno) {
	h.t.Helper()
	call := "Left " + strconv.Itoa(id) + ", " + short(whole(vars))
	on, want := false, api.ErrTwice
	if h.findLeft(id) < 0 {
		l := left{id, copyOf(vars), h.rowsOf(h.patterns, vars)}
		h.lefts = append(h.lefts, l)
		on, want = l.rows == 0, api.OK
	}
	handing(h, vars, func(in []api.Binding) {
		got, e := h.group.Left(id, in)
		h.holdErrno(call, e, want)
		h.holdBool(call, got, on)
	})
	if h.gate != nil {
		got, e := h.gate.Left(id, vars)
		h.holdErrno("the gate's "+call, e, want)
		h.holdBool("the gate's "+call, got, on)
	}
	h.all()
	return on, want
}

// unleft lets a left go, and tells what is wanted of that.
func (h *held) unleft(id int) (bool, api.Errno) {
	h.t.Helper()
	call := "Unleft " + strconv.Itoa(id)
	on, want := false, api.ErrNone
	if i := h.findLeft(id); i >= 0 {
		on, want = h.lefts[i].rows == 0, api.OK
		h.lefts = slices.Delete(h.lefts, i, i+1)
	}
	got, e := h.group.Unleft(id)
	h.holdErrno(call, e, want)
	h.holdBool(call, got, on)
	if h.gate != nil {
		got, e := h.gate.Unleft(id)
		h.holdErrno("the gate's "+call, e, want)
		h.holdBool("the gate's "+call, got, on)
	}
	h.all()
	return on, want
}

// right hands a right in, and tells what it is wanted to turn.
func (h *held) right(f api.Fact) ([]int, api.Errno) {
	h.t.Helper()
	call, want := "Right "+short(whole(f)), api.ErrTwice
	var turned []int
	if h.findRight(f.ID) < 0 {
		h.rights = append(h.rights, copyOf(f))
		turned, want = h.count(), api.OK
	}
	handing(h, f, func(in api.Fact) {
		got, e := h.group.Right(in)
		h.holdErrno(call, e, want)
		h.holdNumbers(call, got, turned)
	})
	if h.gate != nil {
		got, e := h.gate.Right(f)
		h.holdErrno("the gate's "+call, e, want)
		h.holdNumbers("the gate's "+call, got, turned)
	}
	h.all()
	return slices.Sorted(slices.Values(turned)), want
}

// unright lets a right go, and tells what it is wanted to turn.
func (h *held) unright(id int) ([]int, api.Errno) {
	h.t.Helper()
	call, want := "Unright "+strconv.Itoa(id), api.ErrNone
	var turned []int
	if i := h.findRight(id); i >= 0 {
		h.rights = slices.Delete(h.rights, i, i+1)
		turned, want = h.count(), api.OK
	}
	got, e := h.group.Unright(id)
	h.holdErrno(call, e, want)
	h.holdNumbers(call, got, turned)
	if h.gate != nil {
		got, e := h.gate.Unright(id)
		h.holdErrno("the gate's "+call, e, want)
		h.holdNumbers("the gate's "+call, got, turned)
	}
	h.all()
	return slices.Sorted(slices.Values(turned)), want
}

// one tells the value of a text. Some that may not be have words of their own.
func one(text string) api.Value {
	switch text {
	case "bad":
		return api.Value{Kind: api.Bool, N: 2}
	case "worse":
		return api.Value{Kind: 255, N: -1, S: "\xff"}
	}
	v, e := vtext.Parse(text)
	if e != api.OK {
		panic("no value's text: " + text)
	}
	return v
}

// values tells those of texts with a blank between.
func values(s string) []api.Value {
	var l []api.Value
	for _, w := range strings.Fields(s) {
		l = append(l, one(w))
	}
	return l
}

// bindings tells those of names and values with blanks between.
func bindings(s string) []api.Binding {
	var l []api.Binding
	w := strings.Fields(s)
	for i := 0; i < len(w); i += 2 {
		l = append(l, api.Binding{Name: w[i], V: one(w[i+1])})
	}
	return l
}

// patterns tells those of a text, which stand behind each other.
func patterns(t testing.TB, s string) []api.Pattern {
	t.Helper()
	p, at, e := rule.Parse("rule r when " + s + " then end")
	if e != api.OK {
		t.Fatalf("%s: %v, %d", s, at, e)
	}
	var l []api.Pattern
	for _, c := range p.Rules[0].Conds {
		l = append(l, c.Patterns...)
	}
	return l
}

// usual are templates, of which one has the name of another one.
func usual() []api.Template {
	slots := func(s string) []api.Slot {
		var l []api.Slot
		for _, name := range strings.Fields(s) {
			l = append(l, api.Slot{Name: name, Kind: api.Int})
		}
		return l
	}
	return []api.Template{{Name: "a", Slots: slots("x y")}, {Name: "b", Slots: slots("x y z")}, {Name: "a", Slots: slots("y x")}, {Name: "d"}}
}

// seen counts what calls by chance told.
type seen map[string]int

func (s seen) side(name string, on bool, e api.Errno) {
	s[fmt.Sprint(name, " ", e)]++
	if e == api.OK {
		s[fmt.Sprint(name, " ", on)]++
	}
}

func (s seen) turned(name string, l []int, e api.Errno) {
	s[fmt.Sprint(name, " ", e)]++
	if e == api.OK {
		s[fmt.Sprint(name, " turns ", min(3, len(l)))]++
	}
}

// rows counts how many lefts have so many rows.
func (s seen) rows(h *held) {
	for _, l := range h.lefts {
		s["rows "+[]string{"0", "1", "2", "some", "many"}[min(4, l.rows, 3+l.rows/10)]]++
	}
}

func (s seen) hold(t *testing.T, least map[string]int) {
	t.Helper()
	for what, n := range least {
		if s[what] < n {
			t.Errorf("%s: %d times alone; %v", what, s[what], s)
		}
	}
}

// chance lets lefts and rights come and go, of few numbers, so that many are there
// already.
func (h *held) chance(r *rand.Rand, calls int, s seen, vars func() []api.Binding, fact func() api.Fact) {
	h.t.Helper()
	for range calls {
		id, f := r.Intn(5)-2, fact()
		switch r.Intn(8) {
		case 0, 1:
			on, e := h.left(id, vars())
			s.side("Left", on, e)
		case 2, 3, 4:
			turned, e := h.right(f)
			s.turned("Right", turned, e)
		case 5:
			on, e := h.unleft(id)
			s.side("Unleft", on, e)
		case 6, 7:
			turned, e := h.unright(f.ID)
			s.turned("Unright", turned, e)
		}
		s.rows(h)
		if h.t.Failed() {
			h.t.FailNow()
		}
	}
}

// several are texts of patterns that bind what later ones ask, that bind nothing,
// between which nothing is asked, of the same template and of others.
func several() []string {
	return []string{
		"a()", "a(x: ?n)", "a(x: ?n, y: > ?m)", "a(x: ?n, y: ?n)", "a(x: > ?n)", "a(x: > 6 / ?n)", "b(z: ?n)", "d()", "c()", "a(z: 1)",
		"a() a()", "a(x: 1) a(y: 2)", "a(x: ?n) b(z: ?n)", "b(z: ?n) a(x: ?n)", "a(x: ?n, y: ?m) a(x: ?m, y: ?n)", "a(x: ?k) a(x: > ?k)", "a(x: > ?k) a(x: ?k)", "a(x: ?n) b()", "a(x: ?n) c()", "c() a(x: ?n)", "d() d()", "a(x: ?n) a(x: not(?n))",
		"a() a() a()", "a(x: ?n) a(x: ?n) a(x: ?n)", "a(x: ?n, y: ?m) b(x: ?m, y: ?k) a(x: ?k)", "a(x: ?k) b(z: > ?k) a(y: [?k .. ?m])", "a() b(x: ?m) a(x: ?m)", "a(x: ?n) a(x: ?m, y: ?n) a(x: 6 / ?m)", "b(x: ?k, y: ?l) b(x: ?l, y: ?k) d()", "a(x: ?n) c() a()",
	}
}

// P24.1, P24.2: groups of one, two and three patterns, lefts and rights by chance.
func TestByChance(t *testing.T) {
	r := rand.New(rand.NewSource(1))
	s := seen{}
	pool := values("0 1 1 2 2 3 1.0 null \"u\"")
	value := func() api.Value { return pool[r.Intn(len(pool))] }
	texts := several()
	for i := range 2000 {
		h := hold(t, usual(), patterns(t, texts[i%len(texts)]))
		h.chance(r, 40, s, func() []api.Binding {
			var l []api.Binding
			for _, name := range [][]string{nil, nil, {"n"}, {"m"}, {"n", "m"}, {"k", "m"}, {"n", "n"}}[r.Intn(7)] {
				l = append(l, api.Binding{Name: name, V: value()})
			}
			return l
		}, func() api.Fact {
			f := api.Fact{ID: r.Intn(8) - 2}
			if r.Intn(3) == 0 {
				f.T = h.template(r)
			}
			for range 3 - r.Intn(8)/6 {
				f.S = append(f.S, value())
			}
			return f
		})
	}
	least := map[string]int{"Left true": 5000, "Left false": 2000, "Unleft true": 2000, "Unleft false": 1000, "rows 0": 70000, "rows 1": 10000, "rows 2": 5000, "rows some": 10000, "rows many": 4000}
	for n, times := range []int{6000, 250, 70, 70} {
		least[fmt.Sprint("Right turns ", n)], least[fmt.Sprint("Unright turns ", n)] = times, times
	}
	for _, call := range []string{"Left", "Right"} {
		least[fmt.Sprint(call, " ", api.ErrTwice)] = 7000
	}
	for _, call := range []string{"Unleft", "Unright"} {
		least[fmt.Sprint(call, " ", api.ErrNone)] = 3000
	}
	s.hold(t, least)
}

// template tells the place of a template that a pattern names, or another one.
func (h *held) template(r *rand.Rand) int {
	name := h.patterns[r.Intn(len(h.patterns))].T
	i := slices.IndexFunc(h.templates, func(x api.Template) bool { return x.Name == name })
	return max(i, r.Intn(6)-4)
}

// P1: anything at all.
func TestAnything(t *testing.T) {
	r := rand.New(rand.NewSource(2))
	s := seen{}
	for range 3000 {
		l := anything[[]api.Pattern](r)
		if len(l) == 0 {
			l = make([]api.Pattern, 1)
		}
		h := hold(t, anything[[]api.Template](r), l)
		h.chance(r, 8, s, func() []api.Binding { return anything[[]api.Binding](r) }, func() api.Fact {
			f := anything[api.Fact](r)
			if r.Intn(2) == 0 {
				f.T = max(0, h.template(r))
			}
			return f
		})
	}
	s.hold(t, map[string]int{"Left true": 50, "Left false": 20, "Unleft true": 20, "Right turns 0": 1000, "Right turns 1": 50, "Right turns 2": 5, "Unright turns 1": 5, "rows some": 20})
}

// P1, P24.1: each part of what is handed in changed alone.
func TestEachPart(t *testing.T) {
	type all struct {
		Templates []api.Template
		Patterns  []api.Pattern
		Left      []api.Binding
		Right     api.Fact
	}
	came := map[string]int{}
	ask := func(a all) {
		if len(a.Patterns) == 0 {
			return
		}
		h := hold(t, a.Templates, a.Patterns)
		h.left(4, bindings("m 2"))
		h.left(5, a.Left)
		turned, _ := h.right(a.Right)
		came["Right "+strconv.Itoa(len(turned))]++
		turned, _ = h.right(api.Fact{ID: 9, T: 0, S: values("5 1")})
		came["Right "+strconv.Itoa(len(turned))]++
		h.unleft(5)
		h.unright(a.Right.ID)
		h.right(a.Right)
		on, _ := h.left(5, a.Left)
		came[strconv.FormatBool(on)]++
		turned, _ = h.unright(9)
		came["Unright "+strconv.Itoa(len(turned))]++
		h.unleft(4)
		h.right(a.Right)
		h.left(4, a.Left)
	}
	a := all{usual(), patterns(t, "f: b(y: ?n, x: not(?n, 4), z: > ?m) a(x: ?n, y: < ?n - 2)"), bindings("m 2 n 5"), api.Fact{ID: 7, T: 1, S: values("1 5 3")}}
	ask(a)
	for i, v := range partsOf(&a) {
		for k := range changes(v) {
			c := copyOf(a)
			changes(partsOf(&c)[i])[k]()
			ask(c)
		}
	}
	for what, n := range map[string]int{"true": 100, "false": 50, "Right 0": 100, "Right 1": 2, "Right 2": 100, "Unright 0": 100, "Unright 1": 2, "Unright 2": 50} {
		if came[what] < n {
			t.Error(what, came)
		}
	}
}
