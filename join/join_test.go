package join

import (
	"math"
	"slices"
	"strings"
	"testing"

	"witan/api"
)

func fact(id, t int, s string) api.Fact { return api.Fact{ID: id, T: t, S: values(s)} }

// pair is one that is wanted.
func pair(left, right int, vars string) api.Pair {
	return api.Pair{Left: left, Right: right, Vars: bindings(vars)}
}

// of holds a join of the usual templates and the pattern of a text.
func of(t *testing.T, p string) *held {
	t.Helper()
	return hold(t, usual(), pattern(t, p))
}

// want asks for pairs, without an error.
func (h *held) want(call string, got []api.Pair, e api.Errno, want []api.Pair) {
	h.t.Helper()
	if e != api.OK || !is(got, want) {
		h.t.Errorf("%s: %s, %d; not %s", call, short(whole(got)), e, short(whole(want)))
	}
}

func (h *held) wantLeft(id int, vars string, want ...api.Pair) {
	h.t.Helper()
	l, e := h.left(id, bindings(vars))
	h.want("Left", l, e, want)
}

func (h *held) wantRight(f api.Fact, want ...api.Pair) {
	h.t.Helper()
	l, e := h.right(f)
	h.want("Right", l, e, want)
}

func (h *held) wantUnleft(id int, want ...api.Pair) {
	h.t.Helper()
	l, e := h.unleft(id)
	h.want("Unleft", l, e, want)
}

func (h *held) wantUnright(id int, want ...api.Pair) {
	h.t.Helper()
	l, e := h.unright(id)
	h.want("Unright", l, e, want)
}

// refused asks for an error, and no pairs.
func (h *held) refused(call string, got []api.Pair, e, want api.Errno) {
	h.t.Helper()
	if e != want || len(got) > 0 {
		h.t.Errorf("%s: %s, %d; not %d", call, short(whole(got)), e, want)
	}
}

func (h *held) twiceLeft(id int, vars string) {
	h.t.Helper()
	l, e := h.left(id, bindings(vars))
	h.refused("Left", l, e, api.ErrTwice)
}

func (h *held) twiceRight(f api.Fact) {
	h.t.Helper()
	l, e := h.right(f)
	h.refused("Right", l, e, api.ErrTwice)
}

func (h *held) noLeft(ids ...int) {
	h.t.Helper()
	for _, id := range ids {
		l, e := h.unleft(id)
		h.refused("Unleft", l, e, api.ErrNone)
	}
}

func (h *held) noRight(ids ...int) {
	h.t.Helper()
	for _, id := range ids {
		l, e := h.unright(id)
		h.refused("Unright", l, e, api.ErrNone)
	}
}

// wantPairs asks for a left's.
func (h *held) wantPairs(left int, want ...api.Pair) {
	h.t.Helper()
	h.want("Pairs", h.join.Pairs(left), api.OK, want)
}

func (h *held) wantLefts(want ...int) {
	h.t.Helper()
	if l := h.join.Lefts(); !slices.Equal(l, want) {
		h.t.Errorf("Lefts: %v, not %v", l, want)
	}
}

func (h *held) wantRights(want ...int) {
	h.t.Helper()
	if l := h.join.Rights(); !slices.Equal(l, want) {
		h.t.Errorf("Rights: %v, not %v", l, want)
	}
}

// The chapter's examples.
func TestExamples(t *testing.T) {
	h := of(t, "a(x: ?n, y: > ?m)")
	h.wantLeft(1, "m 2")
	h.wantLeft(2, "m 9")
	h.wantRight(fact(5, 0, "7 3"), pair(1, 5, "m 2 n 7"))
	h.wantUnleft(1, pair(1, 5, "m 2 n 7"))
	h.wantLefts(2)
	h.wantRights(5)
}

// P22.1: a new one has nothing on either side.
func TestNew(t *testing.T) {
	for _, p := range []string{"a()", "a(x: ?n)", "c()", "a(z: 1)"} {
		h := of(t, p)
		h.wantLefts()
		h.wantRights()
		for _, id := range far() {
			h.wantPairs(id)
		}
		h.noLeft(far()...)
		h.noRight(far()...)
	}
	if h := hold(t, nil, api.Pattern{}); h.join == nil {
		t.Error("New tells nothing")
	}
}

// P22.1: what is there is refused, whatever it binds or has, and stays what it was.
func TestTwice(t *testing.T) {
	h := of(t, "a(x: ?n)")
	h.wantLeft(3, "n 1")
	h.wantRight(fact(3, 0, "1 5"), pair(3, 3, "n 1"))
	for _, vars := range []string{"n 1", "n 2", "", "m 1", "n 1 n 2"} {
		h.twiceLeft(3, vars)
	}
	for _, f := range []api.Fact{fact(3, 0, "1 5"), fact(3, 0, "2 5"), fact(3, 1, "1 5 5"), fact(3, -1, "1 5"), fact(3, 0, "")} {
		h.twiceRight(f)
	}
	h.wantPairs(3, pair(3, 3, "n 1"))
	h.wantLeft(4, "", pair(4, 3, "n 1"))
	h.wantRight(fact(4, 0, "1 6"), pair(3, 4, "n 1"), pair(4, 4, "n 1"))
	h.wantUnleft(3, pair(3, 3, "n 1"), pair(3, 4, "n 1"))
	h.wantUnright(3, pair(4, 3, "n 1"))
}

// P22.1: facts that pass with no left are there, too.
func TestRightsWithoutPairs(t *testing.T) {
	h := of(t, "a(x: ?n, y: 5)")
	h.wantLeft(1, "n 1")
	facts := []api.Fact{fact(1, 0, "2 5"), fact(2, 0, "1 6"), fact(3, 0, "1"), fact(4, 0, ""), fact(5, 1, "1 5 5"), fact(6, 2, "1 5"), fact(7, -1, "1 5"), fact(8, math.MaxInt, "1 5"), fact(9, math.MinInt, "1 5"), fact(10, 0, "1.0 5"), fact(11, 0, "null 5"), fact(12, 0, "1 null"), fact(13, 0, "bad 5")}
	var ids []int
	for _, f := range facts {
		h.wantRight(f)
		h.twiceRight(f)
		ids = append(ids, f.ID)
	}
	h.wantRights(ids...)
	h.wantPairs(1)
	for i, f := range facts {
		h.wantUnright(f.ID)
		h.noRight(f.ID)
		h.wantRights(ids[i+1:]...)
	}
	h.wantUnleft(1)
}

// P22.1: lefts that go with no fact are there, too, also those whose bindings make
// an error of a test.
func TestLeftsWithoutPairs(t *testing.T) {
	h := of(t, "a(x: ?n, y: > 6 / ?m + 2)")
	h.wantRight(fact(1, 0, "1 5"))
	for i, vars := range []string{"", "n 1", "n 1 m 0", "n 2 m 3", "n 1.0 m 3", "n null m 3", "n 1 m 2", `n 1 m "u"`, "n 1 m null", "m 0 n 1 m 3", "n worse m 3"} {
		h.wantLeft(i, vars)
		h.twiceLeft(i, "m 3")
	}
	h.wantLeft(20, "m 3", pair(20, 1, "m 3 n 1"))
	h.wantLeft(21, "n 1 m 6", pair(21, 1, "n 1 m 6"))
	h.wantLefts(0, 1, 2, 3, 4, 5, 6, 7, 8, 9, 10, 20, 21)
	h.wantUnright(1, pair(20, 1, "m 3 n 1"), pair(21, 1, "n 1 m 6"))
	h.wantUnleft(2)
	h.noLeft(2)
	h.wantUnleft(20)
}

// P22.1: patterns of no template, or no slot, have lefts and rights without pairs.
func TestPatternsThatNothingPasses(t *testing.T) {
	for _, p := range []string{"c()", "a(z: ?n)", "a(x: ?n, z: -)", "d(x: -)", "a(x: not(-))"} {
		h := of(t, p)
		h.wantLeft(1, "")
		for id := range 5 {
			h.wantRight(fact(id, id, "1 2 3"))
		}
		h.wantLeft(2, "n 1")
		h.wantLefts(1, 2)
		h.wantRights(0, 1, 2, 3, 4)
		h.wantUnleft(1)
		h.wantUnright(3)
	}
}

// P22.1: what is not there, was never there, went already.
func TestNone(t *testing.T) {
	h := of(t, "a()")
	h.wantLeft(3, "")
	h.wantRight(fact(4, 0, "1 1"), pair(3, 4, ""))
	h.noLeft(4, 2, -3, 1<<32+3, math.MaxInt, math.MinInt)
	h.noRight(3, 5, -4, 1<<32+4, math.MaxInt, math.MinInt)
	h.wantPairs(4)
	h.wantPairs(3, pair(3, 4, ""))
	h.wantUnright(4, pair(3, 4, ""))
	h.noRight(4)
	h.wantUnleft(3)
	h.noLeft(3)
	h.noRight(4)
	h.wantLefts()
	h.wantRights()
}

// P22.1: what went may come again, with other bindings, as another fact.
func TestAgain(t *testing.T) {
	h := of(t, "a(x: ?n)")
	h.wantLeft(1, "n 1")
	h.wantRight(fact(1, 0, "1 1"), pair(1, 1, "n 1"))
	h.wantUnleft(1, pair(1, 1, "n 1"))
	h.wantLeft(1, "n 2")
	h.wantUnleft(1)
	h.wantLeft(1, "", pair(1, 1, "n 1"))
	h.wantUnright(1, pair(1, 1, "n 1"))
	h.wantRight(fact(1, 0, "7 1"), pair(1, 1, "n 7"))
	h.wantUnright(1, pair(1, 1, "n 7"))
	h.wantRight(fact(1, 1, "7 1 1"))
	h.twiceRight(fact(1, 0, "7 1"))
	h.twiceLeft(1, "")
}

// P22.1, P22.2: any numbers, which are told rising.
func TestNumbers(t *testing.T) {
	h := of(t, "a()")
	ids := []int{0, -1, 1, math.MaxInt, math.MinInt, 1 << 32, -1 << 32, 200, 201, 1<<32 + 1, 9, 10}
	rising := slices.Sorted(slices.Values(ids))
	h.wantLeft(7, "")
	for _, id := range ids {
		h.wantRight(fact(id, 0, "1 1"), pair(7, id, ""))
	}
	h.wantUnleft(7, pairs([]int{7}, rising)...)
	for _, id := range ids {
		h.wantLeft(id, "", pairs([]int{id}, rising)...)
	}
	h.wantLefts(rising...)
	h.wantRights(rising...)
	for _, id := range ids {
		h.wantPairs(id, pairs([]int{id}, rising)...)
		h.twiceLeft(id, "")
		h.twiceRight(fact(id, 1, ""))
	}
	h.wantRight(fact(8, 0, "1 1"), pairs(rising, []int{8})...)
	h.wantUnright(8, pairs(rising, []int{8})...)
	for i, id := range ids {
		there := slices.Sorted(slices.Values(ids[i:]))
		h.wantUnright(id, pairs(there, []int{id})...)
		h.wantUnleft(id, pairs([]int{id}, slices.Sorted(slices.Values(ids[i+1:])))...)
	}
	h.wantLefts()
	h.wantRights()
}

// pairs are all of some lefts and some rights, with nothing bound.
func pairs(lefts, rights []int) []api.Pair {
	var l []api.Pair
	for _, left := range lefts {
		for _, right := range rights {
			l = append(l, pair(left, right, ""))
		}
	}
	return l
}

// P22.1: what a pair binds: the left's bindings as they are, and behind them what
// the slots bind.
func TestBindings(t *testing.T) {
	for _, x := range []struct{ pattern, vars, fact, want string }{
		{"a()", "", "1 2", ""},
		{"a()", "k 1 n 2", "1 2", "k 1 n 2"},
		{"a(x: ?n)", "", "1 2", "n 1"},
		{"a(x: ?n)", "n 1", "1 2", "n 1"},
		{"a(x: ?n)", "n 1 n 3 k 4", "1 2", "n 1 n 3 k 4"},
		{"a(x: ?n)", "n 3 n 1", "1 2", "no"},
		{"a(x: ?n)", "n 1.0", "1 2", "no"},
		{"a(x: ?n)", "k 3", "1 2", "k 3 n 1"},
		{"a(y: ?m, x: ?n)", "k 3", "1 2", "k 3 m 2 n 1"},
		{"a(x: ?n, y: ?n)", "", "1 1", "n 1"},
		{"a(x: ?n, y: ?n)", "", "1 2", "no"},
		{"a(x: ?n, y: > ?n)", "", "1 2", "n 1"},
		{"a(x: ?n, y: > ?n)", "n 1", "1 2", "n 1"},
		{"a(x: > ?n)", "", "1 2", "no"},
		{"a(x: > ?n)", "n 0", "1 2", "n 0"},
		{"a(x: ?n)", "", "null 2", "n null"},
		{"a(x: ?n)", "n null", "null 2", "n null"},
		{"a(x: ?n)", "n bad", "bad 2", "n bad"},
		{"a(x: ?n, y: ?m)", "", "worse bad", "n worse m bad"},
		{"f: a(x: ?n)", "f 7", "1 2", "f 7 n 1"},
	} {
		var want []api.Pair
		if x.want != "no" {
			want = []api.Pair{pair(1, 5, x.want)}
		}
		for _, leftFirst := range []bool{true, false} {
			h := of(t, x.pattern)
			if leftFirst {
				h.wantLeft(1, x.vars)
				h.wantRight(fact(5, 0, x.fact), want...)
			} else {
				h.wantRight(fact(5, 0, x.fact))
				h.wantLeft(1, x.vars, want...)
			}
			h.wantPairs(1, want...)
			if leftFirst {
				h.wantUnleft(1, want...)
				h.wantUnright(5)
			} else {
				h.wantUnright(5, want...)
				h.wantUnleft(1)
			}
			if t.Failed() {
				t.Fatal(x)
			}
		}
	}
}

// P22.1: of a template that has the name of one ahead of it no fact passes.
func TestFirstTemplate(t *testing.T) {
	h := of(t, "a(y: ?n)")
	h.wantLeft(1, "")
	h.wantRight(fact(1, 2, "1 2"))
	h.wantRight(fact(2, 0, "1 2"), pair(1, 2, "n 2"))
}

// What follows: the pairs hang on what is there, not on the order in which it came;
// one that comes and goes leaves all as it was.
func TestOrders(t *testing.T) {
	vars := map[int]string{1: "n 1", 2: "m 4", 3: "n 2 m 5", 4: "n 1 m 9"}
	facts := []api.Fact{fact(1, 0, "1 5"), fact(2, 0, "2 6"), fact(3, 0, "1 4"), fact(4, 1, "1 5 5")}
	want := map[int][]api.Pair{
		1: nil,
		2: {pair(2, 1, "m 4 n 1"), pair(2, 2, "m 4 n 2")},
		3: {pair(3, 2, "n 2 m 5")},
		4: nil,
	}
	for shift := range 8 {
		for _, step := range []int{1, 3, 5, 7} {
			h := of(t, "a(x: ?n, y: > ?m)")
			for i := range 8 {
				if n := (i*step + shift) % 8; n < 4 {
					h.left(n+1, bindings(vars[n+1]))
				} else {
					h.right(facts[n-4])
				}
			}
			for range 2 {
				for left, l := range want {
					h.wantPairs(left, l...)
				}
				h.left(7, nil)
				h.left(8, bindings("m 1"))
				h.right(fact(9, 0, "1 7"))
				h.unleft(8)
				h.wantUnright(9, pair(2, 9, "m 4 n 1"))
				h.wantUnleft(7)
			}
			for i := range 8 {
				if n := (i*step + shift + 3) % 8; n < 4 {
					h.unleft(n + 1)
				} else {
					h.unright(n - 3)
				}
			}
			h.wantLefts()
			h.wantRights()
		}
	}
}

// What went is not kept, nor what was refused.
func TestNothingIsKept(t *testing.T) {
	h := of(t, "a(x: ?n)")
	for id := range 10 {
		h.left(id, nil)
		h.left(id, bindings("n 1"))
		h.right(fact(id, 0, "1 1"))
		h.right(fact(id, 1, "1 1"))
	}
	for id := range 10 {
		h.unleft(id)
		h.unright(id)
	}
	if n := len(h.join.lefts.there) + len(h.join.rights.there); n > 0 {
		t.Error(n, "are kept")
	}
}

// P22.1: two joins of the same pattern go their own ways.
func TestJoinsAreApart(t *testing.T) {
	g, h := of(t, "a(x: ?n)"), of(t, "a(x: ?n)")
	g.wantLeft(1, "")
	h.noLeft(1)
	h.wantRight(fact(1, 0, "1 1"))
	g.noRight(1)
	h.wantLeft(1, "n 1", pair(1, 1, "n 1"))
	g.wantRight(fact(1, 0, "2 2"), pair(1, 1, "n 2"))
	g.wantUnleft(1, pair(1, 1, "n 2"))
	h.wantPairs(1, pair(1, 1, "n 1"))
}

// Rules that hold everywhere: what is told shares no memory, of one call or of
// several, and stays what it was.
func TestMemory(t *testing.T) {
	j := New(usual(), pattern(t, "a(x: ?n)"))
	vars, f := room(bindings("k 3 m 4")), room(fact(5, 0, "1 2"))
	handed := whole(vars) + whole(f)
	j.Left(1, vars)
	first, _ := j.Right(f)
	told := [][]api.Pair{first, j.Pairs(1), j.Pairs(1)}
	second, _ := j.Left(2, vars)
	third, _ := j.Right(fact(6, 0, "7 7"))
	gone, _ := j.Unright(5)
	told = append(told, second, third, gone)
	all := slices.Concat(spans(vars), spans(f))
	var before []string
	for _, l := range told {
		all = append(all, spans(l)...)
		before = append(before, whole(l))
	}
	if !areApart(all) {
		t.Error("memory is shared")
	}
	numbers, again := j.Lefts(), j.Lefts()
	clear(numbers[:cap(numbers)])
	ids, more := j.Rights(), j.Rights()
	clear(ids[:cap(ids)])
	if !slices.Equal(again, []int{1, 2}) || !slices.Equal(more, []int{6}) || !slices.Equal(j.Lefts(), again) || !slices.Equal(j.Rights(), more) {
		t.Error(again, more)
	}
	for _, l := range [][]api.Pair{j.Pairs(1), j.Pairs(2)} {
		for _, p := range l {
			clear(p.Vars[:cap(p.Vars)])
		}
		clear(l[:cap(l)])
	}
	j.Unleft(1)
	j.Unright(6)
	for i, l := range told {
		if whole(l) != before[i] {
			t.Errorf("what was told was %s, and is %s", before[i], whole(l))
		}
	}
	if whole(vars)+whole(f) != handed {
		t.Error("what was handed in is another one")
	}
}

// P22.1, P22.2: many lefts and rights.
func TestMany(t *testing.T) {
	const many = 400
	j := New(usual(), pattern(t, "a(x: ?n, y: > ?m)"))
	for i := range many {
		if l, e := j.Left(i*7%many, bindings("m 1")); e != api.OK || len(l) > 0 {
			t.Fatal(l, e)
		}
	}
	f := fact(0, 0, "3 2")
	for i := range many {
		f.ID = i * 9 % many
		l, e := j.Right(f)
		if e != api.OK || len(l) != many {
			t.Fatal(len(l), e)
		}
		for left, p := range l {
			if !is([]api.Pair{p}, []api.Pair{pair(left, f.ID, "m 1 n 3")}) {
				t.Fatal(left, p)
			}
		}
	}
	for id, p := range j.Pairs(17) {
		if p.Left != 17 || p.Right != id {
			t.Fatal(id, p)
		}
	}
	if l, e := j.Unleft(many / 2); e != api.OK || len(l) != many {
		t.Error(len(l), e)
	}
	if l, e := j.Unright(many / 2); e != api.OK || len(l) != many-1 || len(j.Pairs(1)) != many-1 || len(j.Lefts()) != many-1 || len(j.Rights()) != many-1 {
		t.Error(len(l), e)
	}
}

// P1: great templates, patterns, facts and bindings.
func TestGreat(t *testing.T) {
	const many = 3000
	ts := usual()
	ts[0].Slots = slices.Repeat(ts[0].Slots, many)
	p := pattern(t, "a(x: ?n, y: > ?m)")
	p.Slots = slices.Repeat(p.Slots, many)
	vars := append(slices.Repeat(bindings("k 3"), many), bindings("m 1")...)
	j := New(ts, p)
	j.Left(1, vars)
	f := fact(5, 0, "7 3 "+strings.Repeat("1 ", many))
	want := []api.Pair{{Left: 1, Right: 5, Vars: append(slices.Clone(vars), bindings("n 7")...)}}
	if l, e := j.Right(f); e != api.OK || !is(l, want) {
		t.Error(len(l), e)
	}
}

// P1: a join that is not there, or was not made.
func TestNotMade(t *testing.T) {
	for _, j := range []*Join{nil, {}, new(Join)} {
		for _, id := range far() {
			for range 2 {
				for _, vars := range [][]api.Binding{nil, bindings("n 1")} {
					if l, e := j.Left(id, vars); l != nil || e != api.ErrNil {
						t.Error("Left", l, e)
					}
				}
				for _, f := range []api.Fact{{ID: id}, fact(id, 0, "1 2"), fact(id, -1, "")} {
					if l, e := j.Right(f); l != nil || e != api.ErrNil {
						t.Error("Right", l, e)
					}
				}
				if l, e := j.Unleft(id); l != nil || e != api.ErrNil {
					t.Error("Unleft", l, e)
				}
				if l, e := j.Unright(id); l != nil || e != api.ErrNil {
					t.Error("Unright", l, e)
				}
				if l := j.Pairs(id); l != nil {
					t.Error("Pairs", l)
				}
			}
		}
		if l := j.Lefts(); l != nil {
			t.Error("Lefts", l)
		}
		if l := j.Rights(); l != nil {
			t.Error("Rights", l)
		}
	}
}
