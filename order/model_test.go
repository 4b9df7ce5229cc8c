package order

import (
	"fmt"
	"math"
	"math/rand"
	"reflect"
	"slices"
	"testing"

	"witan/api"
)

// modelVector takes the greatest of the ids that are left, again and again.
func modelVector(strategy uint8, tuple []int) []int {
	var falling []int
	left := slices.Clone(tuple)
	for len(left) > 0 {
		at := 0
		for i, id := range left {
			if id > left[at] {
				at = i
			}
		}
		falling = append(falling, left[at])
		left = slices.Delete(left, at, at+1)
	}
	switch {
	case strategy == api.Lex:
		return falling
	case len(falling) == 0:
		return []int{0}
	}
	return falling[:1]
}

// differ tells the first place at which two lists have other ids, and whether
// there is one that both have.
func differ(a, b []int) (int, bool) {
	for i := range min(len(a), len(b)) {
		if a[i] != b[i] {
			return i, true
		}
	}
	return 0, false
}

// place writes which of all places one is.
func place(i int) string {
	if i == 0 {
		return "first"
	}
	return "later"
}

// modelAhead tells whether a is ahead of b, or b of a, by the chapter's words, and
// by what it is.
func modelAhead(strategy uint8, a, b api.Act) (aIs, bIs bool, by string) {
	if a.Salience != b.Salience {
		return a.Salience > b.Salience, a.Salience < b.Salience, "salience"
	}
	va, vb := modelVector(strategy, a.Tuple), modelVector(strategy, b.Tuple)
	at, do := differ(va, vb)
	switch {
	case do && strategy == api.Breadth:
		return va[at] < vb[at], va[at] > vb[at], "vector " + place(at)
	case do:
		return va[at] > vb[at], va[at] < vb[at], "vector " + place(at)
	case len(va) != len(vb):
		return len(va) > len(vb), len(va) < len(vb), "vector longer"
	case a.Rule != b.Rule:
		return a.Rule < b.Rule, a.Rule > b.Rule, "rule"
	}
	at, do = differ(a.Tuple, b.Tuple)
	switch {
	case do:
		return a.Tuple[at] < b.Tuple[at], a.Tuple[at] > b.Tuple[at], "tuple " + place(at)
	case len(a.Tuple) != len(b.Tuple):
		return len(a.Tuple) < len(b.Tuple), len(a.Tuple) > len(b.Tuple), "tuple shorter"
	}
	return false, false, "none"
}

func modelCompare(strategy uint8, a, b api.Act) (int, string) {
	aIs, bIs, by := modelAhead(strategy, a, b)
	switch {
	case aIs:
		return -1, by
	case bIs:
		return 1, by
	}
	return 0, by
}

// modelSort takes the first of those that are left of which none is ahead.
func modelSort(strategy uint8, l []api.Act) []api.Act {
	var sorted []api.Act
	left := slices.Clone(l)
	for len(left) > 0 {
		at := slices.IndexFunc(left, func(a api.Act) bool {
			return !slices.ContainsFunc(left, func(b api.Act) bool {
				_, bIs, _ := modelAhead(strategy, a, b)
				return bIs
			})
		})
		if at < 0 {
			panic("of some activations there is none that no other one is ahead of")
		}
		sorted = append(sorted, left[at])
		left = slices.Delete(left, at, at+1)
	}
	return sorted
}

func modelSame(a, b api.Act) bool {
	_, do := differ(a.Tuple, b.Tuple)
	return a.Rule == b.Rule && len(a.Tuple) == len(b.Tuple) && !do
}

// bare makes lists without parts, and those that are not there, one.
func bare(v any) string { return fmt.Sprint(v) }

// asked hands a copy in, with room behind its lists, and holds that the copy stays as
// it was, that what is told shares nothing with it nor with what is told of another
// copy, and that it is told again behind the writing over of all of these.
func asked[In, Out any](t *testing.T, name string, in In, call func(in In) Out) Out {
	t.Helper()
	one, other := room(in), room(in)
	before := whole(one)
	got, more := call(one), call(other)
	if whole(one) != before || whole(other) != before {
		t.Errorf("%s: what was handed in is another one now, %s, not %s", name, short(whole(one)), short(before))
	}
	if !areApart(slices.Concat(spans(one), spans(other), spans(got), spans(more))) {
		t.Errorf("%s of %s: memory is shared", name, short(before))
	}
	told := copyOf(got)
	for _, v := range []any{one, other, more} {
		spoil(reflect.ValueOf(v))
	}
	if bare(got) != bare(told) {
		t.Errorf("%s of %s: %v is another one behind the writing over", name, short(before), got)
	}
	spoil(reflect.ValueOf(got))
	if again := call(copyOf(in)); bare(again) != bare(told) {
		t.Errorf("%s of %s: %v, and %v when asked again", name, short(before), told, again)
	}
	return told
}

// pair is what Compare and Same are handed.
type pair struct{ A, B api.Act }

// holdPair holds Compare, both ways round, and Same of two activations, and tells by
// what one is ahead.
func holdPair(t *testing.T, strategy uint8, a, b api.Act) string {
	t.Helper()
	want, by := modelCompare(strategy, a, b)
	got := asked(t, "Compare", pair{a, b}, func(p pair) int { return Compare(strategy, p.A, p.B) })
	back := asked(t, "Compare", pair{b, a}, func(p pair) int { return Compare(strategy, p.A, p.B) })
	if got != want || back != -want {
		t.Errorf("Compare by %d of %v and %v: %d, and %d back, not %d (%s)", strategy, a, b, got, back, want, by)
	}
	same := asked(t, "Same", pair{a, b}, func(p pair) bool { return Same(p.A, p.B) })
	if same != modelSame(a, b) || Same(b, a) != same {
		t.Errorf("Same of %v and %v: %t", a, b, same)
	}
	return by
}

func holdVector(t *testing.T, strategy uint8, tuple []int) {
	t.Helper()
	got := asked(t, "Vector", tuple, func(l []int) []int { return Vector(strategy, l) })
	if want := modelVector(strategy, tuple); !slices.Equal(got, want) {
		t.Errorf("Vector by %d of %v: %v, not %v", strategy, tuple, got, want)
	}
}

func holdSort(t *testing.T, strategy uint8, l []api.Act) {
	t.Helper()
	got := asked(t, "Sort", l, func(l []api.Act) []api.Act { return Sort(strategy, l) })
	if want := modelSort(strategy, l); bare(got) != bare(want) {
		t.Errorf("Sort by %d of %v: %v, not %v", strategy, l, got, want)
	}
}

// hold holds all calls of some activations.
func hold(t *testing.T, strategy uint8, l []api.Act, seen map[string]int) {
	t.Helper()
	for _, a := range l {
		holdVector(t, strategy, a.Tuple)
		for _, b := range l {
			seen[fmt.Sprint(strategy, " ", holdPair(t, strategy, a, b))]++
		}
	}
	holdSort(t, strategy, l)
	for _, a := range l {
		for _, b := range l {
			for _, c := range l {
				if Compare(strategy, a, b) <= 0 && Compare(strategy, b, c) <= 0 && Compare(strategy, a, c) > 0 {
					t.Errorf("Compare by %d: a ring of %v, %v, %v", strategy, a, b, c)
				}
			}
		}
	}
}

// number makes one of few, among them the least and the greatest there are.
func number(r *rand.Rand) int {
	return []int{0, 0, 1, 1, 2, 2, 3, -1, -1, -2, math.MinInt, math.MaxInt}[r.Intn(12)]
}

// chance makes activations that are alike in much.
func chance(r *rand.Rand) []api.Act {
	l := make([]api.Act, r.Intn(6))
	for i := range l {
		if i > 0 && r.Intn(4) == 0 {
			l[i] = copyOf(l[r.Intn(i)])
			continue
		}
		l[i].Rule = []int{0, 0, 0, number(r)}[r.Intn(4)]
		l[i].Salience = []int{0, 0, 0, number(r)}[r.Intn(4)]
		for range r.Intn(5) {
			l[i].Tuple = append(l[i].Tuple, number(r))
		}
		if i > 0 && r.Intn(3) == 0 {
			l[i].Tuple = slices.Clone(l[r.Intn(i)].Tuple)
			tail := l[i].Tuple[min(r.Intn(2), len(l[i].Tuple)):]
			r.Shuffle(len(tail), reflect.Swapper(tail))
		}
	}
	return l
}

func TestByChance(t *testing.T) {
	r := rand.New(rand.NewSource(26))
	seen := map[string]int{}
	for range 4000 {
		hold(t, []uint8{api.Depth, api.Breadth, api.Lex, 0}[r.Intn(4)], chance(r), seen)
		if t.Failed() {
			t.FailNow()
		}
	}
	for _, strategy := range []uint8{api.Depth, api.Breadth, api.Lex, 0} {
		for _, by := range []string{"salience", "vector first", "vector later", "vector longer", "rule", "tuple first", "tuple later", "tuple shorter", "none"} {
			// The vectors of all but Lex have one part; by Lex, tuples of the same vector
			// are of the same length.
			mayBe := strategy == api.Lex && by != "tuple shorter" || strategy != api.Lex && by != "vector later" && by != "vector longer"
			if n := seen[fmt.Sprint(strategy, " ", by)]; mayBe && n < 60 || !mayBe && n > 0 {
				t.Errorf("by %d, %s: %d times", strategy, by, n)
			}
		}
	}
}

// TestAnything hands in what may not come out of any network.
func TestAnything(t *testing.T) {
	r := rand.New(rand.NewSource(27))
	for range 3000 {
		hold(t, uint8(r.Intn(256)), anything[[]api.Act](r), map[string]int{})
		if t.Failed() {
			t.FailNow()
		}
	}
}

// TestEachPart changes one part alone.
func TestEachPart(t *testing.T) {
	strategies := []uint8{api.Depth, api.Breadth, api.Lex, 200}
	for _, a := range []api.Act{{}, {Rule: 1, Tuple: []int{3, 5, 3}, Salience: 2}, {Rule: -1, Tuple: []int{-4, -4}, Salience: -7}, {Rule: math.MaxInt, Tuple: []int{0, math.MaxInt}, Salience: math.MinInt}} {
		b := copyOf(a)
		for i := range partsOf(&b) {
			for k := range changes(partsOf(&b)[i]) {
				c := copyOf(a)
				changes(partsOf(&c)[i])[k]()
				for _, strategy := range strategies {
					hold(t, strategy, []api.Act{a, c}, map[string]int{})
				}
			}
		}
	}
}
