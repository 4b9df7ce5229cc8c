package order

import (
	"math"
	"slices"
	"testing"

	"witan/api"
)

func act(rule, salience int, tuple ...int) api.Act {
	return api.Act{Rule: rule, Tuple: tuple, Salience: salience}
}

func TestVector(t *testing.T) {
	const least, greatest = math.MinInt, math.MaxInt
	for _, x := range []struct {
		tuple, one, lex []int
	}{
		{nil, []int{0}, nil},
		{[]int{}, []int{0}, nil},
		{[]int{0}, []int{0}, []int{0}},
		{[]int{7}, []int{7}, []int{7}},
		{[]int{3, 5}, []int{5}, []int{5, 3}},
		{[]int{5, 3}, []int{5}, []int{5, 3}},
		{[]int{4, 4}, []int{4}, []int{4, 4}},
		{[]int{2, 9, 2, 1, 2}, []int{9}, []int{9, 2, 2, 2, 1}},
		{[]int{6, 6, 6, 5}, []int{6}, []int{6, 6, 6, 5}},
		{[]int{-3, -1, -2}, []int{-1}, []int{-1, -2, -3}},
		{[]int{-1, 0}, []int{0}, []int{0, -1}},
		{[]int{least}, []int{least}, []int{least}},
		{[]int{least, greatest, 0, least}, []int{greatest}, []int{greatest, 0, least, least}},
	} {
		for strategy := range 256 {
			want := x.one
			if strategy == int(api.Lex) {
				want = x.lex
			}
			if got := Vector(uint8(strategy), x.tuple); !slices.Equal(got, want) {
				t.Errorf("by %d, of %v: %v, not %v", strategy, x.tuple, got, want)
			}
			holdVector(t, uint8(strategy), x.tuple)
		}
	}
}

// ahead are activations of which the first one is ahead, by that strategy.
type ahead struct {
	by    string
	how   uint8
	first api.Act
	other api.Act
}

func known() []ahead {
	const least, greatest = math.MinInt, math.MaxInt
	return []ahead{
		{"the chapter's", api.Depth, act(0, 0, 3, 5), act(0, 0, 4, 4)},
		{"the chapter's", api.Breadth, act(0, 0, 4, 4), act(0, 0, 3, 5)},
		{"the chapter's", api.Lex, act(0, 0, 5, 3), act(0, 0, 5)},
		{"the chapter's", api.Lex, act(0, 0, 1, 2), act(0, 0, 2, 1)},

		{"salience, against all else", api.Depth, act(9, 1, 2), act(0, 0, 5)},
		{"salience, against all else", api.Breadth, act(9, 1, 5), act(0, 0, 2)},
		{"salience, against all else", api.Lex, act(9, 1, 2), act(0, 0, 5, 4)},
		{"salience below 0", api.Depth, act(9, -1, 2), act(0, -2, 5)},
		{"salience, too far apart to be taken from each other", api.Depth, act(9, greatest, 2), act(0, least, 5)},
		{"salience, too far apart to be taken from each other", api.Lex, act(9, 1, 2), act(0, least, 5)},
		{"salience, too far apart to be taken from each other", api.Breadth, act(9, greatest, 5), act(0, -2, 2)},

		{"the greatest id, against the rule", api.Depth, act(9, 3, 1, 6), act(0, 3, 5, 5, 5)},
		{"the least greatest id, against the rule", api.Breadth, act(9, 3, 5, 5, 5), act(0, 3, 1, 6)},
		{"ids too far apart to be taken from each other", api.Depth, act(9, 0, greatest), act(0, 0, least)},
		{"ids too far apart to be taken from each other", api.Breadth, act(9, 0, least), act(0, 0, greatest)},
		{"ids too far apart to be taken from each other", api.Lex, act(9, 0, least, greatest), act(0, 0, least, least, 1)},
		{"no id is as 0", api.Depth, act(9, 0), act(0, 0, -1)},
		{"no id is as 0", api.Breadth, act(9, 0, -1), act(0, 0)},
		{"no id is as 0", api.Depth, act(9, 0, 1), act(0, 0)},
		{"no id is as 0", api.Breadth, act(9, 0), act(0, 0, 1)},
		{"one id is more than none", api.Lex, act(9, 0, -1), act(0, 0)},
		{"ids below 0", api.Depth, act(9, 0, -5, -2), act(0, 0, -3)},
		{"ids below 0", api.Breadth, act(9, 0, -3), act(0, 0, -5, -2)},
		{"the first place", api.Lex, act(9, 0, 1, 6), act(0, 0, 5, 5, 5)},
		{"the second place", api.Lex, act(9, 0, 4, 6, 1), act(0, 0, 6, 3, 3)},
		{"the third place", api.Lex, act(9, 0, 2, 6, 6), act(0, 0, 6, 1, 6)},
		{"an id as often as it stands", api.Lex, act(9, 0, 5, 5), act(0, 0, 5, 4)},
		{"an id as often as it stands", api.Lex, act(9, 0, 5, 5, 5), act(0, 0, 5, 5)},
		{"the longer one", api.Lex, act(9, 0, -7, 2, 5), act(0, 0, 5, 2)},

		{"the rule, against the tuple", api.Depth, act(1, 0, 5, 2), act(2, 0, 1, 5)},
		{"the rule, against the tuple", api.Breadth, act(1, 0, 5, 2), act(2, 0, 1, 5)},
		{"the rule, against the tuple", api.Lex, act(1, 0, 5, 2), act(2, 0, 2, 5)},
		{"rules too far apart to be taken from each other", api.Depth, act(least, 0, 5, 2), act(greatest, 0, 1, 5)},
		{"rules below 0", api.Lex, act(-2, 0), act(-1, 0)},
		{"the rule, where no id is as 0", api.Depth, act(1, 0, 0), act(2, 0)},

		{"the tuple's first place", api.Depth, act(1, 0, 2, 9, 5), act(1, 0, 3, 9)},
		{"the tuple's first place", api.Breadth, act(1, 0, 2, 9, 5), act(1, 0, 3, 9)},
		{"the tuple's later place", api.Depth, act(1, 0, 9, 4, 6), act(1, 0, 9, 5, 3)},
		{"the tuple's later place", api.Breadth, act(1, 0, 9, 4, 6), act(1, 0, 9, 5, 3)},
		{"the tuple's later place", api.Lex, act(1, 0, 9, 4, 6), act(1, 0, 9, 6, 4)},
		{"tuples too far apart to be taken from each other", api.Depth, act(1, 0, least, 2), act(1, 0, 1, 2)},
		{"the shorter tuple", api.Depth, act(1, 0, 9, 4), act(1, 0, 9, 4, 4)},
		{"the shorter tuple", api.Breadth, act(1, 0, 9, 4), act(1, 0, 9, 4, 4)},
		{"the shorter tuple, where no id is as 0", api.Depth, act(1, 0), act(1, 0, 0)},
		{"the shorter tuple, where no id is as 0", api.Breadth, act(1, 0), act(1, 0, 0)},
		{"the shorter tuple, where no id is as 0", api.Depth, act(1, 0), act(1, 0, -1, 0)},
	}
}

func TestCompare(t *testing.T) {
	for _, x := range known() {
		hows := []uint8{x.how}
		if x.how == api.Depth {
			hows = append(hows, 0, 4, 9, 255)
		}
		for _, how := range hows {
			if c, back := Compare(how, x.first, x.other), Compare(how, x.other, x.first); c != -1 || back != 1 {
				t.Errorf("%s, by %d, of %v and %v: %d, and %d back", x.by, how, x.first, x.other, c, back)
			}
			holdPair(t, how, x.first, x.other)
			for _, a := range []api.Act{x.first, x.other} {
				if c := Compare(how, a, copyOf(a)); c != 0 {
					t.Errorf("by %d, of %v twice: %d", how, a, c)
				}
			}
		}
	}
}

// TestCompareOfNoIDs holds a tuple that is not there and an empty one to be one.
func TestCompareOfNoIDs(t *testing.T) {
	none, empty := api.Act{Rule: 1}, api.Act{Rule: 1, Tuple: []int{}}
	for strategy := range 256 {
		if c, back := Compare(uint8(strategy), none, empty), Compare(uint8(strategy), empty, none); c != 0 || back != 0 {
			t.Errorf("by %d: %d, and %d back", strategy, c, back)
		}
	}
	if !Same(none, empty) || !Same(empty, none) {
		t.Error("Same")
	}
}

// TestStrategies holds that any strategy which is none of the three is as Depth.
func TestStrategies(t *testing.T) {
	var l []api.Act
	for _, x := range known() {
		l = append(l, x.first, x.other)
	}
	depth := bare(Sort(api.Depth, l))
	for strategy := range 256 {
		asDepth := uint8(strategy) != api.Breadth && uint8(strategy) != api.Lex
		if got := bare(Sort(uint8(strategy), l)); (got == depth) != asDepth {
			t.Errorf("by %d: as by Depth: %t", strategy, !asDepth)
		}
		for _, x := range known() {
			holdPair(t, uint8(strategy), x.first, x.other)
		}
	}
}

// orders calls for each order of a list.
func orders(l []api.Act, call func(l []api.Act)) {
	var from func(at int)
	from = func(at int) {
		if at == len(l) {
			call(l)
			return
		}
		for i := at; i < len(l); i++ {
			l[at], l[i] = l[i], l[at]
			from(at + 1)
			l[at], l[i] = l[i], l[at]
		}
	}
	from(0)
}

func TestSort(t *testing.T) {
	top, twice := act(5, 2, 1), act(1, 0, 9)
	for _, x := range []struct {
		strategy uint8
		want     []api.Act
	}{
		{api.Depth, nil},
		{api.Breadth, []api.Act{top}},
		{api.Lex, []api.Act{twice, twice, twice}},
		{api.Depth, []api.Act{top, twice, twice, act(0, 0, 3, 8), act(2, 0, 8, 4), act(0, 0, 3)}},
		{api.Breadth, []api.Act{top, act(0, 0, 3), act(0, 0, 3, 8), act(2, 0, 8, 4), twice, twice}},
		{api.Lex, []api.Act{top, twice, twice, act(2, 0, 8, 4), act(0, 0, 3, 8), act(0, 0, 3)}},
		{api.Lex, []api.Act{act(0, 0, 3, 1), act(0, 0, 3), act(1, 0, 3), act(0, 0), act(7, 0), act(0, -1, 4)}},
		{77, []api.Act{act(0, 0, 3), act(0, 0, 3, 1), act(1, 0, 3), act(0, 0), act(7, 0), act(0, -1, 4)}},
	} {
		orders(slices.Clone(x.want), func(l []api.Act) {
			if got := Sort(x.strategy, l); bare(got) != bare(x.want) {
				t.Errorf("by %d, of %v: %v, not %v", x.strategy, l, got, x.want)
			}
			holdSort(t, x.strategy, l)
		})
	}
	if l := Sort(api.Lex, []api.Act{}); len(l) != 0 {
		t.Error("of none:", l)
	}
}

// TestSortKeepsPlaces: the list that is handed in shows by the room behind it whether
// what is told was written there.
func TestSortKeepsPlaces(t *testing.T) {
	room := []api.Act{act(2, 0, 1, 2), act(1, 0, 4, 3), act(3, 5, 9), act(4, 0, 8)}
	before := bare(room)
	for strategy := range 256 {
		got := Sort(uint8(strategy), room[:3:4])
		if bare(room) != before {
			t.Fatalf("by %d: what was handed in is another one now: %v", strategy, room)
		}
		for i := range got {
			got[i].Tuple = append(got[i].Tuple, 77)
			got[i].Tuple[0] = 78
			got[i].Rule = 79
		}
		_ = append(got, act(80, 80))
		if bare(room) != before {
			t.Fatalf("by %d: what was handed in was written over: %v", strategy, room)
		}
	}
}

// TestSortOfOneTuple: of activations whose tuples are one list, those that are told
// have each a tuple of its own.
func TestSortOfOneTuple(t *testing.T) {
	tuple := []int{1, 2}
	got := Sort(api.Depth, []api.Act{{Rule: 2, Tuple: tuple}, {Rule: 1, Tuple: tuple}, {Rule: 3, Tuple: tuple[:1]}, {Rule: 4, Tuple: tuple[:0]}})
	if want := []api.Act{act(1, 0, 1, 2), act(2, 0, 1, 2), act(3, 0, 1), act(4, 0)}; bare(got) != bare(want) {
		t.Errorf("%v, not %v", got, want)
	}
	if !areApart(append(spans(got), spans(tuple)...)) {
		t.Error("memory is shared")
	}
}

// TestVectorOfItsOwn: also a vector that has the ids as they stood, or none, is
// in memory of its own.
func TestVectorOfItsOwn(t *testing.T) {
	for strategy := range 256 {
		for _, room := range [][]int{{9}, {9, 5, 5, 1}, {0}} {
			for n := range len(room) + 1 {
				given := slices.Clone(room)
				l := Vector(uint8(strategy), given[:n])
				for i := range l {
					l[i] = 77
				}
				_ = append(l, 78)
				if !slices.Equal(given, room) {
					t.Fatalf("by %d, of %v: %v was written over", strategy, room[:n], given)
				}
			}
		}
	}
}

func TestSame(t *testing.T) {
	a := act(1, 2, 3, 4)
	for _, x := range []struct {
		b    api.Act
		want bool
	}{
		{act(1, 2, 3, 4), true},
		{act(1, 9, 3, 4), true},
		{act(1, math.MinInt, 3, 4), true},
		{act(2, 2, 3, 4), false},
		{act(-1, 2, 3, 4), false},
		{act(1, 2, 4, 3), false},
		{act(1, 2, 3, 5), false},
		{act(1, 2, 2, 4), false},
		{act(1, 2, 3), false},
		{act(1, 2, 4), false},
		{act(1, 2, 3, 4, 4), false},
		{act(1, 2), false},
	} {
		if Same(a, x.b) != x.want || Same(x.b, a) != x.want {
			t.Errorf("of %v and %v: not %t", a, x.b, x.want)
		}
	}
}

// TestMany: nothing takes the longer for each part, the more of them there are.
func TestMany(t *testing.T) {
	const many = 100_000
	l, tuple := make([]api.Act, many), make([]int, many)
	for i := range l {
		tuple[i] = i * 7919 % many
		l[i] = act(i%3, i%2, tuple[i], i)
	}
	for _, strategy := range []uint8{api.Depth, api.Breadth, api.Lex} {
		got := Sort(strategy, l)
		if len(got) != many {
			t.Fatal(len(got))
		}
		for i := 1; i < many; i++ {
			if c, _ := modelCompare(strategy, got[i-1], got[i]); c != -1 {
				t.Fatalf("by %d, at %d: %v, %v", strategy, i, got[i-1], got[i])
			}
		}
		v := Vector(strategy, tuple)
		if v[0] != many-1 || strategy == api.Lex && (len(v) != many || v[many-1] != 0 || v[many-2] != 1) {
			t.Fatal(len(v), v[0])
		}
		if c := Compare(strategy, act(0, 0, tuple...), act(0, 0, slices.Clone(tuple)...)); c != 0 {
			t.Fatal(c)
		}
	}
}
