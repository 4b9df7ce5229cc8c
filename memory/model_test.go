package memory

import (
	"fmt"
	"math/rand"
	"slices"
	"testing"

	"witan/api"
)

// model is a memory as a list of facts in the order in which they came; each
// one's key is a text of all its data.
type model struct {
	limit, last int
	facts       []api.Fact
}

func key(t int, s []api.Value) string {
	k := fmt.Sprint(t, len(s))
	for _, v := range s {
		k += fmt.Sprintf(" %d %d %q", v.Kind, v.N, v.S)
	}
	return k
}

func (m *model) find(t int, s []api.Value) int {
	for _, f := range m.facts {
		if key(f.T, f.S) == key(t, s) {
			return f.ID
		}
	}
	return 0
}

func (m *model) add(t int, s []api.Value) (int, bool, api.Errno) {
	if id := m.find(t, s); id > 0 {
		return id, false, api.OK
	}
	if len(m.facts) == m.limit {
		return 0, false, api.ErrFull
	}
	m.last++
	m.facts = append(m.facts, fact(m.last, t, slices.Clone(s)...))
	return m.last, true, api.OK
}

func (m *model) remove(id int) (api.Fact, bool) {
	for i, f := range m.facts {
		if f.ID == id {
			m.facts = slices.Delete(m.facts, i, i+1)
			return f, true
		}
	}
	return api.Fact{}, false
}

func (m *model) copied() *model {
	return &model{limit: m.limit, last: m.last, facts: slices.Clone(m.facts)}
}

// pair is a memory and what it should be like.
type pair struct {
	m *Memory
	w *model
}

func someFact(r *rand.Rand) (int, []api.Value) {
	l := []api.Value{null(), whole(0), whole(1), dec(0), dec(10000), truth(1), text("a"), sym("a")}
	s := make([]api.Value, r.Intn(3), 4)
	for i := range s {
		s[i] = l[r.Intn(len(l))]
	}
	return r.Intn(2), s
}

func (p *pair) stepAdd(t *testing.T, r *rand.Rand) string {
	place, s := someFact(r)
	wantID, wantFresh, want := p.w.add(place, s)
	holdAdd(t, p.m, place, s, wantID, wantFresh, want)
	scribble(s)
	return fmt.Sprint("add ", wantFresh, want)
}

func (p *pair) stepRemove(t *testing.T, r *rand.Rand) string {
	id := r.Intn(p.w.last+3) - 1
	if len(p.w.facts) > 0 && r.Intn(2) == 0 {
		id = p.w.facts[r.Intn(len(p.w.facts))].ID
	}
	w, there := p.w.remove(id)
	f, ok := p.m.Remove(id)
	if ok != there || there && !same(f, w) || !there && !isZero(f) {
		t.Errorf("Remove(%d) = %v, %t; want %v, %t", id, f, ok, w, there)
	}
	scribble(f.S)
	return fmt.Sprint("remove ", there)
}

func (p *pair) stepAsk(t *testing.T, r *rand.Rand) string {
	place, s := someFact(r)
	want := p.w.find(place, s)
	if id := p.m.Find(place, s); id != want {
		t.Errorf("Find(%d, %v) = %d, want %d", place, s, id, want)
	}
	scribble(s)
	scribbleFacts(p.m.Facts())
	for _, f := range p.w.facts {
		g, _ := p.m.Get(f.ID)
		scribble(g.S)
	}
	return fmt.Sprint("find ", want > 0)
}

// P5.1, P5.2: memories and their copies go their ways as the models do.
func TestAgainstModel(t *testing.T) {
	r := rand.New(rand.NewSource(505))
	met := map[string]int{}
	for _, limit := range []int{1, 2, 3, 5, 10, 40, 90, 200} {
		pairs := []pair{{made(t, limit), &model{limit: limit}}}
		for range 4000 {
			p := &pairs[r.Intn(len(pairs))]
			switch n := r.Intn(40); {
			case n < 20:
				met[p.stepAdd(t, r)]++
			case n < 32:
				met[p.stepRemove(t, r)]++
			case n < 39:
				met[p.stepAsk(t, r)]++
			default:
				c := pair{p.m.Copy(), p.w.copied()}
				if len(pairs) < 4 {
					pairs = append(pairs, c)
				} else {
					pairs[r.Intn(4)] = c
				}
			}
			for _, q := range pairs {
				if l := q.m.Facts(); !slices.EqualFunc(l, q.w.facts, same) || q.m.Len() != len(l) || q.m.Last() != q.w.last {
					t.Fatalf("Facts() = %v, Last() = %d; want %v, %d", l, q.m.Last(), q.w.facts, q.w.last)
				}
			}
			if t.Failed() {
				return
			}
		}
		for _, q := range pairs {
			holdAll(t, q.m, q.w.last, q.w.facts)
		}
	}
	for _, x := range []string{"add true 0", "add false 0", "add false 7", "remove true", "remove false", "find true", "find false"} {
		if met[x] < 500 {
			t.Errorf("%q was met %d times only: %v", x, met[x], met)
		}
	}
}
