package alpha

import (
	"maps"
	"slices"

	"witan/api"
	"witan/own"
)

// memory is facts by their IDs.
type memory struct{ facts map[int]api.Fact }

func newMemory() memory { return memory{map[int]api.Fact{}} }

func (m memory) put(f api.Fact) { m.facts[f.ID] = f }

func (m memory) has(id int) bool {
	_, ok := m.facts[id]
	return ok
}

// take takes a fact out, and tells whether it was there.
func (m memory) take(id int) bool {
	ok := m.has(id)
	delete(m.facts, id)
	return ok
}

func (m memory) size() int { return len(m.facts) }

// inOrder tells the facts by rising IDs, each with values of its own.
func (m memory) inOrder() []api.Fact {
	var l []api.Fact
	for _, id := range slices.Sorted(maps.Keys(m.facts)) {
		f := m.facts[id]
		f.S = own.List(f.S)
		l = append(l, f)
	}
	return l
}
