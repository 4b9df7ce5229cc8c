package join

import (
	"maps"
	"slices"
)

// side is what stands on one side of a join, by numbers.
type side[T any] struct{ there map[int]T }

func newSide[T any]() side[T] { return side[T]{map[int]T{}} }

func (s side[T]) has(id int) bool {
	_, ok := s.there[id]
	return ok
}

func (s side[T]) get(id int) T { return s.there[id] }

func (s side[T]) put(id int, x T) { s.there[id] = x }

func (s side[T]) take(id int) { delete(s.there, id) }

// numbers tells those that are there, rising.
func (s side[T]) numbers() []int { return slices.Sorted(maps.Keys(s.there)) }
