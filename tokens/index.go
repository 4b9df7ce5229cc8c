package tokens

import (
	"maps"
	"slices"
)

// index is tokens' numbers by a number that they have in common.
type index map[int]map[int]struct{}

func (x index) put(key, id int) {
	if x[key] == nil {
		x[key] = map[int]struct{}{}
	}
	x[key][id] = struct{}{}
}

// take keeps nothing of what no token has any more.
func (x index) take(key, id int) {
	delete(x[key], id)
	if len(x[key]) == 0 {
		delete(x, key)
	}
}

// inOrder tells those of a number, rising.
func (x index) inOrder(key int) []int { return slices.Sorted(maps.Keys(x[key])) }
