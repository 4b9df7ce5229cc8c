package agenda

import (
	"container/heap"

	"witan/order"
)

// queue is matches that wait to be fired, as a heap, of which the first one is ahead
// of all others. Each knows its place, so that none has to be looked for that leaves.
type queue struct {
	strategy uint8
	all      []*match
}

func (q *queue) enter(m *match) { heap.Push(q, m) }

// leave tells whether it was waiting; then it waits no more.
func (q *queue) leave(m *match) bool {
	if !m.isWaiting() {
		return false
	}
	heap.Remove(q, m.place)
	return true
}

// first is asked where there is one.
func (q *queue) first() *match { return q.all[0] }

// Len, Less, Swap, Push and Pop are what container/heap asks for.

func (q *queue) Len() int { return len(q.all) }

func (q *queue) Less(i, j int) bool {
	return order.Compare(q.strategy, q.all[i].act, q.all[j].act) < 0
}

func (q *queue) Swap(i, j int) {
	q.all[i], q.all[j] = q.all[j], q.all[i]
	q.all[i].place, q.all[j].place = i, j
}

func (q *queue) Push(x any) {
	m := x.(*match)
	m.place = len(q.all)
	q.all = append(q.all, m)
}

func (q *queue) Pop() any {
	last := len(q.all) - 1
	m := q.all[last]
	m.place = -1
	// What is gone is not held on to.
	q.all[last] = nil
	q.all = q.all[:last]
	return m
}
