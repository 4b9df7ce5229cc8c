package ncc

import (
	"witan/api"
	"witan/join"
)

// link is a join of the chain. The lefts of the first one are the group's, those of
// each other one beginnings of rows, which are the pairs of the link ahead. Owners
// tell of each of them whose it is: which of the group's lefts.
type link struct {
	join   *join.Join
	owners map[int]int
	// numbers are those that pairs have as lefts of the next link.
	numbers map[place]int
	// come and gone are handed the pairs that are new, and those that are gone, each
	// with its owner, and tell which of the group's lefts that turns.
	come, gone func(owner int, p api.Pair) []int
}

// place is where a pair stands: its left and its right.
type place struct{ left, right int }

// newLink tells one that hands its pairs to nothing yet.
func newLink(ts []api.Template, p api.Pattern) *link {
	return &link{join: join.New(ts, p), owners: map[int]int{}, numbers: map[place]int{}}
}

// handTo has the pairs be lefts of the next link. Of the numbers that they have
// there none comes again.
func (l *link) handTo(next *link) {
	last := 0
	l.come = func(owner int, p api.Pair) []int {
		last++
		l.numbers[place{p.Left, p.Right}] = last
		return next.left(last, owner, p.Vars)
	}
	l.gone = func(_ int, p api.Pair) []int {
		at := place{p.Left, p.Right}
		id := l.numbers[at]
		delete(l.numbers, at)
		return next.unleft(id)
	}
}

// handRows has the pairs, which are whole rows, be counted.
func (l *link) handRows(count func(left, more int) []int) {
	l.come = func(owner int, _ api.Pair) []int { return count(owner, 1) }
	l.gone = func(owner int, _ api.Pair) []int { return count(owner, -1) }
}

// left takes one that is not there, and tells what it turns.
func (l *link) left(id, owner int, vars []api.Binding) []int {
	pairs, _ := l.join.Left(id, vars)
	l.owners[id] = owner
	return l.hand(pairs, l.come)
}

// unleft lets one go that is there, and tells what it turns.
func (l *link) unleft(id int) []int {
	pairs, _ := l.join.Unleft(id)
	turned := l.hand(pairs, l.gone)
	delete(l.owners, id)
	return turned
}

// right tells what a fact turns here, which comes.
func (l *link) right(f api.Fact) ([]int, api.Errno) {
	pairs, e := l.join.Right(f)
	return l.hand(pairs, l.come), e
}

// unright tells what a fact turns here, which goes.
func (l *link) unright(id int) ([]int, api.Errno) {
	pairs, e := l.join.Unright(id)
	return l.hand(pairs, l.gone), e
}

// hand hands pairs on, and tells all that they turn.
func (l *link) hand(pairs []api.Pair, to func(owner int, p api.Pair) []int) []int {
	var turned []int
	for _, p := range pairs {
		turned = append(turned, to(l.owners[p.Left], p)...)
	}
	return turned
}
