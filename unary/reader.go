package unary

import (
	"witan/api"
	"witan/expr"
)

// reader is words, how far they are read, and the nodes of what is read.
type reader struct {
	words []api.Tok
	next  int // the first word that is not read
	nots  int // how many not are open
	nodes api.Tests
}

// read reads what is asked, or tells why the next word can't go on with it.
// Only giveUp panics with an Errno; any other panic is a fault, and goes on.
func (r *reader) read(what func(r *reader) int) (e api.Errno) {
	defer func() {
		if x := recover(); x != nil {
			e = x.(api.Errno)
		}
	}()
	what(r)
	return api.OK
}

// giveUp ends all reading at the next word.
func (r *reader) giveUp(e api.Errno) { panic(e) }

// tests reads ones side by side, and tells their node's number.
func (r *reader) tests() int {
	ones := []int{r.one()}
	for r.goesOn() {
		r.next++
		ones = append(ones, r.one())
	}
	if len(ones) == 1 {
		return ones[0]
	}
	return r.add(api.Test{Op: api.TestList, Kids: ones, At: r.nodes[ones[0]].At})
}

// goesOn tells whether the next word is a comma with one more one behind it:
// behind the comma of a pattern stand a slot's name and a colon.
func (r *reader) goesOn() bool {
	i := r.next
	isSlot := r.is(i+2, ":") && r.words[i+1].Kind == api.TokName
	return r.is(i, ",") && !isSlot
}

// one reads a one, and tells its node's number.
func (r *reader) one() int {
	i := r.next
	switch {
	case r.is(i, "-") && r.behindExpr(i) < 0:
		r.next++
		return r.add(api.Test{Op: api.TestAny, At: r.words[i].At})
	case r.is(i, "not") && r.is(i+1, "("):
		return r.not()
	case (r.is(i, "[") || r.is(i, "(")) && r.is(r.behindExpr(i+1), ".."):
		return r.within()
	}
	return r.compared()
}

// not reads tests that are not to pass.
func (r *reader) not() int {
	if r.nots == api.MaxNots {
		r.giveUp(api.ErrDepth)
	}
	at := r.words[r.next].At
	r.next += 2
	r.nots++
	kid := r.tests()
	r.nots--
	r.take(")")
	return r.add(api.Test{Op: api.TestNot, Kids: []int{kid}, At: at})
}

// within reads a range.
func (r *reader) within() int {
	first := r.words[r.next]
	r.next++
	a := r.expr()
	r.take("..")
	b := r.expr()
	last := r.take("]", ")")
	return r.add(api.Test{Op: api.TestIn, A: a, B: b, Low: first.Text == "(", High: last.Text == ")", At: first.At})
}

// compared reads an expression, and the sign ahead of it, if there is one.
func (r *reader) compared() int {
	n := api.Test{Op: api.TestEq}
	if r.next < len(r.words) {
		n.At = r.words[r.next].At
	}
	for op := api.TestEq; op <= api.TestGe; op++ {
		if r.is(r.next, comparisonOf(op).sign) {
			n.Op = op
			r.next++
			break
		}
	}
	n.A = r.expr()
	return r.add(n)
}

// expr reads the longest expression that is there; it gives up where layer 7 does.
func (r *reader) expr() api.Expr {
	x, next, e := expr.Parse(r.words, r.next)
	r.next = next
	if e != api.OK {
		r.giveUp(e)
	}
	return x
}

// behindExpr tells the number of the word behind the longest expression that
// begins at word i; -1, if layer 7 reads none there.
func (r *reader) behindExpr(i int) int {
	_, next, e := expr.Parse(r.words, i)
	if e != api.OK {
		return -1
	}
	return next
}

// take tells the next word, if it is one of those, and goes on behind it.
func (r *reader) take(quoted ...string) api.Tok {
	for _, q := range quoted {
		if r.is(r.next, q) {
			r.next++
			return r.words[r.next-1]
		}
	}
	r.giveUp(api.ErrForm)
	return api.Tok{}
}

// is tells whether word i is there, and that one of the grammar's, as a name
// or as a sign.
func (r *reader) is(i int, quoted string) bool {
	if i < 0 || i >= len(r.words) {
		return false
	}
	w := r.words[i]
	return (w.Kind == api.TokName || w.Kind == api.TokSign) && w.Text == quoted
}

// add tells the number of a node that is new.
func (r *reader) add(n api.Test) int {
	r.nodes = append(r.nodes, n)
	return len(r.nodes) - 1
}
