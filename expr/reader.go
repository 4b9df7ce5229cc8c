package expr

import (
	"strings"

	"witan/api"
)

// The grammar's levels: what stands at one has expressions of the next one.
const (
	orLevel = iota
	andLevel
	notLevel
	cmpLevel
	sumLevel
	prodLevel
	minusLevel
	atomLevel
	allLevels
)

// reader is words, how far they are read, and the tree of what is read.
type reader struct {
	words  []api.Tok
	next   int // the first word that is not read
	open   int // how many levels of depth are open
	tree   api.Expr
	levels [allLevels]func() int // each reads an expression of its level, and tells its node's place
	calls  map[string]call
}

func newReader(l []api.Tok, from int) *reader {
	r := &reader{words: l, next: from, calls: calls()}
	r.levels = [allLevels]func() int{
		orLevel:    r.or,
		andLevel:   r.and,
		notLevel:   r.not,
		cmpLevel:   r.cmp,
		sumLevel:   r.sum,
		prodLevel:  r.prod,
		minusLevel: r.minus,
		atomLevel:  r.atom,
	}
	return r
}

// read reads one expression, or tells why the next word can't go on with it.
// Only giveUp panics with an Errno; any other panic is a fault, and goes on.
func (r *reader) read() (e api.Errno) {
	defer func() {
		if x := recover(); x != nil {
			e = x.(api.Errno)
		}
	}()
	r.expr()
	return api.OK
}

// giveUp ends all reading at the next word.
func (r *reader) giveUp(e api.Errno) { panic(e) }

func (r *reader) expr() int { return r.levels[orLevel]() }

func (r *reader) or() int { return r.chain(orLevel) }

func (r *reader) and() int { return r.chain(andLevel) }

func (r *reader) not() int { return r.prefixed(notLevel, "not", api.OpNot) }

// cmp takes one comparison alone: one behind it belongs to no expression.
func (r *reader) cmp() int {
	left := r.levels[cmpLevel+1]()
	if r.infix(cmpLevel) == 0 {
		return left
	}
	return r.pair(cmpLevel, left)
}

func (r *reader) sum() int { return r.chain(sumLevel) }

func (r *reader) prod() int { return r.chain(prodLevel) }

func (r *reader) minus() int { return r.prefixed(minusLevel, "-", api.OpNeg) }

// chain reads all that stands at that level, to the left first.
func (r *reader) chain(level int) int {
	left := r.levels[level+1]()
	for r.infix(level) != 0 {
		left = r.pair(level, left)
	}
	return left
}

// pair reads an infix operator of that level, and what stands behind it.
func (r *reader) pair(level, left int) int {
	op := r.infix(level)
	at := r.take().At
	right := r.levels[level+1]()
	return r.add(api.Node{Op: op, Kids: []int{left, right}, At: at})
}

// prefixed reads an operator that stands ahead, if it is there, with what it
// has, which is of its own level; else what is of the next one.
func (r *reader) prefixed(level int, word string, op uint8) int {
	if !r.is(word) {
		return r.levels[level+1]()
	}
	at := r.enter().At
	kid := r.levels[level]()
	r.open--
	return r.add(api.Node{Op: op, Kids: []int{kid}, At: at})
}

// atom reads what no operator parts.
func (r *reader) atom() int {
	w := r.word()
	switch w.Kind {
	case api.TokNumber, api.TokString, api.TokSym:
		return r.literal(w.V)
	case api.TokVar:
		return r.leaf(api.Node{Op: api.OpVar, Name: strings.Clone(w.Text)})
	case api.TokSelf:
		return r.leaf(api.Node{Op: api.OpSelf})
	case api.TokName:
		return r.named(w.Text)
	case api.TokSign:
		if w.Text == "(" {
			return r.group()
		}
	}
	r.giveUp(api.ErrForm)
	return 0
}

// named reads what begins with a name: a literal, or a call.
func (r *reader) named(name string) int {
	switch name {
	case "true":
		return r.literal(api.Value{Kind: api.Bool, N: 1})
	case "false":
		return r.literal(api.Value{Kind: api.Bool})
	case "null":
		return r.literal(api.Value{})
	}
	c, ok := r.calls[name]
	if !ok {
		r.giveUp(api.ErrForm)
	}
	return r.call(c)
}

func (r *reader) literal(v api.Value) int {
	v.S = strings.Clone(v.S)
	return r.leaf(api.Node{Op: api.OpLit, V: v})
}

// leaf adds a node of one word.
func (r *reader) leaf(n api.Node) int {
	n.At = r.take().At
	return r.add(n)
}

// group reads an expression in parentheses, which have no node.
func (r *reader) group() int {
	r.enter()
	inner := r.expr()
	r.leave()
	return inner
}

// call reads a call's word and its expressions.
func (r *reader) call(c call) int {
	at := r.take().At
	if !r.is("(") {
		r.giveUp(api.ErrForm)
	}
	r.enter()
	kids := []int{r.expr()}
	for r.is(",") {
		if len(kids) == c.most {
			r.giveUp(api.ErrMany)
		}
		r.take()
		kids = append(kids, r.expr())
	}
	if r.is(")") && len(kids) < c.least {
		r.giveUp(api.ErrMany)
	}
	r.leave()
	return r.add(api.Node{Op: c.op, Kids: kids, At: at})
}

// enter takes the next word, which opens a level of depth.
func (r *reader) enter() api.Tok {
	if r.open == api.MaxDeep {
		r.giveUp(api.ErrDepth)
	}
	r.open++
	return r.take()
}

// leave takes the parenthesis that ends a level of depth.
func (r *reader) leave() {
	if !r.is(")") {
		r.giveUp(api.ErrForm)
	}
	r.take()
	r.open--
}

// add tells the place of a node that is new.
func (r *reader) add(n api.Node) int {
	r.tree = append(r.tree, n)
	return len(r.tree) - 1
}

// word tells the next word; of no kind, if there is none.
func (r *reader) word() api.Tok {
	if r.next == len(r.words) {
		return api.Tok{}
	}
	return r.words[r.next]
}

// take tells the next word, and goes on behind it.
func (r *reader) take() api.Tok {
	w := r.word()
	r.next++
	return w
}

// is tells whether the next word is that one of the grammar's, as a name or as a sign.
func (r *reader) is(quoted string) bool {
	w := r.word()
	return (w.Kind == api.TokName || w.Kind == api.TokSign) && w.Text == quoted
}

// infix tells the op of the next word as an infix operator of that level; 0,
// if it is none.
func (r *reader) infix(level int) uint8 {
	w := r.word()
	op, its := infixOp(w.Text)
	if its != level || !r.is(w.Text) {
		return 0
	}
	return op
}
