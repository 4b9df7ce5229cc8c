package eval

import (
	"slices"
	"strings"
	"testing"

	"witan/api"
	"witan/value"
)

func lit(v api.Value) api.Node { return api.Node{Op: api.OpLit, V: v} }

func op(op uint8, kids ...int) api.Node { return api.Node{Op: op, Kids: kids} }

// P10.1: no nodes, one, the most that a text may have, more

func TestNoNodes(t *testing.T) {
	holdTree(t, nil, null(), nil, "null")
	holdTree(t, api.Expr{}, truth(2), []api.Binding{{Name: "a", V: truth(2)}}, "null")
}

// An op of no expressions takes them for Nulls.
func TestOneNode(t *testing.T) {
	for o := range 256 {
		want := "null"
		if o == 0 || o > int(api.OpIf) {
			want = "!arg"
		}
		if o == int(api.OpVar) {
			want = "!scope"
		}
		for _, kids := range [][]int{nil, {}, {0}, {1}, {-1}, {0, 0, 0}, {least, greatest, 7}, make([]int, 9)} {
			holdTree(t, api.Expr{{Op: uint8(o), Kids: kids}}, null(), nil, want)
		}
	}
}

func TestManyNodes(t *testing.T) {
	hold(t, "-?i"+strings.Repeat(" + ?i", 29), "196") // 60 nodes
	for _, n := range []int{60, 61, 1000, 300000} {
		x := api.Expr{lit(integer(1))}
		for len(x) < n {
			x = append(x, op(api.OpNeg, len(x)-1))
		}
		want := "1"
		if n%2 == 0 {
			want = "-1"
		}
		holdTree(t, x, null(), nil, want)
	}
}

// A node that is asked from many places is worked out once, as it were.
func TestNodesThatAreAskedOften(t *testing.T) {
	x := api.Expr{lit(truth(1))}
	for range 5000 {
		k := len(x) - 1
		x = append(x, op(api.OpAnd, k, k), op(api.OpIf, k, k+1, k), op(api.OpEq, k+1, k+2))
	}
	holdTree(t, x, null(), nil, "true")
	x = api.Expr{lit(integer(0))}
	for range 5000 {
		k := len(x) - 1
		x = append(x, op(api.OpAdd, k, k), op(api.OpMax, k, k, k, k, k, k, k, k, k))
	}
	holdTree(t, x, null(), nil, "0")
}

func TestManyExpressionsAndBindings(t *testing.T) {
	x := api.Expr{lit(integer(5)), lit(integer(4)), op(api.OpMin, slices.Repeat([]int{0, 0, 1}, 100000)...)}
	holdTree(t, x, null(), nil, "4")
	x[2].Op = api.OpMax
	holdTree(t, x, null(), nil, "5")
	x[2].Kids = append(x[2].Kids, 2)
	holdTree(t, x, null(), nil, "null")
	x[2].Op = api.OpAdd
	holdTree(t, x, null(), nil, "10")
	vars := slices.Repeat([]api.Binding{{Name: "a", V: truth(2)}}, 100000)
	holdTree(t, api.Expr{{Op: api.OpVar, Name: "b"}}, null(), append(vars, api.Binding{Name: "b", V: sym("x")}), "#x")
	holdTree(t, api.Expr{{Op: api.OpVar, Name: "b"}}, null(), vars, "!scope")
}

// P10.1: expressions that lack, that are no node ahead, that are too many

func TestExpressionsThatLack(t *testing.T) {
	for _, x := range []struct {
		op   uint8
		kids []int
		want string
	}{
		// 0: 1, 1: true, 2: false, 3: "a", 4: an error; the node itself is 5
		{api.OpAdd, []int{0}, "null"}, {api.OpAdd, []int{3}, "!kind"}, {api.OpSub, []int{5, 0}, "null"}, {api.OpSub, []int{5, 3}, "!kind"}, {api.OpMul, []int{0, 6}, "null"}, {api.OpDiv, []int{0, -1}, "null"}, {api.OpDiv, []int{4}, "!scope"}, {api.OpDiv, []int{-1, 4}, "!scope"},
		{api.OpAnd, []int{1}, "null"}, {api.OpAnd, []int{2}, "false"}, {api.OpAnd, []int{0}, "!kind"}, {api.OpAnd, []int{5, 2}, "false"}, {api.OpAnd, []int{greatest, 1}, "null"}, {api.OpAnd, []int{-1, 0}, "!kind"}, {api.OpAnd, []int{-1, 4}, "!scope"},
		{api.OpOr, []int{1}, "true"}, {api.OpOr, []int{2}, "null"}, {api.OpOr, []int{5, 1}, "true"}, {api.OpOr, []int{least, 2}, "null"}, {api.OpNot, []int{5}, "null"}, {api.OpNot, nil, "null"},
		{api.OpIf, []int{1}, "null"}, {api.OpIf, []int{1, 0}, "1"}, {api.OpIf, []int{2, 0}, "null"}, {api.OpIf, []int{2, 0, 3}, `"a"`}, {api.OpIf, []int{2, 0, 5}, "null"}, {api.OpIf, []int{1, 5, 0}, "null"}, {api.OpIf, []int{5, 0, 3}, "null"}, {api.OpIf, []int{3}, "!kind"},
		{api.OpEq, []int{0}, "null"}, {api.OpNe, []int{5, 0}, "null"}, {api.OpLt, []int{0}, "null"}, {api.OpLt, []int{1}, "!kind"}, {api.OpGe, []int{-7, 3}, "null"}, {api.OpGt, []int{9, 2}, "!kind"}, {api.OpLe, nil, "null"},
		{api.OpNeg, nil, "null"}, {api.OpAbs, []int{5}, "null"}, {api.OpMin, nil, "null"}, {api.OpMax, []int{}, "null"}, {api.OpMin, []int{0, 5}, "null"}, {api.OpMin, []int{5, 3}, "!kind"}, {api.OpMax, []int{-1, 0, 4}, "!scope"},
		{api.OpMod, []int{0}, "null"}, {api.OpMod, []int{3}, "!kind"}, {api.OpMod, []int{5, 0}, "null"}, {api.OpLen, nil, "null"}, {api.OpUp, []int{-1}, "null"}, {api.OpHas, []int{3}, "null"}, {api.OpHas, []int{5, 3}, "null"}, {api.OpHead, []int{3, 6}, "null"}, {api.OpHead, []int{0}, "!kind"},
	} {
		tree := api.Expr{lit(integer(1)), lit(truth(1)), lit(truth(0)), lit(str("a")), {Op: api.OpVar, Name: "z"}, op(x.op, x.kids...)}
		holdTree(t, tree, null(), nil, x.want)
	}
}

// Expressions that an op does not have are not asked; min and max have all.
func TestExpressionsTooMany(t *testing.T) {
	for _, x := range []struct {
		op   uint8
		kids []int
		want string
	}{
		// 0: 3, 1: true, 2: "ab", 3: an error
		{api.OpAdd, []int{0, 0, 3}, "6"}, {api.OpSub, []int{0, 0, 3}, "0"}, {api.OpMul, []int{0, 0, 3}, "9"}, {api.OpDiv, []int{0, 0, 3}, "1"}, {api.OpMod, []int{0, 0, 3}, "0"},
		{api.OpNeg, []int{0, 3}, "-3"}, {api.OpAbs, []int{0, 3}, "3"}, {api.OpNot, []int{1, 3}, "false"}, {api.OpAnd, []int{1, 1, 3}, "true"}, {api.OpIf, []int{1, 0, 3, 3}, "3"}, {api.OpIf, []int{1, 3, 0, 0}, "!scope"},
		{api.OpEq, []int{0, 0, 3}, "true"}, {api.OpNe, []int{0, 0, 3}, "false"}, {api.OpLt, []int{0, 0, 3}, "false"}, {api.OpLe, []int{0, 0, 3}, "true"}, {api.OpGt, []int{2, 2, 3}, "false"}, {api.OpGe, []int{2, 2, 3}, "true"},
		{api.OpLen, []int{2, 3}, "2"}, {api.OpUp, []int{2, 3}, `"AB"`}, {api.OpHas, []int{2, 2, 3}, "true"}, {api.OpHead, []int{2, 2, 3}, "true"},
		{api.OpMin, []int{0, 0, 3}, "!scope"}, {api.OpMax, []int{0, 0, 0, 0, 0, 0, 0, 0, 0, 3}, "!scope"}, {api.OpMax, []int{0, 0, 0, 0, 0, 0, 0, 0, 0, 2}, "!kind"}, {api.OpMin, []int{0, 0, 0, 0, 0, 0, 0, 0, 0}, "3"},
	} {
		tree := api.Expr{lit(integer(3)), lit(truth(1)), lit(str("ab")), {Op: api.OpVar, Name: "z"}, op(x.op, x.kids...)}
		holdTree(t, tree, null(), nil, x.want)
	}
}

// P10.1: an op that is none tells ErrArg, whatever its expressions tell; nodes that nobody asks tell nothing.
func TestOpsThatAreNone(t *testing.T) {
	for o := range 256 {
		if o > 0 && o <= int(api.OpIf) {
			continue
		}
		none := api.Node{Op: uint8(o), Kids: []int{0, 1}, V: integer(1), Name: "i"}
		bad := api.Node{Op: api.OpVar, Name: "z"}
		holdTree(t, api.Expr{none}, integer(1), usual(), "!arg")
		holdTree(t, api.Expr{bad, lit(integer(1)), none}, integer(1), usual(), "!arg")
		holdTree(t, api.Expr{lit(integer(1)), lit(truth(1)), none, op(api.OpNeg, 2)}, integer(1), usual(), "!arg")
		holdTree(t, api.Expr{none, bad, lit(integer(1)), op(api.OpNeg, 2)}, integer(1), usual(), "-1")
		holdTree(t, api.Expr{none, lit(truth(0)), op(api.OpAnd, 1, 0)}, integer(1), usual(), "false")
		holdTree(t, api.Expr{none, bad, op(api.OpAdd, 0, 1)}, integer(1), usual(), "!arg")
		holdTree(t, api.Expr{none, bad, op(api.OpAdd, 1, 0)}, integer(1), usual(), "!scope")
	}
}

// P10.2

func TestPasses(t *testing.T) {
	for e := api.Errno(-3); e < 20; e++ {
		for _, v := range append(good(), wrong()...) {
			want := e == api.OK && v.Kind == api.Bool && v.N == 1
			if Passes(v, e) != want {
				t.Errorf("Passes(%.300v, %d) = %v", v, e, !want)
			}
		}
	}
	if !Passes(value.Truth(true), api.OK) {
		t.Error("Passes of a Bool that is true")
	}
	for _, v := range []api.Value{{}, truth(0), truth(2), truth(-1), truth(1 << 32), truth(1<<32 + 1), integer(1), dec(10000), dec(1), str("true"), sym("true"), {N: 1}, {Kind: 6, N: 1}, {Kind: api.Str, N: 1}, {Kind: api.Sym, N: 1}} {
		if Passes(v, api.OK) || Passes(v, api.ErrKind) {
			t.Errorf("Passes(%v)", v)
		}
	}
	for _, e := range []api.Errno{api.ErrNil, api.ErrArg, api.ErrKind, api.ErrDiv, api.ErrMany, -1, 15, least, greatest} {
		if Passes(truth(1), e) {
			t.Errorf("Passes beside %d", e)
		}
	}
}

// P1: nothing that is handed in is changed or kept

func TestWhatIsHandedInStays(t *testing.T) {
	for _, text := range []string{"?i + ?d * 2", "min(?i, ?d, 3, ?z)", "max(?i, ?d)", "if(?b, upper(?s), ?z)", "? = null and ?y <> #a"} {
		x, same, vars := read(t, text), read(t, text), usual()
		v, e := Value(x, dec(25000), vars)
		if !slices.EqualFunc(x, same, func(a, b api.Node) bool {
			return a.Op == b.Op && a.V == b.V && a.Name == b.Name && a.At == b.At && slices.Equal(a.Kids, b.Kids)
		}) || !slices.Equal(vars, usual()) {
			t.Errorf("Value(%q) changed what it was handed", text)
		}
		vars[1].V, x[0] = integer(99), api.Node{}
		if w, f := Value(same, dec(25000), usual()); w != v || f != e {
			t.Errorf("Value(%q) = %v, %d; ahead %v, %d", text, w, f, v, e)
		}
	}
}
