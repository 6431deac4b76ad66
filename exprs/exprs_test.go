package exprs

import (
	"math"
	"reflect"
	"slices"
	"strings"
	"testing"

	"tidemark/api"
	"tidemark/vals"
)

const (
	none    = api.VNull
	boolean = api.VBool
	integer = api.VInt
	texts   = api.VText
)

var (
	null = api.Val{Kind: api.VNull}
	yes  = api.Val{Kind: api.VBool, N: 1}
	no   = api.Val{Kind: api.VBool}
)

func num(n int64) api.Val   { return api.Val{Kind: api.VInt, N: n} }
func text(s string) api.Val { return api.Val{Kind: api.VText, Text: s} }

func col(n int) api.Expr                       { return api.Expr{Kind: api.XCol, Col: n} }
func lit(v api.Val) api.Expr                   { return api.Expr{Kind: api.XLit, Val: v} }
func node(kind int, kids ...api.Expr) api.Expr { return api.Expr{Kind: kind, Kids: kids} }

// nested is x in so many others, each within the next one.
func nested(x api.Expr, times int) api.Expr {
	for range times {
		x = node(api.XIsNull, x)
	}
	return x
}

// truths is an expression of n nodes that isn't nested deep.
func truths(n int) api.Expr {
	if n == 1 {
		return lit(yes)
	}
	if n%2 == 0 {
		return node(api.XNot, truths(n-1))
	}
	left := (n - 1) / 2
	return node(api.XAnd, truths(left), truths(n-1-left))
}

func checkType(t *testing.T, cols []int, x api.Expr, want int) {
	t.Helper()
	if got, err := Type(cols, x); got != want || err != api.OK {
		t.Errorf("%v %#v: type %d and error %d come, not type %d", cols, x, got, err, want)
	}
}

func checkTypeError(t *testing.T, cols []int, x api.Expr, want api.Errno) {
	t.Helper()
	if got, err := Type(cols, x); got != 0 || err != want {
		t.Errorf("%v %#v: type %d and error %d come, not error %d alone", cols, x, got, err, want)
	}
}

func checkEval(t *testing.T, cols []int, x api.Expr, row []api.Val, want api.Val) {
	t.Helper()
	if got, err := Eval(cols, x, row); got != want || err != api.OK {
		t.Errorf("%v %#v of %#v: %#v and error %d come, not %#v", cols, x, row, got, err, want)
	}
}

func checkEvalError(t *testing.T, cols []int, x api.Expr, row []api.Val, want api.Errno) {
	t.Helper()
	if got, err := Eval(cols, x, row); got != (api.Val{}) || err != want {
		t.Errorf("%v %#v of %#v: %#v and error %d come, not error %d alone", cols, x, row, got, err, want)
	}
}

// all are columns of each type, by the types' own numbers.
func all() []int { return []int{0: none, 1: none, 2: boolean, 3: integer, 4: texts} }

// two kids' types, and the type that comes of them; each pair that isn't there doesn't go.
type couples map[[2]int]int

// bothWith are the couples that go with one type, and are of it.
func bothWith(kind int) couples {
	return couples{{kind, kind}: kind, {kind, none}: kind, {none, kind}: kind, {none, none}: kind}
}

// alike are the couples that go together, of their type, or of one that is given.
func alike(given int) couples {
	out := couples{}
	for _, c := range [][3]int{{none, none, none}, {boolean, boolean, boolean}, {integer, integer, integer}, {texts, texts, texts}, {none, boolean, boolean}, {none, integer, integer}, {none, texts, texts}, {boolean, none, boolean}, {integer, none, integer}, {texts, none, texts}} {
		out[[2]int{c[0], c[1]}] = c[2]
		if given != 0 {
			out[[2]int{c[0], c[1]}] = given
		}
	}
	return out
}

func ofTwoKids() map[int]couples {
	out := map[int]couples{api.XAnd: bothWith(boolean), api.XOr: bothWith(boolean), api.XAdd: bothWith(integer), api.XSub: bothWith(integer), api.XMul: bothWith(integer), api.XCat: bothWith(texts), api.XCoal: alike(0)}
	for _, kind := range []int{api.XEq, api.XNe, api.XLt, api.XLe, api.XGt, api.XGe} {
		out[kind] = alike(boolean)
	}
	return out
}

func TestC1TypesOfTwo(t *testing.T) {
	for kind, goes := range ofTwoKids() {
		for a := none; a <= texts; a++ {
			for b := none; b <= texts; b++ {
				x := node(kind, col(a), col(b))
				if want, ok := goes[[2]int{a, b}]; ok {
					checkType(t, all(), x, want)
				} else {
					checkTypeError(t, all(), x, api.ErrType)
				}
			}
		}
	}
}

func TestC1Together(t *testing.T) {
	goes := alike(0)
	for a := none; a <= texts; a++ {
		for b := none; b <= texts; b++ {
			want, ok := goes[[2]int{a, b}]
			got, err := Together(a, b)
			if got != want || ok != (err == api.OK) || !ok && err != api.ErrType {
				t.Errorf("%d and %d: type %d and error %d come, not type %d", a, b, got, err, want)
			}
		}
	}
}

func TestC1TypesOfOthers(t *testing.T) {
	for a := none; a <= texts; a++ {
		checkType(t, all(), col(a), a)
		checkType(t, all(), node(api.XIsNull, col(a)), boolean)
		if a == none || a == boolean {
			checkType(t, all(), node(api.XNot, col(a)), boolean)
		} else {
			checkTypeError(t, all(), node(api.XNot, col(a)), api.ErrType)
		}
		for b := none; b <= texts; b++ {
			for c := none; c <= texts; c++ {
				x := node(api.XCase, col(a), col(b), col(c))
				want, ok := alike(0)[[2]int{b, c}]
				if ok && (a == none || a == boolean) {
					checkType(t, all(), x, want)
				} else {
					checkTypeError(t, all(), x, api.ErrType)
				}
			}
		}
	}
	for _, v := range []api.Val{null, no, yes, num(-api.MaxInt), num(api.MaxInt), text(""), text(strings.Repeat("x", api.MaxText))} {
		checkType(t, nil, lit(v), v.Kind)
	}
	checkType(t, nil, lit(api.Val{Kind: api.VNull, N: 7, Text: "junk"}), none)
	checkType(t, nil, api.Expr{Kind: api.XLit, Val: num(1), Col: -5}, integer)
	checkType(t, []int{texts}, api.Expr{Kind: api.XCol, Val: api.Val{Kind: 99}}, texts)
	checkType(t, []int{boolean}, api.Expr{Kind: api.XNot, Val: api.Val{Kind: 99}, Col: 99, Kids: []api.Expr{col(0)}}, boolean)
	checkType(t, all(), node(api.XLt, node(api.XAdd, col(3), lit(num(1))), node(api.XCase, node(api.XNot, col(2)), lit(null), col(3))), boolean)
}

func TestC1Columns(t *testing.T) {
	full := slices.Repeat([]int{texts}, 2*api.MaxCols)
	checkType(t, full, col(2*api.MaxCols-1), texts)
	checkTypeError(t, full, col(2*api.MaxCols), api.ErrName)
	checkTypeError(t, append(slices.Clone(full), texts), col(0), api.ErrMany)
	checkTypeError(t, make([]int, 2*api.MaxCols+1), api.Expr{}, api.ErrMany)
	for _, bad := range []int{0, 5, -1, math.MaxInt, math.MinInt} {
		checkTypeError(t, []int{bad}, lit(null), api.ErrKind)
		checkTypeError(t, []int{integer, bad}, node(api.XNot), api.ErrKind)
	}
	for _, bad := range []int{-1, 1, math.MaxInt, math.MinInt} {
		checkTypeError(t, []int{integer}, col(bad), api.ErrName)
	}
	for _, cols := range [][]int{nil, {}} {
		checkTypeError(t, cols, col(0), api.ErrName)
	}
}

func TestC1Kids(t *testing.T) {
	for kind := api.XLit; kind <= api.XCoal; kind++ {
		want := 2
		switch kind {
		case api.XLit, api.XCol:
			want = 0
		case api.XNot, api.XIsNull:
			want = 1
		case api.XCase:
			want = 3
		}
		for n := range 6 {
			x := api.Expr{Kind: kind, Val: null, Kids: slices.Repeat([]api.Expr{col(0)}, n)}
			if n != want {
				checkTypeError(t, []int{none}, x, api.ErrMany)
			} else if _, err := Type([]int{none}, x); err != api.OK {
				t.Errorf("kind %d with %d kids: error %d", kind, n, err)
			}
			x.Kids = slices.Repeat([]api.Expr{{}}, n)
			if n != want {
				checkTypeError(t, []int{none}, x, api.ErrMany)
			} else if n > 0 {
				checkTypeError(t, []int{none}, x, api.ErrKind)
			}
		}
	}
	for _, kind := range []int{0, -1, 19, api.XMax, math.MaxInt, math.MinInt} {
		for n := range 4 {
			checkTypeError(t, nil, api.Expr{Kind: kind, Kids: make([]api.Expr, n)}, api.ErrKind)
		}
	}
}

func TestC1Much(t *testing.T) {
	cols := []int{boolean}
	checkType(t, cols, nested(col(0), api.MaxDeep-1), boolean)
	checkTypeError(t, cols, nested(col(0), api.MaxDeep), api.ErrMuch)
	checkTypeError(t, cols, nested(api.Expr{}, api.MaxDeep), api.ErrMuch)
	checkTypeError(t, cols, nested(api.Expr{}, api.MaxDeep-1), api.ErrKind)
	checkTypeError(t, cols, nested(node(api.XNot), api.MaxDeep), api.ErrMuch)
	checkTypeError(t, cols, nested(node(api.XNot), api.MaxDeep-1), api.ErrMany)
	checkTypeError(t, cols, nested(col(0), 60000), api.ErrMuch)
	checkType(t, nil, truths(api.MaxNodes), boolean)
	checkTypeError(t, nil, truths(api.MaxNodes+1), api.ErrMuch)
	// What is wrong within the nodes that may be is told ahead of there being too many.
	checkTypeError(t, nil, node(api.XAnd, api.Expr{}, truths(api.MaxNodes)), api.ErrKind)
	checkTypeError(t, nil, node(api.XAnd, truths(api.MaxNodes), api.Expr{}), api.ErrMuch)
	checkTypeError(t, nil, node(api.XAnd, truths(api.MaxNodes-1), api.Expr{}), api.ErrMuch)
	checkTypeError(t, nil, node(api.XAnd, truths(api.MaxNodes-2), api.Expr{}), api.ErrKind)
	round := node(api.XOr, col(0), col(0))
	round.Kids[0], round.Kids[1] = round, round
	round.Kids[0].Kids = round.Kids
	checkTypeError(t, cols, round, api.ErrMuch)
}

func TestC1Order(t *testing.T) {
	cols := []int{integer, texts}
	tooLong := lit(text(strings.Repeat("x", api.MaxText+1)))
	bad := node(api.XNot, col(0))
	for _, c := range []struct {
		x    api.Expr
		want api.Errno
	}{
		{lit(api.Val{}), api.ErrKind},
		{lit(api.Val{Kind: 5}), api.ErrKind},
		{lit(api.Val{Kind: api.VBool, N: 2}), api.ErrRange},
		{lit(num(api.MaxInt + 1)), api.ErrRange},
		{lit(num(-api.MaxInt - 1)), api.ErrRange},
		{tooLong, api.ErrMuch},
		{node(api.XAdd, col(5), api.Expr{}), api.ErrName},
		{node(api.XAdd, api.Expr{}, col(5)), api.ErrKind},
		{node(api.XAdd, tooLong, col(5)), api.ErrMuch},
		{node(api.XAdd, bad, col(5)), api.ErrType},
		{node(api.XAdd, col(1), col(5)), api.ErrName},
		{node(api.XAdd, col(1), tooLong), api.ErrMuch},
		{node(api.XCase, col(0), node(api.XCat, col(0), col(1)), api.Expr{}), api.ErrType},
		{node(api.XCase, col(0), col(1), api.Expr{}), api.ErrKind},
		{node(api.XCase, lit(yes), col(0), node(api.XCat)), api.ErrMany},
		{node(api.XIsNull, bad), api.ErrType},
		{api.Expr{Kind: api.XLit, Val: api.Val{}, Kids: []api.Expr{bad}}, api.ErrMany},
		{api.Expr{Kind: api.XCol, Col: 9, Kids: []api.Expr{{}}}, api.ErrMany},
		{node(api.XNot, node(api.XAnd, bad, node(api.XOr))), api.ErrType},
		{node(api.XNot, node(api.XAnd, node(api.XOr), bad)), api.ErrMany},
	} {
		checkTypeError(t, cols, c.x, c.want)
	}
}

func TestC2Fits(t *testing.T) {
	cols := []int{integer, texts, boolean, none}
	for _, c := range []struct {
		cols []int
		row  []api.Val
		want api.Errno
	}{
		{nil, nil, api.OK},
		{[]int{}, nil, api.OK},
		{nil, []api.Val{}, api.OK},
		{cols, []api.Val{num(1), text("a"), yes, null}, api.OK},
		{cols, []api.Val{null, null, null, null}, api.OK},
		{cols, []api.Val{{Kind: api.VNull, N: 3, Text: "junk"}, {Kind: api.VText, N: 7}, no, null}, api.OK},
		{cols, nil, api.ErrFit},
		{cols, []api.Val{num(1), text("a"), yes}, api.ErrFit},
		{cols, []api.Val{num(1), text("a"), yes, null, null}, api.ErrFit},
		{cols, []api.Val{{}, {}, {}}, api.ErrFit},
		{nil, []api.Val{null}, api.ErrFit},
		{cols, []api.Val{num(1), text("a"), yes, num(1)}, api.ErrType},
		{cols, []api.Val{text("a"), text("a"), yes, null}, api.ErrType},
		{cols, []api.Val{num(1), num(1), yes, null}, api.ErrType},
		{cols, []api.Val{num(1), text("a"), num(1), null}, api.ErrType},
		{cols, []api.Val{num(api.MaxInt + 1), text("a"), yes, null}, api.ErrRange},
		{cols, []api.Val{num(1), num(api.MaxInt + 1), yes, null}, api.ErrRange},
		{cols, []api.Val{num(1), text(strings.Repeat("x", api.MaxText+1)), {}, null}, api.ErrMuch},
		{cols, []api.Val{num(1), text("a"), {Kind: api.VBool, N: -1}, null}, api.ErrRange},
		{cols, []api.Val{{}, text("a"), yes, null}, api.ErrKind},
		{cols, []api.Val{yes, {}, yes, null}, api.ErrType},
		{cols, []api.Val{num(1), {Kind: 5}, num(1), null}, api.ErrKind},
		{[]int{0, 5}, []api.Val{null, null}, api.OK}, // columns' own faults are Type's to tell
		{[]int{5}, []api.Val{num(1)}, api.ErrType},
		{[]int{5}, []api.Val{{Kind: 5}}, api.ErrKind},
		{slices.Repeat([]int{integer}, 40), slices.Repeat([]api.Val{num(1)}, 40), api.OK},
	} {
		if got := Fits(c.cols, c.row); got != c.want {
			t.Errorf("%#v in %v: error %d comes, not %d", c.row, c.cols, got, c.want)
		}
	}
}

func TestC2EvalWrong(t *testing.T) {
	cols := []int{integer, texts}
	right, unfit := []api.Val{num(1), text("a")}, []api.Val{num(1)}
	checkEvalError(t, slices.Repeat([]int{integer}, 2*api.MaxCols+1), api.Expr{}, nil, api.ErrMany)
	checkEvalError(t, []int{integer, 7}, api.Expr{}, unfit, api.ErrKind)
	checkEvalError(t, cols, node(api.XNot), unfit, api.ErrMany)
	checkEvalError(t, cols, col(2), right, api.ErrName)
	checkEvalError(t, cols, node(api.XAdd, col(0), col(1)), unfit, api.ErrType)
	checkEvalError(t, cols, nested(col(0), api.MaxDeep), right, api.ErrMuch)
	checkEvalError(t, cols, lit(num(1)), unfit, api.ErrFit)
	checkEvalError(t, cols, lit(num(1)), nil, api.ErrFit)
	checkEvalError(t, cols, lit(num(1)), []api.Val{num(1), num(2)}, api.ErrType)
	checkEvalError(t, cols, lit(num(1)), []api.Val{num(1), {}}, api.ErrKind)
	checkEvalError(t, cols, lit(num(1)), []api.Val{num(-api.MaxInt - 1), {}}, api.ErrRange)
	// What isn't asked for must be right all the same.
	checkEvalError(t, cols, node(api.XCase, lit(yes), col(0), lit(num(api.MaxInt+1))), right, api.ErrRange)
	checkEvalError(t, cols, node(api.XCoal, col(0), col(2)), right, api.ErrName)
}

func TestC2Eval(t *testing.T) {
	cols := []int{integer, texts, boolean, none}
	row := []api.Val{{Kind: api.VInt, N: 5, Text: "junk"}, {Kind: api.VText, N: 9, Text: "a"}, {Kind: api.VBool, N: 1, Text: "junk"}, {Kind: api.VNull, N: 3, Text: "junk"}}
	huge, long := lit(num(api.MaxInt)), lit(text(strings.Repeat("x", api.MaxText)))
	for _, c := range []struct {
		x    api.Expr
		want api.Val
	}{
		{col(0), num(5)},
		{col(1), text("a")},
		{col(2), yes},
		{col(3), null},
		{lit(api.Val{Kind: api.VInt, N: -2, Text: "junk"}), num(-2)},
		{lit(api.Val{Kind: api.VText, N: -2, Text: "q"}), text("q")},
		{lit(api.Val{Kind: api.VNull, N: -2, Text: "q"}), null},
		{node(api.XNot, col(2)), no},
		{node(api.XNot, col(3)), null},
		{node(api.XIsNull, col(3)), yes},
		{node(api.XIsNull, col(0)), no},
		{node(api.XIsNull, node(api.XAdd, huge, lit(num(1)))), yes},
		{node(api.XAdd, col(0), lit(num(-7))), num(-2)},
		{node(api.XSub, col(0), lit(num(7))), num(-2)},
		{node(api.XSub, lit(num(7)), col(0)), num(2)},
		{node(api.XMul, col(0), lit(num(-7))), num(-35)},
		{node(api.XMul, col(0), huge), null},
		{node(api.XAdd, huge, col(0)), null},
		{node(api.XSub, huge, col(0)), num(api.MaxInt - 5)},
		{node(api.XAdd, col(0), col(3)), null},
		{node(api.XCat, col(1), lit(text("bc"))), text("abc")},
		{node(api.XCat, lit(text("bc")), col(1)), text("bca")},
		{node(api.XCat, long, lit(text(""))), long.Val},
		{node(api.XCat, long, col(1)), null},
		{node(api.XCat, col(3), col(1)), null},
		{node(api.XCase, col(2), col(0), lit(num(1))), num(5)},
		{node(api.XCase, node(api.XNot, col(2)), col(0), lit(num(1))), num(1)},
		{node(api.XCase, col(3), col(0), lit(num(1))), num(1)},
		{node(api.XCase, col(2), col(3), lit(num(1))), null},
		{node(api.XCoal, col(0), lit(num(1))), num(5)},
		{node(api.XCoal, col(3), col(1)), text("a")},
		{node(api.XCoal, col(3), lit(null)), null},
		{node(api.XCoal, lit(no), col(2)), no},
		{node(api.XEq, col(3), col(3)), null},
		{node(api.XAnd, lit(no), col(3)), no},
		{node(api.XOr, col(3), col(2)), yes},
		{nested(col(3), api.MaxDeep-1), no},
		{truths(api.MaxNodes), no},
	} {
		checkEval(t, cols, c.x, row, c.want)
	}
	checkEval(t, nil, lit(num(2)), nil, num(2))
	checkEval(t, []int{}, lit(num(2)), []api.Val{}, num(2))
}

// Three words say how two numbers stand to each other, and what each kind makes of that.
func TestC2Order(t *testing.T) {
	less, same, more := [2]api.Val{num(1), num(2)}, [2]api.Val{num(2), num(2)}, [2]api.Val{num(3), num(2)}
	for kind, want := range map[int][3]api.Val{
		api.XEq: {no, yes, no}, api.XNe: {yes, no, yes}, api.XLt: {yes, no, no}, api.XLe: {yes, yes, no}, api.XGt: {no, no, yes}, api.XGe: {no, yes, yes},
	} {
		for i, pair := range [][2]api.Val{less, same, more} {
			checkEval(t, []int{integer, integer}, node(kind, col(0), col(1)), pair[:], want[i])
		}
		for i, pair := range [][2]string{{"ab", "b"}, {"b", "b"}, {"b", "ab"}} {
			checkEval(t, nil, node(kind, lit(text(pair[0])), lit(text(pair[1]))), nil, want[i])
		}
		for i, pair := range [][2]api.Val{{no, yes}, {yes, yes}, {yes, no}} {
			checkEval(t, nil, node(kind, lit(pair[0]), lit(pair[1])), nil, want[i])
		}
		for _, pair := range [][2]api.Val{{null, num(1)}, {num(1), null}, {null, null}} {
			checkEval(t, []int{integer, integer}, node(kind, col(0), col(1)), pair[:], null)
		}
	}
}

func TestC2Truths(t *testing.T) {
	all := []api.Val{no, null, yes}
	for i, a := range all {
		checkEval(t, []int{boolean}, node(api.XNot, col(0)), []api.Val{a}, all[2-i])
		for j, b := range all {
			checkEval(t, []int{boolean, boolean}, node(api.XAnd, col(0), col(1)), []api.Val{a, b}, all[min(i, j)])
			checkEval(t, []int{boolean, boolean}, node(api.XOr, col(0), col(1)), []api.Val{a, b}, all[max(i, j)])
		}
	}
}

// maker makes expressions, the same ones in each run.
type maker struct{ state uint32 }

func (m *maker) upTo(n int) int {
	m.state = m.state*1664525 + 1013904223
	return int(m.state>>16) % n
}

func (m *maker) val() api.Val {
	return []api.Val{null, no, yes, num(0), num(-3), num(api.MaxInt), text(""), text("ab"), text(strings.Repeat("y", 40)), {Kind: api.VInt, N: 4, Text: "junk"}}[m.upTo(10)]
}

func (m *maker) expr(cols, deep int) api.Expr {
	if deep == 0 || m.upTo(4) == 0 {
		if m.upTo(2) == 0 {
			return lit(m.val())
		}
		return col(m.upTo(cols))
	}
	kind := api.XNot + m.upTo(api.XCoal-api.XNot+1)
	x := api.Expr{Kind: kind, Val: m.val(), Col: m.upTo(9)}
	for range KidsOf(kind) {
		x.Kids = append(x.Kids, m.expr(cols, deep-1))
	}
	return x
}

// What is well typed goes not wrong: it comes to a right and bare value of its type, or to what is not known.
func TestC2GoesNotWrong(t *testing.T) {
	m := maker{state: 5}
	cols := []int{integer, texts, boolean, none, integer}
	rows := [][]api.Val{{num(1), text("a"), yes, null, null}, {null, null, null, null, null}, {num(api.MaxInt), text(strings.Repeat("z", api.MaxText)), no, null, num(-api.MaxInt)}}
	good := 0
	for range 20000 {
		x := m.expr(len(cols), 3)
		kind, err := Type(cols, x)
		if err != api.OK {
			checkEvalError(t, cols, x, rows[0], err)
			continue
		}
		good++
		for _, row := range rows {
			v, err := Eval(cols, x, row)
			if err != api.OK || vals.Wrong(v) != api.OK || vals.Bare(v) != v || v.Kind != api.VNull && v.Kind != kind {
				t.Errorf("%#v of %#v, of type %d: %#v and error %d come", x, row, kind, v, err)
			}
		}
	}
	if good < 1000 {
		t.Errorf("only %d expressions have a type", good)
	}
}

// What is ready says of each row what Eval says, and is looked through no more.
func TestC2Ready(t *testing.T) {
	m := maker{state: 6}
	cols := []int{integer, texts, boolean, none, integer}
	rows := [][]api.Val{{num(1), text("a"), yes, null, null}, {null, null, null, null, null}, {num(-3), {Kind: api.VText, N: 2}, no, null, {Kind: api.VInt, N: 4, Text: "junk"}}}
	for range 5000 {
		x := m.expr(len(cols), 3)
		wantKind, wantErr := Type(cols, x)
		kind, value, err := Ready(cols, x)
		if kind != wantKind || err != wantErr || (value == nil) != (err != api.OK) {
			t.Errorf("%#v: type %d and error %d come, not type %d and error %d", x, kind, err, wantKind, wantErr)
		}
		for _, row := range rows {
			if want, err := Eval(cols, x, row); err == api.OK && value(row) != want {
				t.Errorf("%#v of %#v: %#v comes, not %#v", x, row, value(row), want)
			}
		}
		if err == api.OK {
			value(nil) // a row that doesn't fit: nothing panics
			value(make([]api.Val, 2))
		}
	}
}

func TestC2ReadyKeepsNothing(t *testing.T) {
	row := []api.Val{num(7)}
	inner := []api.Expr{col(0), lit(num(1))}
	kids := []api.Expr{{Kind: api.XAdd, Kids: inner}, lit(num(3))}
	_, value, err := Ready([]int{integer}, api.Expr{Kind: api.XMul, Kids: kids})
	inner[0], inner[1], kids[0], kids[1] = lit(null), api.Expr{}, api.Expr{Kind: 99}, col(5)
	if err != api.OK || value(row) != num(24) || value(row) != num(24) {
		t.Errorf("error %d, or %#v, comes, not 24", err, value(row))
	}
	row[0] = num(9)
	if value(row) != num(30) {
		t.Errorf("of a row that has changed %#v comes, not 30", value(row))
	}
}

func TestZ1NothingPanics(t *testing.T) {
	m := maker{state: 9}
	odd := []int{math.MinInt, -1, 0, 1, 2, 3, 4, 5, 17, 19, math.MaxInt}
	pick := func() int { return odd[m.upTo(len(odd))] }
	for range 5000 {
		x := m.expr(3, 2)
		for _, at := range []*int{&x.Kind, &x.Col, &x.Val.Kind} {
			if m.upTo(2) == 0 {
				*at = pick()
			}
		}
		if len(x.Kids) > 0 && m.upTo(2) == 0 {
			x.Kids[0].Kind = pick()
		}
		cols := make([]int, m.upTo(4))
		row := make([]api.Val, m.upTo(4))
		for i := range cols {
			cols[i] = pick()
		}
		for i := range row {
			row[i] = api.Val{Kind: pick(), N: int64(pick())}
		}
		kind, typeErr := Type(cols, x)
		v, err := Eval(cols, x, row)
		switch fit := Fits(cols, row); {
		case typeErr != api.OK:
			if kind != 0 || err != typeErr || v != (api.Val{}) {
				t.Errorf("%#v: type %d, %#v and error %d come, not error %d alone", x, kind, v, err, typeErr)
			}
		case err != fit || err != api.OK && v != (api.Val{}):
			t.Errorf("%#v: %#v and error %d come, not error %d", x, v, err, fit)
		}
	}
}

func TestZ2ArgumentsAreOnlyRead(t *testing.T) {
	junk := api.Val{Kind: 99, N: 7, Text: "behind"}
	make3 := func() ([]int, []api.Expr, []api.Val) {
		return []int{integer, texts, 99}, []api.Expr{col(0), lit(api.Val{Kind: api.VInt, N: 2, Text: "junk"}), {Kind: 99}}, []api.Val{{Kind: api.VInt, N: 1, Text: "junk"}, text("a"), junk}
	}
	cols, kids, row := make3()
	x := api.Expr{Kind: api.XAdd, Kids: kids[:2]}
	checkType(t, cols[:2], x, integer)
	checkEval(t, cols[:2], x, row[:2], num(3))
	if err := Fits(cols[:2], row[:2]); err != api.OK {
		t.Errorf("error %d comes of a row that fits", err)
	}
	oldCols, oldKids, oldRow := make3()
	if !slices.Equal(cols, oldCols) || !reflect.DeepEqual(kids, oldKids) || !slices.Equal(row, oldRow) {
		t.Errorf("what was handed in is changed: %v %#v %#v", cols, kids, row)
	}
}
