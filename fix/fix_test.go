package fix

import (
	"fmt"
	"slices"
	"strings"
	"testing"

	"tidemark/api"
)

type rows = []api.ZRow

const (
	none    = api.VNull
	boolean = api.VBool
	integer = api.VInt
	texts   = api.VText
	most    = api.MaxWeight
)

var (
	null = api.Val{Kind: api.VNull}
	yes  = api.Val{Kind: api.VBool, N: 1}
	no   = api.Val{Kind: api.VBool}
)

func num(n int64) api.Val   { return api.Val{Kind: api.VInt, N: n} }
func text(s string) api.Val { return api.Val{Kind: api.VText, Text: s} }

func row(w int64, l ...api.Val) api.ZRow { return api.ZRow{Row: l, W: w} }

func col(n int) api.Expr                       { return api.Expr{Kind: api.XCol, Col: n} }
func lit(v api.Val) api.Expr                   { return api.Expr{Kind: api.XLit, Val: v} }
func made(k int, kids ...api.Expr) api.Expr    { return api.Expr{Kind: k, Kids: kids} }
func these(l ...api.Expr) []api.Expr           { return l }
func same(a, b int) api.Expr                   { return made(api.XEq, col(a), col(b)) }
func isNull(n int) api.Expr                    { return made(api.XIsNull, col(n)) }
func more(n int) api.Expr                      { return made(api.XAdd, col(n), lit(num(1))) }
func below(n int, end int64) api.Expr          { return made(api.XLt, col(n), lit(num(end))) }
func agg(kind int, x api.Expr) api.Agg         { return api.Agg{Kind: kind, X: x} }
func plan(kind int, kids ...api.Plan) api.Plan { return api.Plan{Kind: kind, Kids: kids} }
func table(n int) api.Plan                     { return api.Plan{Kind: api.PTable, N: n} }

// by is a plan with a condition.
func by(kind int, x api.Expr, kids ...api.Plan) api.Plan {
	return api.Plan{Kind: kind, X: x, Kids: kids}
}

func filter(x api.Expr, p api.Plan) api.Plan           { return by(api.PFilter, x, p) }
func join(x api.Expr, first, second api.Plan) api.Plan { return by(api.PJoin, x, first, second) }
func semi(x api.Expr, first, second api.Plan) api.Plan { return by(api.PSemi, x, first, second) }

func mapped(p api.Plan, xs ...api.Expr) api.Plan {
	return api.Plan{Kind: api.PMap, Xs: xs, Kids: []api.Plan{p}}
}

func top(n int, p api.Plan, xs ...api.Expr) api.Plan {
	return api.Plan{Kind: api.PTop, N: n, Xs: xs, Kids: []api.Plan{p}}
}

func grouped(p api.Plan, xs []api.Expr, aggs ...api.Agg) api.Plan {
	return api.Plan{Kind: api.PGroup, Xs: xs, Aggs: aggs, Kids: []api.Plan{p}}
}

// nested is p below so many nodes that leave it as it is.
func nested(levels int, p api.Plan) api.Plan {
	for range levels {
		p = filter(lit(yes), p)
	}
	return p
}

// added is so many times p, added up: if p is a table, one node less than twice as many.
func added(times int, p api.Plan) api.Plan {
	if times == 1 {
		return p
	}
	return plan(api.PAdd, added(times/2, p), added(times-times/2, p))
}

// ones is rows of one number each, each once.
func ones(l ...int64) (out rows) {
	for _, n := range l {
		out = append(out, row(1, num(n)))
	}
	return out
}

// run is so many rows, each once, with the numbers from first on.
func run(first, n int64) (out rows) {
	for i := range n {
		out = append(out, row(1, num(first+i)))
	}
	return out
}

// edges is rows of two numbers each, each once.
func edges(l ...[2]int64) (out rows) {
	for _, e := range l {
		out = append(out, row(1, num(e[0]), num(e[1])))
	}
	return out
}

// told is z as a text, in which nil and a list without entries are the same.
func told(z rows) string {
	var out strings.Builder
	for _, r := range z {
		for _, v := range r.Row {
			fmt.Fprintf(&out, "{%d %d %q} ", v.Kind, v.N, v.Text)
		}
		fmt.Fprintf(&out, "times %d; ", r.W)
	}
	return out.String()
}

// given is all that a call may be given.
type given struct {
	tables     [][]int
	seed, step api.Plan
	data       []rows
}

// check: Fix tells these rows, and that it was done so often; so does Quick, if the step is plain.
func (g given) check(t *testing.T, what string, want rows, times int) {
	t.Helper()
	g.checkFix(t, what, want, times)
	if !isPlain(g.step, len(g.tables)) {
		g.checkQuick(t, what, api.ErrFit)
		return
	}
	got, err := Quick(g.tables, g.seed, g.step, g.data)
	if err != api.OK || told(got) != told(want) {
		t.Errorf("%s: error %d and %s come quickly, not %s", what, err, told(got), told(want))
	}
}

// checkFix: Fix tells these rows, and that it was done so often.
func (g given) checkFix(t *testing.T, what string, want rows, times int) {
	t.Helper()
	got, n, err := Fix(g.tables, g.seed, g.step, g.data)
	if err != api.OK || n != times || told(got) != told(want) {
		t.Errorf("%s: error %d and %s come, after %d times, not %s, after %d", what, err, told(got), n, told(want), times)
	}
}

// checkError: Fix tells this error, and nothing beside it.
func (g given) checkError(t *testing.T, what string, want api.Errno) {
	t.Helper()
	got, n, err := Fix(g.tables, g.seed, g.step, g.data)
	if err != want || n != 0 || got != nil {
		t.Errorf("%s: error %d and %s come, after %d times, not error %d alone", what, err, told(got), n, want)
	}
}

// checkWrong: both tell this error, and nothing beside it.
func (g given) checkWrong(t *testing.T, what string, want api.Errno) {
	t.Helper()
	g.checkError(t, what, want)
	g.checkQuick(t, what, want)
}

// checkQuick: Quick tells this error, and nothing beside it.
func (g given) checkQuick(t *testing.T, what string, want api.Errno) {
	t.Helper()
	got, err := Quick(g.tables, g.seed, g.step, g.data)
	if err != want || got != nil {
		t.Errorf("%s: error %d and %s come quickly, not error %d alone", what, err, told(got), want)
	}
}

// ways is all ways along edges: one more edge behind those that are there.
func ways() api.Plan { return mapped(join(same(1, 2), table(1), table(0)), col(0), col(3)) }

func along(edges rows) given {
	return given{[][]int{{integer, integer}}, table(0), ways(), []rows{edges}}
}

func TestJ1Ways(t *testing.T) {
	along(nil).check(t, "no edge", nil, 1)
	along(edges([2]int64{1, 2})).check(t, "an edge", edges([2]int64{1, 2}), 1)
	two := edges([2]int64{1, 2}, [2]int64{2, 3})
	along(two).check(t, "two edges, one behind the other, are three ways", edges([2]int64{1, 2}, [2]int64{1, 3}, [2]int64{2, 3}), 2)
	along(edges([2]int64{1, 1})).check(t, "an edge to where it begins", edges([2]int64{1, 1}), 1)
	var ring, all rows
	for i := range int64(5) {
		ring = append(ring, row(i+1, num(i), num((i+1)%5)))
		for j := range int64(5) {
			all = append(all, row(1, num(i), num(j)))
		}
	}
	along(ring).check(t, "a ring, each edge more than once", all, 5)
	unknown := rows{row(1, null, num(1)), row(1, num(1), null), row(1, num(2), num(3))}
	along(unknown).check(t, "what is not known leads nowhere", rows{row(1, null, null), unknown[0], unknown[1], unknown[2]}, 2)
}

// climbing is the numbers from those of z on, up to end.
func climbing(z rows, end int64) given {
	step := mapped(filter(below(0, end), table(1)), more(0))
	return given{[][]int{{integer}}, table(0), step, []rows{z}}
}

func TestJ1HowOften(t *testing.T) {
	climbing(nil, 9).check(t, "nothing", nil, 1)
	climbing(ones(9), 9).check(t, "nothing is new", ones(9), 1)
	climbing(ones(8), 9).check(t, "one is new", ones(8, 9), 2)
	climbing(ones(0, 4), 9).check(t, "some meet others", run(0, 10), 6)
	climbing(ones(0), api.MaxRounds-2).check(t, "nearly as often as may be", run(0, api.MaxRounds-1), api.MaxRounds-1)
	climbing(ones(0), api.MaxRounds-1).check(t, "as often as may be", run(0, api.MaxRounds), api.MaxRounds)
	climbing(ones(0), api.MaxRounds).checkError(t, "too often by one", api.ErrSteps)
	climbing(ones(0), 1000).checkError(t, "too often by far", api.ErrSteps)
	climbing(ones(0), api.MaxInt).checkError(t, "without an end", api.ErrSteps)
	// A sum that is too large is not known, nor is one more.
	end := given{[][]int{{integer}}, table(0), mapped(table(1), more(0)), []rows{ones(api.MaxInt - 1)}}
	end.check(t, "to the end of numbers", rows{row(1, null), row(1, num(api.MaxInt-1)), row(1, num(api.MaxInt))}, 3)
}

// What is there is there once, however often seed or step tells it, and stays, whatever goes.
func TestJ1Distinct(t *testing.T) {
	mixed := rows{row(3, num(1)), row(-2, num(2)), row(most, num(3))}
	climbing(mixed, 5).check(t, "seed's weights", ones(1, 2, 3, 4, 5), 3)
	tables := [][]int{{integer}, {integer}}
	data := []rows{mixed, {row(9, num(1)), row(-9, num(3)), row(7, num(4)), row(-1, num(5))}}
	for _, c := range []struct {
		what       string
		seed, step api.Plan
		want       rows
		times      int
	}{
		{"what is there already", table(0), table(2), ones(1, 3), 1},
		{"step's weights", table(0), table(1), ones(1, 3, 4), 2},
		{"seed's weights again", table(1), table(0), ones(1, 3, 4), 2},
		{"as often as may be, and once more", table(1), plan(api.PDistinct, table(2)), ones(1, 4), 1},
		{"all goes", table(0), plan(api.PSub, filter(lit(no), table(2)), table(2)), ones(1, 3), 1},
		{"more goes than comes", table(0), plan(api.PSub, table(1), table(2)), ones(1, 3, 4), 2},
		{"what goes comes by going", table(0), plan(api.PSub, table(2), table(1)), ones(1, 3, 5), 2},
		{"a pair of what goes twice", table(0), mapped(join(lit(yes), table(1), filter(made(api.XEq, col(0), lit(num(2))), table(0))), more(0)), ones(1, 3, 4, 6), 2},
	} {
		given{tables, c.seed, c.step, data}.checkFix(t, c.what, c.want, c.times)
	}
}

// Steps need not be plain: what was there once stays there, even if step would not tell it any more.
func TestJ1NotPlain(t *testing.T) {
	tables := [][]int{{integer}}
	count := grouped(table(1), nil, agg(api.AgRows, api.Expr{}))
	for _, c := range []struct {
		what       string
		seed, step api.Plan
		data       rows
		want       rows
		times      int
	}{
		{"how many there are, up to 9", table(0), filter(below(0, 10), count), ones(0), run(0, 10), 10},
		{"how many there are of none, of one, and of both", filter(lit(no), table(0)), filter(below(0, 2), count), nil, ones(0, 1), 3},
		{"those that are not there", filter(lit(no), table(0)), by(api.PAnti, same(0, 1), table(0), table(1)), ones(1, 2), ones(1, 2), 2},
		{"the next one, by what is greatest", table(0), filter(below(0, 6), mapped(grouped(table(1), nil, agg(api.AgMax, col(0))), more(0))), ones(1, 3), ones(1, 3, 4, 5), 3},
		{"of the first one alone", table(0), mapped(top(1, table(1), col(0)), more(0)), ones(1, 5), ones(1, 2, 5), 2},
		{"sums of two", table(0), filter(below(0, 9), mapped(join(lit(yes), table(1), table(1)), made(api.XAdd, col(0), col(1)))), ones(2, 3), ones(2, 3, 4, 5, 6, 7, 8), 3},
		{"two steps together", table(0), plan(api.PAdd, filter(below(0, 4), mapped(table(1), more(0))), filter(below(0, 8), mapped(table(1), made(api.XMul, col(0), lit(num(2)))))), ones(1), ones(1, 2, 3, 4, 6), 4},
		{"with what is not known", table(0), mapped(by(api.PLeft, made(api.XLt, col(0), col(1)), table(1), table(0)), col(1)), ones(1, 2), rows{row(1, null), row(1, num(1)), row(1, num(2))}, 2},
		{"step hangs on nothing of its own", filter(lit(no), table(0)), table(0), ones(1, 2), ones(1, 2), 2},
	} {
		given{tables, c.seed, c.step, []rows{c.data}}.check(t, c.what, c.want, c.times)
	}
}

// The last table stands behind all others, and has seed's columns; seed may ask for several tables.
func TestJ1Columns(t *testing.T) {
	tables := [][]int{{integer}, {boolean, texts}}
	names := rows{row(1, no, text("b")), row(2, yes, text("a"))}
	data := []rows{ones(1, 2), names}
	seed := mapped(join(lit(yes), table(0), table(1)), col(0), col(2), col(1), lit(null))
	last := mapped(filter(below(0, 2), table(2)), more(0), made(api.XCat, col(1), col(1)), made(api.XNot, col(2)), col(3))
	given{tables, seed, last, data}.check(t, "columns of each type", rows{
		row(1, num(1), text("a"), yes, null), row(1, num(1), text("b"), no, null),
		row(1, num(2), text("a"), yes, null), row(1, num(2), text("aa"), no, null),
		row(1, num(2), text("b"), no, null), row(1, num(2), text("bb"), yes, null),
	}, 2)
	given{nil, mapped(grouped(table(0), nil)), table(0), nil}.checkWrong(t, "seed of its own rows", api.ErrName)
	nothing := [][]int{{}}
	given{nothing, table(0), table(1), []rows{{row(5)}}}.check(t, "no columns", rows{row(1)}, 1)
	given{nothing, table(0), grouped(table(1), nil), []rows{nil}}.check(t, "no columns, and a row comes", rows{row(1)}, 2)
	many := slices.Repeat([][]int{{integer}}, api.MaxTables-1)
	full := slices.Repeat([]rows{ones(1)}, api.MaxTables-1)
	given{many, table(0), table(api.MaxTables - 1), full}.check(t, "as many tables as may be", ones(1), 1)
	wide := slices.Repeat([]int{integer}, api.MaxCols)
	one := row(1, slices.Repeat([]api.Val{num(1)}, api.MaxCols)...)
	given{[][]int{wide}, table(0), table(1), []rows{{one}}}.check(t, "as many columns as may be", rows{one}, 1)
}
