package query

import (
	"fmt"
	"math"
	"slices"
	"strings"
	"testing"

	"tidemark/api"
	"tidemark/vals"
	"tidemark/zsets"
)

type rows = []api.ZRow

const (
	none    = api.VNull
	boolean = api.VBool
	integer = api.VInt
	texts   = api.VText
	most    = api.MaxWeight
)

var (
	null = api.Val{Kind: api.VNull}
	yes  = api.Val{Kind: api.VBool, N: 1}
	no   = api.Val{Kind: api.VBool}
)

func num(n int64) api.Val   { return api.Val{Kind: api.VInt, N: n} }
func text(s string) api.Val { return api.Val{Kind: api.VText, Text: s} }

func row(w int64, l ...api.Val) api.ZRow { return api.ZRow{Row: l, W: w} }

func col(n int) api.Expr                       { return api.Expr{Kind: api.XCol, Col: n} }
func lit(v api.Val) api.Expr                   { return api.Expr{Kind: api.XLit, Val: v} }
func made(k int, kids ...api.Expr) api.Expr    { return api.Expr{Kind: k, Kids: kids} }
func these(l ...api.Expr) []api.Expr           { return l }
func same(a, b int) api.Expr                   { return made(api.XEq, col(a), col(b)) }
func agg(kind int, x api.Expr) api.Agg         { return api.Agg{Kind: kind, X: x} }
func ints(n int) []int                         { return slices.Repeat([]int{integer}, n) }
func plan(kind int, kids ...api.Plan) api.Plan { return api.Plan{Kind: kind, Kids: kids} }
func table(n int) api.Plan                     { return api.Plan{Kind: api.PTable, N: n} }

// by is a plan with a condition.
func by(kind int, x api.Expr, kids ...api.Plan) api.Plan {
	return api.Plan{Kind: kind, X: x, Kids: kids}
}

func mapped(p api.Plan, xs ...api.Expr) api.Plan {
	return api.Plan{Kind: api.PMap, Xs: xs, Kids: []api.Plan{p}}
}

func top(n int, p api.Plan, xs ...api.Expr) api.Plan {
	return api.Plan{Kind: api.PTop, N: n, Xs: xs, Kids: []api.Plan{p}}
}

func grouped(p api.Plan, xs []api.Expr, aggs ...api.Agg) api.Plan {
	return api.Plan{Kind: api.PGroup, Xs: xs, Aggs: aggs, Kids: []api.Plan{p}}
}

// nested is p with so many nodes above it.
func nested(above int, p api.Plan) api.Plan {
	for range above {
		p = plan(api.PDistinct, p)
	}
	return p
}

// sized is a plan of table n that has so many nodes.
func sized(nodes, n int) api.Plan {
	switch nodes {
	case 1:
		return table(n)
	case 2:
		return plan(api.PPositive, table(n))
	}
	left := (nodes - 1) / 2
	return plan(api.PAdd, sized(left, n), sized(nodes-1-left, n))
}

func pairKinds() []int { return []int{api.PJoin, api.PSemi, api.PAnti, api.PLeft} }

// told is z as a text, in which nil and a list without entries are the same.
func told(z rows) string {
	var out strings.Builder
	for _, r := range z {
		for _, v := range r.Row {
			fmt.Fprintf(&out, "{%d %d %q} ", v.Kind, v.N, v.Text)
		}
		fmt.Fprintf(&out, "times %d; ", r.W)
	}
	return out.String()
}

func checkCols(t *testing.T, what string, tables [][]int, p api.Plan, want ...int) {
	t.Helper()
	got, err := Cols(tables, p)
	if err != api.OK || !slices.Equal(got, want) {
		t.Errorf("%s: columns %d and error %d come, not %d", what, got, err, want)
	}
}

// checkWrong asks of both calls; what is wrong with data is told behind what is wrong with a plan.
func checkWrong(t *testing.T, what string, tables [][]int, p api.Plan, want api.Errno) {
	t.Helper()
	cols, err := Cols(tables, p)
	if err != want || cols != nil {
		t.Errorf("%s: columns %d and error %d come, not error %d alone", what, cols, err, want)
	}
	bad := slices.Repeat([]rows{{row(0, api.Val{})}}, len(tables))
	for _, data := range [][]rows{nil, bad, make([]rows, len(tables)), make([]rows, len(tables)+1)} {
		got, err := Eval(tables, p, data)
		checkError(t, what, got, err, want)
	}
}

func check(t *testing.T, what string, got rows, err api.Errno, want rows) {
	t.Helper()
	if err != api.OK {
		t.Errorf("%s: error %d comes, not %s", what, err, told(want))
	} else if told(got) != told(want) {
		t.Errorf("%s: %s comes, not %s", what, told(got), told(want))
	}
}

func checkError(t *testing.T, what string, got rows, err, want api.Errno) {
	t.Helper()
	if err != want || got != nil {
		t.Errorf("%s: error %d and %s come, not error %d alone", what, err, told(got), want)
	}
}

func TestE1Tables(t *testing.T) {
	for _, c := range []struct {
		tables [][]int
		want   api.Errno
	}{
		{make([][]int, api.MaxTables+1), api.ErrMany},
		{slices.Repeat([][]int{{0}}, api.MaxTables+1), api.ErrMany},
		{[][]int{ints(api.MaxCols + 1)}, api.ErrMany},
		{[][]int{make([]int, api.MaxCols+1)}, api.ErrMany},
		{[][]int{{integer}, ints(api.MaxCols + 1), {0}}, api.ErrMany},
		{[][]int{{integer, 0}, ints(api.MaxCols + 1)}, api.ErrKind},
		{[][]int{{none, boolean, integer, texts, 5}}, api.ErrKind},
		{[][]int{{integer}, {-1}}, api.ErrKind},
		{[][]int{{math.MaxInt, integer}}, api.ErrKind},
		{[][]int{{math.MinInt}}, api.ErrKind},
	} {
		for _, p := range []api.Plan{table(0), {}, table(-1), nested(api.MaxNest, table(0)), by(api.PFilter, col(0), table(0))} {
			checkWrong(t, fmt.Sprint("tables ", c.tables), c.tables, p, c.want)
		}
	}
	full := slices.Repeat([][]int{{none, boolean, integer, texts, none, boolean, integer, texts}}, api.MaxTables)
	for i := range full {
		checkCols(t, "a table of all types", full, table(i), full[i]...)
	}
}

func TestE1TableNumbers(t *testing.T) {
	tables := [][]int{{integer, texts}, {}, {boolean}}
	checkCols(t, "the first table", tables, table(0), integer, texts)
	checkCols(t, "a table without columns", tables, table(1))
	checkCols(t, "the last table", tables, table(2), boolean)
	for _, n := range []int{-1, 3, math.MinInt, math.MaxInt} {
		checkWrong(t, fmt.Sprint("table ", n), tables, table(n), api.ErrName)
		checkWrong(t, fmt.Sprint("below a node table ", n), tables, plan(api.PDistinct, table(n)), api.ErrName)
	}
	checkWrong(t, "a table of none", nil, table(0), api.ErrName)
}

func TestE1Kinds(t *testing.T) {
	tables := [][]int{{integer}}
	for _, kind := range []int{0, -1, api.PTop + 1, math.MinInt, math.MaxInt} {
		for n := range 4 {
			checkWrong(t, fmt.Sprint("kind ", kind), tables, plan(kind, slices.Repeat([]api.Plan{table(9)}, n)...), api.ErrKind)
		}
	}
}

func TestE1KidsCounts(t *testing.T) {
	tables := [][]int{{integer}}
	counts := map[int]int{api.PTable: 0, api.PFilter: 1, api.PMap: 1, api.PJoin: 2, api.PSemi: 2, api.PAnti: 2, api.PLeft: 2, api.PAdd: 2, api.PSub: 2, api.PPositive: 1, api.PDistinct: 1, api.PGroup: 1, api.PTop: 1}
	for kind := api.PTable; kind <= api.PTop; kind++ {
		for n := range 5 {
			// Kids that are wrong themselves are not asked, if there are too many of them, or too few.
			kids := slices.Repeat([]api.Plan{{}}, n)
			if n != counts[kind] {
				checkWrong(t, fmt.Sprint("kind ", kind, " with kids: ", n), tables, plan(kind, kids...), api.ErrMany)
				continue
			}
			kids = slices.Repeat([]api.Plan{table(0)}, n)
			p := by(kind, lit(yes), kids...)
			if _, err := Cols(tables, p); err != api.OK {
				t.Errorf("kind %d with kids: %d: error %d comes", kind, n, err)
			}
		}
	}
}

func TestE1Much(t *testing.T) {
	tables := [][]int{{integer}}
	checkCols(t, "as deep as may be", tables, nested(api.MaxNest-1, table(0)), integer)
	checkWrong(t, "too deep", tables, nested(api.MaxNest, table(0)), api.ErrMuch)
	checkWrong(t, "too deep, and no kind", tables, nested(api.MaxNest, api.Plan{}), api.ErrMuch)
	checkWrong(t, "as deep as may be, and no kind", tables, nested(api.MaxNest-1, api.Plan{}), api.ErrKind)
	checkWrong(t, "too deep on the right", tables, plan(api.PAdd, table(0), nested(api.MaxNest-1, table(0))), api.ErrMuch)
	checkCols(t, "as many nodes as may be", tables, sized(api.MaxPlan, 0), integer)
	checkWrong(t, "too many nodes", tables, sized(api.MaxPlan+1, 0), api.ErrMuch)
	checkWrong(t, "too many nodes, the last one no kind", tables, plan(api.PAdd, sized(api.MaxPlan-1, 0), api.Plan{}), api.ErrMuch)
	checkWrong(t, "as many nodes as may be, the last one no kind", tables, plan(api.PAdd, sized(api.MaxPlan-2, 0), api.Plan{}), api.ErrKind)
	checkCols(t, "as many nodes as may be, on the right", tables, plan(api.PAdd, table(0), sized(api.MaxPlan-2, 0)), integer)
	// A plan without an end is too deep, and as wide as it is.
	endless := plan(api.PAdd, table(0), table(0))
	endless.Kids[0], endless.Kids[1] = endless, endless
	checkWrong(t, "a plan without an end", tables, endless, api.ErrMuch)
}

func TestE1Order(t *testing.T) {
	tables := [][]int{{integer}, {texts}}
	clash := plan(api.PAdd, table(0), table(1))
	for _, c := range []struct {
		what string
		p    api.Plan
		want api.Errno
	}{
		{"a node is asked ahead of its kids", plan(api.PFilter, api.Plan{}, api.Plan{}), api.ErrMany},
		{"kids are asked ahead of what a node asks of them", by(api.PFilter, api.Expr{}, table(9)), api.ErrName},
		{"the first kid is asked first", plan(api.PAdd, table(9), api.Plan{}), api.ErrName},
		{"the first kid is asked as a whole", plan(api.PAdd, clash, api.Plan{}), api.ErrType},
		{"the second kid is asked ahead of both together", by(api.PJoin, api.Expr{}, table(0), table(9)), api.ErrName},
		{"the second kid is asked as a whole", by(api.PSemi, api.Expr{}, table(0), clash), api.ErrType},
		{"what comes first is told, not what is too much", plan(api.PAdd, clash, nested(api.MaxNest, table(0))), api.ErrType},
		{"what comes first is too much", plan(api.PAdd, nested(api.MaxNest, table(0)), clash), api.ErrMuch},
		{"what is wrong below is told, not what is wrong above", top(-1, mapped(table(0), col(1))), api.ErrName},
		{"too many nodes are told ahead of what they ask", plan(api.PAdd, sized(api.MaxPlan, 0), clash), api.ErrMuch},
		{"too many nodes are told behind what a kid asks", plan(api.PAdd, by(api.PFilter, col(0), table(0)), sized(api.MaxPlan, 0)), api.ErrType},
	} {
		checkWrong(t, c.what, tables, c.p, c.want)
	}
}

func TestE1OfOne(t *testing.T) {
	tables := [][]int{{integer, texts, boolean, none}}
	for _, c := range []struct {
		p    api.Plan
		want []int
	}{
		{by(api.PFilter, col(2), table(0)), tables[0]},
		{by(api.PFilter, col(3), table(0)), tables[0]},
		{by(api.PFilter, lit(null), table(0)), tables[0]},
		{mapped(table(0)), nil},
		{mapped(table(0), col(1), col(3), col(0), col(2)), []int{texts, none, integer, boolean}},
		{mapped(table(0), made(api.XAdd, col(0), col(3)), made(api.XEq, col(1), col(1)), lit(text("a")), lit(null)), []int{integer, boolean, texts, none}},
		{mapped(table(0), slices.Repeat(these(col(1)), api.MaxCols)...), slices.Repeat([]int{texts}, api.MaxCols)},
		{plan(api.PPositive, table(0)), tables[0]},
		{plan(api.PDistinct, table(0)), tables[0]},
		{top(0, table(0)), tables[0]},
		{top(api.MaxTop, table(0), col(3), col(1)), tables[0]},
		{grouped(table(0), nil), nil},
		{grouped(table(0), these(col(3), col(1), made(api.XIsNull, col(0)))), []int{none, texts, boolean}},
		{grouped(table(0), these(col(1)), agg(api.AgRows, api.Expr{}), agg(api.AgCount, col(1)), agg(api.AgSum, col(0)), agg(api.AgMin, col(1)), agg(api.AgMax, col(2))), []int{texts, integer, integer, integer, texts, boolean}},
		{grouped(table(0), nil, agg(api.AgSum, col(3)), agg(api.AgMax, col(3)), agg(api.AgMin, col(0)), agg(api.AgCount, col(3)), agg(api.AgMax, lit(text("")))), []int{integer, none, integer, integer, texts}},
		{grouped(table(0), these(col(0), col(0), col(0), col(0)), agg(api.AgRows, col(9)), agg(api.AgMin, col(2)), agg(api.AgMin, col(2)), agg(api.AgMin, col(2))), []int{integer, integer, integer, integer, integer, boolean, boolean, boolean}},
		// Columns are those of the kid, not those of a table.
		{by(api.PFilter, col(1), mapped(table(0), col(0), col(2))), []int{integer, boolean}},
		{top(3, grouped(table(0), these(col(1)), agg(api.AgMax, col(2))), col(1)), []int{texts, boolean}},
		{mapped(mapped(table(0), col(1), col(0)), made(api.XCat, col(0), col(0)), made(api.XSub, col(1), col(1))), []int{texts, integer}},
	} {
		checkCols(t, fmt.Sprint("kind ", c.p.Kind), tables, c.p, c.want...)
	}
}

func TestE1OfOneWrong(t *testing.T) {
	tables := [][]int{{integer, texts, boolean, none}}
	long := lit(text(strings.Repeat("x", api.MaxText+1)))
	for _, x := range []struct {
		x    api.Expr
		want api.Errno
	}{
		{api.Expr{}, api.ErrKind},
		{col(4), api.ErrName},
		{made(api.XNot), api.ErrMany},
		{long, api.ErrMuch},
		{made(api.XNot, col(0)), api.ErrType},
	} {
		checkWrong(t, "PFilter", tables, by(api.PFilter, x.x, table(0)), x.want)
		checkWrong(t, "PMap", tables, mapped(table(0), col(0), x.x, api.Expr{}), x.want)
		checkWrong(t, "PTop", tables, top(-1, table(0), col(0), x.x, api.Expr{}), x.want)
		checkWrong(t, "PGroup", tables, grouped(table(0), these(col(0), x.x, api.Expr{}), api.Agg{}), x.want)
		checkWrong(t, "PGroup by aggregates", tables, grouped(table(0), nil, agg(api.AgMin, x.x), api.Agg{}), x.want)
	}
	checkWrong(t, "PFilter by a number", tables, by(api.PFilter, col(0), table(0)), api.ErrType)
	checkWrong(t, "PFilter by a text", tables, by(api.PFilter, lit(text("")), table(0)), api.ErrType)
	many := make([]api.Expr, api.MaxCols+1)
	checkWrong(t, "PMap", tables, mapped(table(0), many...), api.ErrMany)
	checkWrong(t, "PTop", tables, top(-1, table(0), many...), api.ErrMany)
	checkWrong(t, "PGroup", tables, grouped(table(0), many), api.ErrMany)
	checkWrong(t, "PGroup", tables, grouped(table(0), many[:5], make([]api.Agg, 4)...), api.ErrMany)
	for _, n := range []int{-1, api.MaxTop + 1, math.MinInt, math.MaxInt} {
		checkWrong(t, "PTop", tables, top(n, table(0), col(0)), api.ErrRange)
	}
	checkWrong(t, "PGroup without such a kind", tables, grouped(table(0), nil, agg(6, col(9))), api.ErrKind)
	checkWrong(t, "PGroup by a sum of texts", tables, grouped(table(0), nil, agg(api.AgSum, col(1)), api.Agg{}), api.ErrType)
	checkWrong(t, "PGroup by a sum of what is true", tables, grouped(table(0), nil, agg(api.AgSum, col(2))), api.ErrType)
	checkWrong(t, "a column that the kid has no more", tables, by(api.PFilter, col(2), mapped(table(0), col(2))), api.ErrName)
}

func TestE1Pairs(t *testing.T) {
	tables := [][]int{{integer, texts}, {boolean, integer, none}, ints(api.MaxCols - 2), ints(api.MaxCols - 1), {}}
	for _, kind := range pairKinds() {
		what := fmt.Sprint("kind ", kind)
		both := kind == api.PJoin || kind == api.PLeft
		cols := func(left, right int) []int {
			if both {
				return slices.Concat(tables[left], tables[right])
			}
			return tables[left]
		}
		for _, x := range these(same(0, 3), col(2), col(4), lit(null)) {
			checkCols(t, what, tables, by(kind, x, table(0), table(1)), cols(0, 1)...)
		}
		checkCols(t, what, tables, by(kind, col(0), table(1), table(0)), cols(1, 0)...)
		checkCols(t, what+" of all columns that may be", tables, by(kind, same(0, 7), table(0), table(2)), cols(0, 2)...)
		checkCols(t, what+" without columns", tables, by(kind, lit(yes), table(4), table(4)))
		checkWrong(t, what+" of too many columns", tables, by(kind, api.Expr{}, table(0), table(3)), api.ErrMany)
		checkWrong(t, what+" of too many columns", tables, by(kind, lit(yes), table(3), table(0)), api.ErrMany)
		checkWrong(t, what+" by nothing", tables, by(kind, api.Expr{}, table(0), table(1)), api.ErrKind)
		checkWrong(t, what+" by a column too far", tables, by(kind, col(5), table(0), table(1)), api.ErrName)
		checkWrong(t, what+" by two types", tables, by(kind, same(0, 1), table(0), table(1)), api.ErrType)
		checkWrong(t, what+" by a number", tables, by(kind, col(3), table(0), table(1)), api.ErrType)
	}
}

func TestE1Together(t *testing.T) {
	tables := [][]int{{integer, none, none, texts}, {none, boolean, none, texts}, {integer}, {texts, none, none, none}, {none, none, none, boolean}, {integer, boolean, texts, texts, none}}
	for _, kind := range []int{api.PAdd, api.PSub} {
		what := fmt.Sprint("kind ", kind)
		checkCols(t, what, tables, plan(kind, table(0), table(1)), integer, boolean, none, texts)
		checkCols(t, what, tables, plan(kind, table(1), table(0)), integer, boolean, none, texts)
		checkCols(t, what, tables, plan(kind, table(2), table(2)), integer)
		checkCols(t, what, tables, plan(kind, table(3), table(1)), texts, boolean, none, texts)
		checkCols(t, what, tables, plan(kind, mapped(table(2)), mapped(table(0))))
		checkWrong(t, what+" of another type ahead", tables, plan(kind, table(0), table(3)), api.ErrType)
		checkWrong(t, what+" of another type at the end", tables, plan(kind, table(4), table(0)), api.ErrType)
		checkWrong(t, what+" of fewer columns", tables, plan(kind, table(0), table(2)), api.ErrFit)
		checkWrong(t, what+" of more columns", tables, plan(kind, table(2), table(0)), api.ErrFit)
		checkWrong(t, what+" of more columns, and another type", tables, plan(kind, table(3), table(5)), api.ErrFit)
	}
}

// maker makes sets and plans, the same ones in each run.
type maker struct{ state uint32 }

func (m *maker) upTo(n int) int {
	m.state = m.state*1664525 + 1013904223
	return int(m.state>>16) % n
}

func (m *maker) val(kind int) api.Val {
	switch {
	case m.upTo(4) == 0:
		return null
	case kind == boolean:
		return vals.Bool(m.upTo(2) == 0)
	case kind == integer:
		return num([]int64{-2, 0, 1, 3, api.MaxInt}[m.upTo(5)])
	case kind == texts:
		return text([]string{"", "a", "b"}[m.upTo(3)])
	}
	return null
}

func (m *maker) set(cols []int, n int) rows {
	var l rows
	for range m.upTo(n) {
		r := row([]int64{-2, -1, 1, 1, 2, 3, 5000}[m.upTo(7)])
		for _, kind := range cols {
			r.Row = append(r.Row, m.val(kind))
		}
		l = append(l, r)
	}
	z, _ := zsets.Of(l)
	return z
}
