package rewrite

import (
	"fmt"
	"slices"
	"strings"
	"testing"

	"tidemark/api"
	"tidemark/query"
)

type rows = []api.ZRow

const (
	none    = api.VNull
	boolean = api.VBool
	integer = api.VInt
	texts   = api.VText
)

var (
	null = api.Val{Kind: api.VNull}
	yes  = api.Val{Kind: api.VBool, N: 1}
	no   = api.Val{Kind: api.VBool}
)

func num(n int64) api.Val   { return api.Val{Kind: api.VInt, N: n} }
func text(s string) api.Val { return api.Val{Kind: api.VText, Text: s} }

func row(w int64, l ...api.Val) api.ZRow { return api.ZRow{Row: l, W: w} }

func col(n int) api.Expr                       { return api.Expr{Kind: api.XCol, Col: n} }
func lit(v api.Val) api.Expr                   { return api.Expr{Kind: api.XLit, Val: v} }
func made(k int, kids ...api.Expr) api.Expr    { return api.Expr{Kind: k, Kids: kids} }
func these(l ...api.Expr) []api.Expr           { return l }
func same(a, b int) api.Expr                   { return made(api.XEq, col(a), col(b)) }
func both(a, b api.Expr) api.Expr              { return made(api.XAnd, a, b) }
func isNull(n int) api.Expr                    { return made(api.XIsNull, col(n)) }
func agg(kind int, x api.Expr) api.Agg         { return api.Agg{Kind: kind, X: x} }
func plan(kind int, kids ...api.Plan) api.Plan { return api.Plan{Kind: kind, Kids: kids} }
func table(n int) api.Plan                     { return api.Plan{Kind: api.PTable, N: n} }
func distinct(p api.Plan) api.Plan             { return plan(api.PDistinct, p) }
func positive(p api.Plan) api.Plan             { return plan(api.PPositive, p) }

// by is a plan with a condition.
func by(kind int, x api.Expr, kids ...api.Plan) api.Plan {
	return api.Plan{Kind: kind, X: x, Kids: kids}
}

func filter(x api.Expr, p api.Plan) api.Plan           { return by(api.PFilter, x, p) }
func join(x api.Expr, first, second api.Plan) api.Plan { return by(api.PJoin, x, first, second) }

func mapped(p api.Plan, xs ...api.Expr) api.Plan {
	return api.Plan{Kind: api.PMap, Xs: xs, Kids: []api.Plan{p}}
}

func top(n int, p api.Plan, xs ...api.Expr) api.Plan {
	return api.Plan{Kind: api.PTop, N: n, Xs: xs, Kids: []api.Plan{p}}
}

func grouped(p api.Plan, xs []api.Expr, aggs ...api.Agg) api.Plan {
	return api.Plan{Kind: api.PGroup, Xs: xs, Aggs: aggs, Kids: []api.Plan{p}}
}

// added is so many times table n, added up: two nodes for each, but for one.
func added(times, n int) api.Plan {
	if times == 1 {
		return table(n)
	}
	return plan(api.PAdd, added(times/2, n), added(times-times/2, n))
}

// large is a condition of so many nodes that speaks of these columns alone.
func large(nodes int, cols ...int) api.Expr {
	switch nodes {
	case 1:
		return lit(no)
	case 2:
		return isNull(cols[0])
	}
	first := (nodes - 1) / 2
	if first < 2 {
		return made(api.XNot, large(nodes-1, cols...))
	}
	turned := append(slices.Clone(cols[1:]), cols[0])
	return both(large(first, cols...), large(nodes-1-first, turned...))
}

// deep is a condition that is nested so deep.
func deep(levels int, x api.Expr) api.Expr {
	for range levels - 2 {
		x = made(api.XNot, x)
	}
	return x
}

// tables are two of two columns, and one of one.
func tables() [][]int { return [][]int{{integer, integer}, {integer}, {integer, texts}} }

// told is p as a text, in which nil and a list without entries are the same.
func told(p api.Plan) string { return fmt.Sprintf("%+v", p) }

func check(t *testing.T, what string, p, want api.Plan) {
	t.Helper()
	checkOf(t, what, tables(), p, want)
}

func checkOf(t *testing.T, what string, tables [][]int, p, want api.Plan) {
	t.Helper()
	got, err := Plan(tables, p)
	if err != api.OK || told(got) != told(want) {
		t.Errorf("%s: error %d and\n%s come, not\n%s", what, err, told(got), told(want))
	}
}

// less is a condition of the first column.
func less() api.Expr { return made(api.XLt, col(0), lit(num(2))) }

// unchanged are plans of each kind in which nothing can be asked earlier; all have two columns or more, the first one a number.
func unchanged() []api.Plan {
	return []api.Plan{
		table(0),
		filter(less(), table(0)),
		mapped(table(0), made(api.XAdd, col(0), col(1)), lit(null)),
		join(same(1, 2), table(0), table(1)),
		by(api.PSemi, same(1, 2), table(0), table(1)),
		by(api.PAnti, same(1, 2), table(0), table(1)),
		by(api.PLeft, same(1, 2), table(0), table(1)),
		plan(api.PAdd, table(0), filter(less(), table(0))),
		plan(api.PSub, filter(less(), table(0)), table(0)),
		positive(table(0)),
		distinct(table(0)),
		grouped(table(0), these(col(1)), agg(api.AgRows, api.Expr{}), agg(api.AgSum, col(0)), agg(api.AgMax, col(1))),
		top(2, table(0), col(1), made(api.XNot, isNull(0))),
	}
}

func TestI1WhatColsSays(t *testing.T) {
	many := make([][]int, api.MaxTables+1)
	nested := table(0)
	for range api.MaxNest {
		nested = distinct(nested)
	}
	for _, c := range []struct {
		what   string
		tables [][]int
		p      api.Plan
		want   api.Errno
	}{
		{"too many tables", many, table(0), api.ErrMany},
		{"too many columns", [][]int{make([]int, api.MaxCols+1)}, table(0), api.ErrMany},
		{"no type", [][]int{{5}}, table(0), api.ErrKind},
		{"no kind", tables(), api.Plan{}, api.ErrKind},
		{"a kind too far", tables(), plan(14, table(0)), api.ErrKind},
		{"no kid", tables(), plan(api.PFilter), api.ErrMany},
		{"no table", tables(), table(3), api.ErrName},
		{"no table below", tables(), filter(lit(yes), table(-1)), api.ErrName},
		{"a condition of no kind", tables(), filter(api.Expr{}, table(0)), api.ErrKind},
		{"a condition of too much", tables(), filter(large(api.MaxNodes+1, 0), table(0)), api.ErrMuch},
		{"a number as a condition", tables(), filter(col(0), table(0)), api.ErrType},
		{"true as a number", tables(), filter(made(api.XAdd, lit(yes), lit(yes)), table(0)), api.ErrType},
		{"a column of the second kid", tables(), filter(isNull(2), by(api.PSemi, same(1, 2), table(0), table(1))), api.ErrName},
		{"a column too far", tables(), filter(isNull(3), join(same(1, 2), table(0), table(1))), api.ErrName},
		{"too many columns together", tables(), join(lit(yes), join(lit(yes), join(lit(yes), table(0), table(0)), join(lit(yes), table(0), table(0))), table(1)), api.ErrMany},
		{"what is added has more columns", tables(), filter(less(), plan(api.PAdd, table(0), table(1))), api.ErrFit},
		{"what is added is of another type", tables(), filter(less(), plan(api.PAdd, table(0), table(2))), api.ErrType},
		{"too many of the first ones", tables(), top(api.MaxTop+1, table(0)), api.ErrRange},
		{"nested too deep, if less deep when rewritten", tables(), nested, api.ErrMuch},
		{"too many nodes, if fewer when rewritten", tables(), distinct(distinct(added(30, 0))), api.ErrMuch},
	} {
		if _, err := query.Cols(c.tables, c.p); err != c.want {
			t.Errorf("%s: Cols says %d", c.what, err)
		}
		got, err := Plan(c.tables, c.p)
		if err != c.want || told(got) != told(api.Plan{}) {
			t.Errorf("%s: error %d and %s come, not error %d alone", c.what, err, told(got), c.want)
		}
	}
}

func TestI1WhatStays(t *testing.T) {
	for _, p := range unchanged() {
		check(t, fmt.Sprint("kind ", p.Kind), p, p)
	}
	check(t, "as many nodes as may be", added(30, 0), added(30, 0))
	check(t, "as many nodes as may be", positive(added(30, 0)), positive(added(30, 0)))
}

func TestI1OnceIsEnough(t *testing.T) {
	for _, p := range append(unchanged()[:9:9], unchanged()[11:]...) {
		for _, c := range []struct {
			what    string
			p, want api.Plan
		}{
			{"distinct", distinct(p), distinct(p)},
			{"positive", positive(p), positive(p)},
			{"distinct of distinct", distinct(distinct(p)), distinct(p)},
			{"positive of distinct", positive(distinct(p)), distinct(p)},
			{"positive of positive", positive(positive(p)), positive(p)},
			{"distinct of positive", distinct(positive(p)), distinct(p)},
			{"all of them", distinct(positive(distinct(positive(positive(p))))), distinct(p)},
			{"distinct of positive of distinct", distinct(positive(distinct(p))), distinct(p)},
			{"positive of distinct of positive", positive(distinct(positive(p))), distinct(p)},
			{"many", distinct(distinct(distinct(distinct(p)))), distinct(p)},
			{"what is between is gone", distinct(filter(lit(yes), positive(filter(lit(yes), distinct(p))))), distinct(p)},
		} {
			check(t, fmt.Sprintf("%s of kind %d", c.what, p.Kind), c.p, c.want)
		}
	}
	// A filter is sunk into what is left; what a filter was between comes together.
	check(t, "a filter between", distinct(filter(less(), distinct(table(0)))), distinct(filter(less(), table(0))))
	check(t, "a filter between", positive(filter(less(), positive(table(0)))), positive(filter(less(), table(0))))
	check(t, "a filter between", distinct(filter(less(), positive(table(0)))), distinct(filter(less(), table(0))))
	check(t, "another kind between", distinct(top(3, distinct(table(0)))), distinct(top(3, distinct(table(0)))))
}

// All kids of all kinds are rewritten, and ahead of what they are kids of.
func TestI1KidsFirst(t *testing.T) {
	twice := filter(less(), distinct(positive(table(0))))
	once := distinct(filter(less(), table(0)))
	for _, p := range unchanged() {
		q, want := p, p
		q.Kids, want.Kids = slices.Clone(p.Kids), slices.Clone(p.Kids)
		for i := range p.Kids {
			// The second table of a pair has one column alone.
			if p.Kids[i].Kind == api.PTable && p.Kids[i].N == 0 {
				q.Kids[i], want.Kids[i] = twice, once
			} else if p.Kids[i].Kind == api.PTable {
				q.Kids[i], want.Kids[i] = distinct(distinct(table(1))), distinct(table(1))
			}
		}
		switch p.Kind {
		case api.PFilter:
			want = distinct(filter(both(less(), less()), table(0)))
		case api.PPositive, api.PDistinct:
			want = once
		}
		check(t, fmt.Sprint("kind ", p.Kind), q, want)
		check(t, fmt.Sprint("below kind ", p.Kind), top(1, q), top(1, want))
	}
	a, b, c := less(), isNull(1), made(api.XNot, isNull(0))
	check(t, "the innermost one first", filter(c, filter(b, filter(a, table(0)))), filter(both(both(a, b), c), table(0)))
	check(t, "the innermost one first", filter(c, distinct(filter(b, positive(filter(a, table(0)))))), distinct(filter(both(both(a, b), c), table(0))))
}

// What is too large when it is rewritten stays as it was, all of it.
func TestI1TooLarge(t *testing.T) {
	filtered := func(times int) api.Plan {
		var sink func(p api.Plan) api.Plan
		sink = func(p api.Plan) api.Plan {
			if p.Kind == api.PTable {
				return filter(less(), p)
			}
			return plan(api.PAdd, sink(p.Kids[0]), sink(p.Kids[1]))
		}
		return sink(added(times, 0))
	}
	check(t, "less than may be", filter(less(), added(20, 0)), filtered(20))
	check(t, "as much as may be", distinct(filter(less(), added(20, 0))), distinct(filtered(20)))
	much := top(1, distinct(filter(less(), added(20, 0))))
	check(t, "too much by one", much, much)
	much = filter(less(), added(21, 0))
	check(t, "too much by two", much, much)
	much = distinct(positive(positive(distinct(filter(less(), filter(isNull(1), added(21, 0)))))))
	check(t, "too much, and nothing else is rewritten", much, much)
	check(t, "as much as may be is as much as may be", filter(lit(yes), distinct(distinct(added(29, 0)))), distinct(added(29, 0)))
	long := filter(large(api.MaxNodes, 0), filter(large(api.MaxNodes, 1), added(11, 0)))
	check(t, "too much, as what two filters ask doesn't go together", plan(api.PAdd, long, added(10, 0)), plan(api.PAdd, long, added(10, 0)))
	// A filter leaves a level above, and takes one below.
	p, want := table(0), filter(less(), table(0))
	for range api.MaxNest - 2 {
		p, want = by(api.PSemi, same(1, 2), p, table(1)), by(api.PSemi, same(1, 2), want, table(1))
	}
	check(t, "as deep as may be", filter(less(), p), want)
}

func TestI1FieldsOfAnswers(t *testing.T) {
	x := api.Expr{Kind: api.XLt, Val: text("junk"), Col: 9, Kids: these(
		api.Expr{Kind: api.XCol, Col: 0, Val: text("junk")},
		api.Expr{Kind: api.XLit, Col: 9, Val: api.Val{Kind: api.VInt, N: 2, Text: "junk"}})}
	leaf := api.Plan{Kind: api.PTable, N: 0, X: x, Xs: these(x), Aggs: []api.Agg{{Kind: 1, X: x}}}
	junk := func(p api.Plan) api.Plan {
		return api.Plan{Kind: p.Kind, N: 7, X: x, Xs: these(x, x), Aggs: []api.Agg{{Kind: 9, X: x}}, Kids: p.Kids}
	}
	check(t, "PTable", leaf, table(0))
	check(t, "PFilter", junk(plan(api.PFilter, leaf)), filter(less(), table(0)))
	for _, kind := range []int{api.PJoin, api.PSemi, api.PAnti, api.PLeft} {
		check(t, fmt.Sprint("kind ", kind), junk(plan(kind, leaf, leaf)), by(kind, less(), table(0), table(0)))
	}
	for _, kind := range []int{api.PAdd, api.PSub} {
		check(t, fmt.Sprint("kind ", kind), junk(plan(kind, leaf, leaf)), plan(kind, table(0), table(0)))
	}
	for _, kind := range []int{api.PPositive, api.PDistinct} {
		check(t, fmt.Sprint("kind ", kind), junk(plan(kind, leaf)), plan(kind, table(0)))
	}
	check(t, "PMap", junk(plan(api.PMap, leaf)), mapped(table(0), less(), less()))
	check(t, "PTop", junk(plan(api.PTop, leaf)), top(7, table(0), less(), less()))
	group := junk(plan(api.PGroup, leaf))
	group.Aggs = []api.Agg{{Kind: api.AgRows, X: x}, {Kind: api.AgMax, X: x}}
	check(t, "PGroup", group, grouped(table(0), these(less(), less()), agg(api.AgRows, api.Expr{}), agg(api.AgMax, less())))
	much := junk(plan(api.PFilter, added(21, 0)))
	check(t, "what is too large", much, filter(less(), added(21, 0)))
	got, _ := Plan(tables(), filter(x, plan(api.PSub, leaf, join(x, table(1), table(1)))))
	if strings.Contains(told(got), "junk") || strings.Contains(told(got), "Col:9") {
		t.Errorf("what comes has what its kind has not: %s", told(got))
	}
}
