package rewrite

import (
	"fmt"
	"slices"
	"testing"

	"tidemark/api"
	"tidemark/exprs"
	"tidemark/query"
	"tidemark/zsets"
)

// maker makes plans and sets, the same ones in each run.
type maker struct{ state uint32 }

func (m *maker) upTo(n int) int {
	m.state = m.state*1664525 + 1013904223
	return int(m.state>>16) % n
}

func (m *maker) set(cols []int) rows {
	var l rows
	for range m.upTo(6) {
		r := row([]int64{-2, -1, 1, 1, 2, 3}[m.upTo(6)])
		for _, kind := range cols {
			v := null
			if m.upTo(4) > 0 {
				v = map[int]api.Val{none: null, boolean: {Kind: boolean, N: int64(m.upTo(2))}, integer: num(int64(m.upTo(4))), texts: text([]string{"", "a", "b"}[m.upTo(3)])}[kind]
			}
			r.Row = append(r.Row, v)
		}
		l = append(l, r)
	}
	z, _ := zsets.Of(l)
	return z
}

// condition is one of so many columns, mostly of those that are numbers.
func (m *maker) condition(cols []int) api.Expr {
	for range 20 {
		a, b := m.upTo(len(cols)+1), m.upTo(len(cols)+1)
		l := these(same(a, b), made(api.XLt, col(a), col(b)), made(api.XLt, col(a), lit(num(2))), isNull(a), made(api.XNot, isNull(a)), lit(yes), lit(no), lit(null), col(a), made(api.XOr, isNull(a), same(a, b)), deep(api.MaxDeep, isNull(a)), deep(api.MaxDeep, same(a, b)), large(api.MaxNodes-m.upTo(9), a, b))
		x := l[m.upTo(len(l))]
		if kind, err := exprs.Type(cols, x); err == api.OK && (kind == boolean || kind == none) {
			return x
		}
	}
	return lit(no)
}

// columns are expressions of so many columns.
func (m *maker) columns(cols []int) (out []api.Expr) {
	for range m.upTo(3) {
		out = append(out, append(these(lit(null), isNull(0)), col(m.upTo(len(cols)+1)))[m.upTo(3)])
	}
	return out
}

// plan makes a plan that is right, nested at most so deep; there are many filters in it.
func (m *maker) plan(tables [][]int, deep int) api.Plan {
	for range 20 {
		p := m.anyPlan(tables, deep)
		if _, err := query.Cols(tables, p); err == api.OK {
			return p
		}
	}
	return table(m.upTo(len(tables)))
}

func (m *maker) anyPlan(tables [][]int, deep int) api.Plan {
	if deep == 1 || m.upTo(8) == 0 {
		return table(m.upTo(len(tables)))
	}
	kid := m.plan(tables, deep-1)
	cols, _ := query.Cols(tables, kid)
	kind := []int{api.PFilter, api.PFilter, api.PFilter, api.PFilter, api.PJoin, api.PJoin, api.PSemi, api.PAnti, api.PLeft, api.PAdd, api.PSub, api.PPositive, api.PDistinct, api.PMap, api.PGroup, api.PTop}[m.upTo(16)]
	p := api.Plan{Kind: kind, Kids: []api.Plan{kid}}
	switch kind {
	case api.PFilter:
		p.X = m.condition(cols)
	case api.PJoin, api.PSemi, api.PAnti, api.PLeft:
		other := m.plan(tables, deep-1)
		more, _ := query.Cols(tables, other)
		p.X, p.Kids = m.condition(slices.Concat(cols, more)), append(p.Kids, other)
	case api.PAdd, api.PSub:
		other := kid
		if m.upTo(2) == 0 {
			other = filter(m.condition(cols), kid)
		}
		p.Kids = append(p.Kids, other)
	case api.PMap:
		p.Xs = m.columns(cols)
	case api.PGroup:
		p.Xs, p.Aggs = m.columns(cols), []api.Agg{agg(api.AgRows, api.Expr{}), agg(api.AgMax, lit(num(1)))}
	case api.PTop:
		p.Xs, p.N = m.columns(cols), m.upTo(5)
	}
	return p
}

func someTables() [][]int {
	return [][]int{{integer, texts}, {integer, integer}, {boolean, none, integer}, {}}
}

// checkSame: where a plan comes to something, what is asked early comes to the same.
func checkSame(t *testing.T, tables [][]int, p, q api.Plan, data []rows) bool {
	t.Helper()
	before, err := query.Cols(tables, p)
	then, err2 := query.Cols(tables, q)
	if err != api.OK || err2 != api.OK || !slices.Equal(before, then) {
		t.Errorf("columns %d and error %d come of\n%s\nand %d and %d of\n%s", before, err, told(p), then, err2, told(q))
	}
	late, err := query.Eval(tables, p, data)
	if err != api.OK {
		return false
	}
	early, err := query.Eval(tables, q, data)
	if err != api.OK || fmt.Sprint(early) != fmt.Sprint(late) {
		t.Errorf("%v comes of\n%s\nand %v and error %d of\n%s", late, told(p), early, err, told(q))
	}
	return len(late) > 0
}

// tooLarge tells whether two conditions don't go together.
func tooLarge(cols []int, a, b api.Expr) bool {
	_, err := exprs.Type(cols, both(a, b))
	return err != api.OK
}

// spokenOf tells whether x speaks of a column from one on, up to another one.
func spokenOf(x api.Expr, from, to int) bool {
	return x.Kind == api.XCol && x.Col >= from && x.Col < to || slices.ContainsFunc(x.Kids, func(k api.Expr) bool { return spokenOf(k, from, to) })
}

// passed tells whether a filter of a plan by x would be asked earlier.
func passed(tables [][]int, x api.Expr, kid api.Plan) bool {
	cols, _ := query.Cols(tables, kid)
	switch kid.Kind {
	case api.PTable, api.PMap, api.PLeft, api.PGroup, api.PTop:
		return x.Kind == api.XLit && x.Val == yes
	case api.PFilter:
		return !tooLarge(cols, kid.X, x)
	case api.PJoin:
		first, _ := query.Cols(tables, kid.Kids[0])
		ahead, behind := spokenOf(x, 0, len(first)), spokenOf(x, len(first), len(cols))
		return !ahead || !behind || !tooLarge(cols, kid.X, x)
	}
	return true
}

// checkEarly: nothing in p can be asked earlier, or is done twice.
func checkEarly(t *testing.T, tables [][]int, p api.Plan) {
	t.Helper()
	for _, k := range p.Kids {
		checkEarly(t, tables, k)
	}
	switch p.Kind {
	case api.PFilter:
		if passed(tables, p.X, p.Kids[0]) {
			t.Errorf("a filter can be asked earlier: %s", told(p))
		}
	case api.PPositive, api.PDistinct:
		if k := p.Kids[0].Kind; k == api.PPositive || k == api.PDistinct {
			t.Errorf("kind %d of kind %d", p.Kind, k)
		}
	}
}

// What is asked early, or late, is the same; and what is asked early is asked no earlier, if it is rewritten anew.
func TestI1Laws(t *testing.T) {
	m := maker{state: 9}
	tables := someTables()
	times := map[string]int{}
	for range 4000 {
		p := m.plan(tables, 2+m.upTo(6))
		var data []rows
		for _, cols := range tables {
			data = append(data, m.set(cols))
		}
		q, err := Plan(tables, p)
		if err != api.OK {
			t.Fatalf("error %d comes of %s", err, told(p))
		}
		if checkSame(t, tables, p, q, data) {
			times["rows"]++
		}
		if told(q) == told(p) {
			times["as it was"]++
		} else {
			times["rewritten"]++
			checkEarly(t, tables, q)
		}
		checkOf(t, "anew", tables, q, q)
	}
	for what, least := range map[string]int{"rows": 500, "as it was": 500, "rewritten": 500} {
		if times[what] < least {
			t.Errorf("%s comes %d times", what, times[what])
		}
	}
}

// What is not known is asked for early, as late, of each kind of plan and each kind of condition.
func TestI1OfRows(t *testing.T) {
	data := []rows{
		{row(1, null, num(1)), row(-1, num(1), num(2)), row(2, num(1), num(3)), row(3, num(2), num(3))},
		{row(-1, num(1)), row(1, num(2)), row(2, num(3))},
		{row(1, num(1), text("a")), row(1, num(2), null)},
	}
	for _, p := range unchanged() {
		for _, x := range these(less(), isNull(0), made(api.XNot, isNull(0)), made(api.XNot, less()), lit(yes), lit(no), lit(null)) {
			for _, over := range []api.Plan{filter(x, p), filter(x, distinct(p)), filter(x, distinct(positive(p))), filter(x, plan(api.PSub, distinct(p), p)), filter(x, by(api.PAnti, less(), p, table(1)))} {
				q, _ := Plan(tables(), over)
				checkSame(t, tables(), over, q, data)
			}
		}
	}
	check(t, "what is distinct of a filter", filter(less(), distinct(table(0))), distinct(filter(less(), table(0))))
}

// What becomes too large only where it is asked late comes to its end, if it is asked early.
func TestI1EarlyIsSmaller(t *testing.T) {
	var z rows
	for n := range int64(30) {
		z = append(z, row(1, num(n)))
	}
	tables, data := [][]int{{integer}}, []rows{z}
	p := filter(made(api.XEq, col(0), lit(num(7))), join(lit(no), table(0), table(0)))
	p.Kids[0].X = made(api.XCoal, lit(null), lit(yes))
	if _, err := query.Eval(tables, p, data); err != api.ErrMany {
		t.Errorf("asked late: error %d comes", err)
	}
	q, _ := Plan(tables, p)
	if got, err := query.Eval(tables, q, data); err != api.OK || len(got) != len(z) {
		t.Errorf("asked early: %d rows and error %d come", len(got), err)
	}
}
