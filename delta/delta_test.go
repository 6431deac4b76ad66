package delta

import (
	"fmt"
	"math"
	"slices"
	"strings"
	"testing"

	"tidemark/api"
	"tidemark/query"
	"tidemark/vals"
	"tidemark/zsets"
)

type rows = []api.ZRow

const (
	none    = api.VNull
	boolean = api.VBool
	integer = api.VInt
	texts   = api.VText
	most    = api.MaxWeight
)

var (
	null = api.Val{Kind: api.VNull}
	yes  = api.Val{Kind: api.VBool, N: 1}
	no   = api.Val{Kind: api.VBool}
)

func num(n int64) api.Val   { return api.Val{Kind: api.VInt, N: n} }
func text(s string) api.Val { return api.Val{Kind: api.VText, Text: s} }

func row(w int64, l ...api.Val) api.ZRow { return api.ZRow{Row: l, W: w} }

func col(n int) api.Expr                       { return api.Expr{Kind: api.XCol, Col: n} }
func lit(v api.Val) api.Expr                   { return api.Expr{Kind: api.XLit, Val: v} }
func made(k int, kids ...api.Expr) api.Expr    { return api.Expr{Kind: k, Kids: kids} }
func these(l ...api.Expr) []api.Expr           { return l }
func same(a, b int) api.Expr                   { return made(api.XEq, col(a), col(b)) }
func agg(kind int, x api.Expr) api.Agg         { return api.Agg{Kind: kind, X: x} }
func plan(kind int, kids ...api.Plan) api.Plan { return api.Plan{Kind: kind, Kids: kids} }
func table(n int) api.Plan                     { return api.Plan{Kind: api.PTable, N: n} }

// by is a plan with a condition.
func by(kind int, x api.Expr, kids ...api.Plan) api.Plan {
	return api.Plan{Kind: kind, X: x, Kids: kids}
}

func mapped(p api.Plan, xs ...api.Expr) api.Plan {
	return api.Plan{Kind: api.PMap, Xs: xs, Kids: []api.Plan{p}}
}

func top(n int, p api.Plan, xs ...api.Expr) api.Plan {
	return api.Plan{Kind: api.PTop, N: n, Xs: xs, Kids: []api.Plan{p}}
}

func grouped(p api.Plan, xs []api.Expr, aggs ...api.Agg) api.Plan {
	return api.Plan{Kind: api.PGroup, Xs: xs, Aggs: aggs, Kids: []api.Plan{p}}
}

// run is so many rows, each once, with the numbers from first on.
func run(first, n int64) rows {
	out := make(rows, n)
	for i := range out {
		out[i] = row(1, num(first+int64(i)))
	}
	return out
}

// gone is z the other way round.
func gone(z rows) rows {
	out, _ := zsets.Neg(z)
	return out
}

// told is z as a text, in which nil and a list without entries are the same.
func told(z rows) string {
	var out strings.Builder
	for _, r := range z {
		for _, v := range r.Row {
			fmt.Fprintf(&out, "{%d %d %q} ", v.Kind, v.N, v.Text)
		}
		fmt.Fprintf(&out, "times %d; ", r.W)
	}
	return out.String()
}

func toldAll(l []rows) string {
	var out strings.Builder
	for _, z := range l {
		fmt.Fprintf(&out, "[%s] ", told(z))
	}
	return out.String()
}

func check(t *testing.T, what string, got rows, err api.Errno, want rows) {
	t.Helper()
	if err != api.OK {
		t.Errorf("%s: error %d comes, not %s", what, err, told(want))
	} else if told(got) != told(want) {
		t.Errorf("%s: %s comes, not %s", what, told(got), told(want))
	}
}

func checkError(t *testing.T, what string, got rows, err, want api.Errno) {
	t.Helper()
	if err != want || got != nil {
		t.Errorf("%s: error %d and %s come, not error %d alone", what, err, told(got), want)
	}
}

func checkApply(t *testing.T, what string, data, change []rows, want ...rows) {
	t.Helper()
	got, err := Apply(data, change)
	if err != api.OK || toldAll(got) != toldAll(want) {
		t.Errorf("%s: error %d and %s come, not %s", what, err, toldAll(got), toldAll(want))
	}
}

func checkApplyError(t *testing.T, what string, data, change []rows, want api.Errno) {
	t.Helper()
	got, err := Apply(data, change)
	if err != want || got != nil {
		t.Errorf("%s: error %d and %s come, not error %d alone", what, err, toldAll(got), want)
	}
}

func TestF1Apply(t *testing.T) {
	one, two := row(1, num(1)), row(2, num(2))
	checkApply(t, "no tables", nil, nil)
	checkApply(t, "a table of nothing", []rows{nil}, []rows{nil}, nil)
	checkApply(t, "of nothing, and a row more", []rows{nil}, []rows{{one}}, rows{one})
	checkApply(t, "no change", []rows{{one, two}}, []rows{nil}, rows{one, two})
	checkApply(t, "a row in between", []rows{{one, row(1, num(3))}}, []rows{{two}}, rows{one, two, row(1, num(3))})
	checkApply(t, "more and less", []rows{{one, two}}, []rows{{row(4, num(1)), row(-1, num(2))}}, rows{row(5, num(1)), row(1, num(2))})
	checkApply(t, "gone", []rows{{one, two}}, []rows{{row(-2, num(2))}}, rows{one})
	checkApply(t, "more than gone", []rows{{one, two}}, []rows{{row(-3, num(2))}}, rows{one, row(-1, num(2))})
	checkApply(t, "all gone", []rows{{one, two}}, []rows{{row(-1, num(1)), row(-2, num(2))}}, nil)
	checkApply(t, "each table by itself", []rows{{one}, nil, {two}}, []rows{{one}, {two}, {row(-2, num(2))}}, rows{row(2, num(1))}, rows{two}, nil)
	// Nothing is known of columns: rows of any length and of any types go together.
	checkApply(t, "rows of all lengths", []rows{{row(1), row(1, null), row(1, text("a"), yes)}}, []rows{{row(1), row(1, null, null), row(1, num(7))}}, rows{row(2), row(1, null), row(1, null, null), row(1, num(7)), row(1, text("a"), yes)})
	checkApply(t, "as heavy as may be", []rows{{row(most-1, num(1))}}, []rows{{one}}, rows{row(most, num(1))})
	checkApply(t, "as light as may be", []rows{{row(1-most, num(1))}}, []rows{{row(-1, num(1))}}, rows{row(-most, num(1))})
	checkApply(t, "as many as may be", []rows{run(0, api.MaxRows-1)}, []rows{run(api.MaxRows-1, 1)}, run(0, api.MaxRows))
	checkApply(t, "a full table whose rows all change", []rows{run(0, api.MaxRows)}, []rows{gone(run(0, api.MaxRows))}, nil)
	checkApply(t, "more tables than there may be", make([]rows, api.MaxTables+1), make([]rows, api.MaxTables+1), make([]rows, api.MaxTables+1)...)
	junk := api.Val{Kind: api.VInt, N: 1, Text: "junk"}
	checkApply(t, "values with more than they have", []rows{{row(1, junk)}, {row(1, junk)}, nil}, []rows{nil, {one}, {row(1, junk)}}, rows{one}, rows{row(2, num(1))}, rows{one})
}

func TestF1ApplyFit(t *testing.T) {
	wrong := rows{row(0)}
	for a := range 4 {
		for b := range 4 {
			if a == b {
				continue
			}
			what := fmt.Sprint(a, " tables and ", b, " changes")
			checkApplyError(t, what, make([]rows, a), make([]rows, b), api.ErrFit)
			checkApplyError(t, what+", all wrong", slices.Repeat([]rows{wrong}, a), slices.Repeat([]rows{wrong}, b), api.ErrFit)
		}
	}
}

func TestF1ApplyWrong(t *testing.T) {
	one := rows{row(1, num(1))}
	twice, none, kind := rows{row(1, num(1)), row(1, num(1))}, rows{row(0, num(1))}, rows{row(1, api.Val{})}
	for _, c := range []struct {
		what         string
		data, change []rows
		want         api.Errno
	}{
		{"data is no set", []rows{twice}, []rows{one}, api.ErrForm},
		{"the change is no set", []rows{one}, []rows{twice}, api.ErrForm},
		{"no weight", []rows{one}, []rows{none}, api.ErrRange},
		{"too many rows", []rows{make(rows, api.MaxRows+1)}, []rows{nil}, api.ErrMany},
		{"too many values", []rows{nil}, []rows{{row(1, make([]api.Val, api.MaxCols+1)...)}}, api.ErrMany},
		{"data ahead of the change", []rows{twice}, []rows{kind}, api.ErrForm},
		{"the change behind data", []rows{kind}, []rows{twice}, api.ErrKind},
		{"the first table, data", []rows{twice, kind}, []rows{nil, none}, api.ErrForm},
		{"the first table's change ahead of the second one's data", []rows{nil, kind}, []rows{twice, nil}, api.ErrForm},
		{"the second table alone", []rows{one, kind}, []rows{one, nil}, api.ErrKind},
		{"too heavy", []rows{{row(most, num(1))}}, []rows{one}, api.ErrRange},
		{"too light", []rows{{row(-1, num(1))}}, []rows{{row(-most, num(1))}}, api.ErrRange},
		{"too many rows in all", []rows{run(0, api.MaxRows)}, []rows{run(api.MaxRows, 1)}, api.ErrMany},
		{"too heavy ahead of what is wrong behind it", []rows{{row(most, num(1))}, twice}, []rows{one, kind}, api.ErrRange},
		{"too heavy behind what is right", []rows{one, nil, {row(most, num(1))}}, []rows{one, one, one}, api.ErrRange},
	} {
		checkApplyError(t, c.what, c.data, c.change, c.want)
	}
}

// shop is two tables, of who is there and of what was bought, and how they change.
func shop() (tables [][]int, data, change []rows) {
	people := rows{row(1, num(1), text("ann")), row(2, num(2), text("bob")), row(-1, num(3), text("cat")), row(1, num(4), null)}
	bought := rows{row(1, null, num(5)), row(3, num(1), num(10)), row(1, num(1), num(20)), row(-2, num(2), num(7)), row(2, num(3), num(1))}
	come := rows{row(-1, num(1), text("ann")), row(1, num(2), text("bob")), row(2, num(3), text("cat")), row(1, num(5), text("dan"))}
	paid := rows{row(-1, num(1), num(20)), row(3, num(2), num(7))}
	return [][]int{{integer, texts}, {integer, integer}}, []rows{people, bought}, []rows{come, paid}
}

func TestF2EachKind(t *testing.T) {
	tables, data, change := shop()
	come, paid := change[0], change[1]
	buys := same(0, 2)
	joins := rows{row(-3, num(1), text("ann"), num(1), num(10)), row(-1, num(1), text("ann"), num(1), num(20)), row(7, num(2), text("bob"), num(2), num(7)), row(4, num(3), text("cat"), num(3), num(1))}
	for _, c := range []struct {
		what string
		p    api.Plan
		want rows
	}{
		{"PTable", table(0), come},
		{"PTable, the other one", table(1), paid},
		{"PFilter", by(api.PFilter, made(api.XLt, col(0), lit(num(3))), table(0)), come[:2]},
		{"PFilter of none", by(api.PFilter, lit(null), table(0)), nil},
		{"PMap", mapped(table(0), made(api.XIsNull, col(1))), rows{row(3, no)}},
		{"PJoin", by(api.PJoin, buys, table(0), table(1)), joins},
		{"PSemi", by(api.PSemi, buys, table(0), table(1)), rows{row(-1, num(1), text("ann")), row(3, num(2), text("bob")), row(2, num(3), text("cat"))}},
		{"PAnti", by(api.PAnti, buys, table(0), table(1)), rows{row(-2, num(2), text("bob")), row(1, num(5), text("dan"))}},
		{"PLeft", by(api.PLeft, buys, table(0), table(1)), rows{joins[0], joins[1], row(-2, num(2), text("bob"), null, null), joins[2], joins[3], row(1, num(5), text("dan"), null, null)}},
		{"PAdd", plan(api.PAdd, table(1), table(1)), rows{row(-2, num(1), num(20)), row(6, num(2), num(7))}},
		{"PSub", plan(api.PSub, table(0), plan(api.PDistinct, table(0))), rows{row(1, num(2), text("bob")), row(1, num(3), text("cat"))}},
		{"PSub of itself", plan(api.PSub, table(0), table(0)), nil},
		{"PPositive", plan(api.PPositive, table(0)), rows{come[0], come[1], row(1, num(3), text("cat")), come[3]}},
		{"PDistinct", plan(api.PDistinct, table(0)), rows{come[0], row(1, num(3), text("cat")), come[3]}},
		{"PGroup", grouped(table(1), these(col(0)), agg(api.AgRows, api.Expr{}), agg(api.AgSum, col(1))), rows{row(1, num(1), num(3), num(30)), row(-1, num(1), num(4), num(50)), row(1, num(2), num(1), num(7))}},
		{"PGroup of all", grouped(table(0), nil, agg(api.AgRows, api.Expr{})), rows{row(-1, num(4)), row(1, num(6))}},
		{"PTop", top(4, table(1), col(1)), rows{row(-1, num(1), num(10)), row(1, num(2), num(7))}},
		{"PTop that stays", top(3, table(1), col(1)), nil},
		{"one above the other", by(api.PFilter, made(api.XGt, col(1), lit(num(3))), grouped(by(api.PJoin, buys, table(0), table(1)), these(col(1)), agg(api.AgRows, api.Expr{}))), rows{row(-1, text("ann"), num(4))}},
	} {
		got, err := Of(tables, c.p, data, change)
		check(t, c.what, got, err, c.want)
		got, err = Of(tables, c.p, data, []rows{nil, nil})
		check(t, c.what+", and nothing changes", got, err, nil)
	}
}

func TestF2OfNothing(t *testing.T) {
	tables, data, _ := shop()
	empty := []rows{nil, nil}
	for i := range tables {
		got, err := Of(tables, table(i), empty, data)
		check(t, "of nothing, and rows more", got, err, data[i])
		got, err = Of(tables, table(i), data, []rows{gone(data[0]), gone(data[1])})
		check(t, "all rows go", got, err, gone(data[i]))
	}
	all := grouped(table(0), nil, agg(api.AgRows, api.Expr{}))
	got, err := Of(tables, all, empty, data)
	check(t, "how many there are", got, err, rows{row(-1, num(0)), row(1, num(4))})
	got, err = Of(tables, grouped(table(0), these(col(1))), empty, empty)
	check(t, "nothing of nothing", got, err, nil)
	got, err = Of([][]int{{}}, table(0), []rows{{row(1)}}, []rows{{row(2)}})
	check(t, "a table without columns", got, err, rows{row(2)})
}

// What is wrong is told of the plan, of data, of the change, and of both together, in this order.
func TestF2Order(t *testing.T) {
	tables := [][]int{{integer}, {integer, texts}}
	good := []rows{{row(most, num(1))}, {row(1, num(1), null)}}
	calm := []rows{{row(-1, num(1))}, {row(2, num(1), text("a"))}}
	heavy := []rows{{row(1, num(1))}, nil}
	lies := []api.Plan{{}, table(2), by(api.PFilter, col(0), table(0)), plan(api.PAdd, table(0), table(1)), top(-1, table(0))}
	for i, want := range []api.Errno{api.ErrKind, api.ErrName, api.ErrType, api.ErrFit, api.ErrRange} {
		for _, data := range [][]rows{nil, {{row(0)}, nil}, good} {
			for _, change := range [][]rows{nil, {{row(1, api.Val{})}, nil}, heavy, calm} {
				got, err := Of(tables, lies[i], data, change)
				checkError(t, fmt.Sprint("plan ", i), got, err, want)
			}
		}
	}
	got, err := Of([][]int{{9}}, table(0), nil, nil)
	checkError(t, "tables that are wrong", got, err, api.ErrKind)
	wrong := []struct {
		what string
		data []rows
		want api.Errno
	}{
		{"no lists", nil, api.ErrFit},
		{"a list too few", good[:1], api.ErrFit},
		{"a list too many", []rows{nil, nil, nil}, api.ErrFit},
		{"a row twice", []rows{nil, {row(1, null, null), row(1, null, null)}}, api.ErrForm},
		{"no weight", []rows{{row(0, num(1))}, nil}, api.ErrRange},
		{"no kind", []rows{{row(1, api.Val{})}, nil}, api.ErrKind},
		{"too many rows", []rows{nil, make(rows, api.MaxRows+1)}, api.ErrMany},
		{"another type", []rows{nil, {row(1, num(1), num(1))}}, api.ErrType},
		{"another length", []rows{{row(1, num(1), num(1))}, nil}, api.ErrFit},
		{"the first table first", []rows{{row(1, text(""))}, {row(0)}}, api.ErrType},
	}
	// It is asked of all tables, whichever the plan looks at, and however little is left of it.
	for _, p := range []api.Plan{table(0), table(1), by(api.PFilter, lit(no), table(0)), top(0, table(1))} {
		for _, d := range wrong {
			for _, c := range wrong {
				got, err := Of(tables, p, d.data, c.data)
				checkError(t, "data: "+d.what+", change: "+c.what, got, err, d.want)
			}
			for _, change := range [][]rows{calm, heavy} {
				got, err := Of(tables, p, d.data, change)
				checkError(t, "data: "+d.what, got, err, d.want)
			}
			got, err := Of(tables, p, good, d.data)
			checkError(t, "change: "+d.what, got, err, d.want)
		}
		got, err := Of(tables, p, good, heavy)
		checkError(t, "too heavy together", got, err, api.ErrRange)
		if got, err := Of(tables, p, good, calm); err != api.OK {
			t.Errorf("nothing is wrong: error %d and %s come", err, told(got))
		}
	}
	got, err = Of([][]int{{integer}}, top(0, table(0)), []rows{run(0, api.MaxRows)}, []rows{run(api.MaxRows, 1)})
	checkError(t, "too many together", got, err, api.ErrMany)
	got, err = Of(tables, table(1), []rows{nil, {row(1, null, text("a"))}}, []rows{{row(1, num(1))}, {row(1, num(1), null), row(0, num(1), null)}})
	checkError(t, "wrong behind what is right", got, err, api.ErrRange)
}

// What is too large before, then, or in between is told as a change or as an error, whichever: the rest holds.
func TestF2TooLarge(t *testing.T) {
	tables := [][]int{{integer}, {integer}}
	double, pairs := plan(api.PAdd, table(0), table(0)), by(api.PJoin, lit(yes), table(0), table(1))
	for _, c := range []struct {
		what         string
		p            api.Plan
		data, change []rows
	}{
		{"before", double, []rows{{row(most, num(1))}, nil}, []rows{{row(-most, num(1))}, nil}},
		{"then", double, []rows{nil, nil}, []rows{{row(most, num(1))}, nil}},
		{"before and then", double, []rows{{row(most, num(1))}, nil}, []rows{nil, {row(1, num(1))}}},
		{"in between", plan(api.PSub, table(0), table(1)), []rows{{row(-most, num(1))}, nil}, []rows{{row(most, num(1))}, {row(-most, num(1))}}},
		{"too many pairs then", pairs, []rows{run(0, 200), nil}, []rows{nil, run(0, 200)}},
		{"too many rows of change", pairs, []rows{run(0, 300), run(0, 1)}, []rows{nil, {row(-1, num(0)), row(1, num(1))}}},
	} {
		got, err := Of(tables, c.p, c.data, c.change)
		if err != api.OK && got != nil {
			t.Errorf("%s: %s comes beside error %d", c.what, told(got), err)
		}
		if err == api.OK && zsets.Wrong(got) != api.OK {
			t.Errorf("%s: no set comes: %s", c.what, told(got))
		}
	}
	// What would be too large with one table's change alone is none with both.
	got, err := Of(tables, pairs, []rows{nil, run(0, api.MaxRows)}, []rows{run(0, api.MaxRows), gone(run(0, api.MaxRows))})
	check(t, "one full table for the other", got, err, nil)
	got, err = Of(tables, by(api.PFilter, lit(no), table(0)), []rows{{row(-most, num(1))}, nil}, []rows{{row(most, num(1))}, nil})
	check(t, "the greatest change that may be", got, err, nil)
	got, err = Of([][]int{{integer}}, top(1, plan(api.PSub, table(0), mapped(table(0), lit(num(7))))), []rows{{row(-most, num(1))}}, []rows{{row(most, num(1)), row(most, num(2))}})
	check(t, "a change on the way may be larger than a set", got, err, rows{row(1, num(2)), row(-1, num(7))})
}

// maker makes sets and plans, the same ones in each run.
type maker struct{ state uint32 }

func (m *maker) upTo(n int) int {
	m.state = m.state*1664525 + 1013904223
	return int(m.state>>16) % n
}

func (m *maker) val(kind int) api.Val {
	switch {
	case m.upTo(4) == 0:
		return null
	case kind == boolean:
		return vals.Bool(m.upTo(2) == 0)
	case kind == integer:
		return num([]int64{-2, 0, 1, 3, api.MaxInt}[m.upTo(5)])
	case kind == texts:
		return text([]string{"", "a", "b"}[m.upTo(3)])
	}
	return null
}

func (m *maker) set(cols []int, n int) rows {
	var l rows
	for range m.upTo(n) {
		r := row([]int64{-2, -1, -1, 1, 1, 2, 3, 5000}[m.upTo(8)])
		for _, kind := range cols {
			r.Row = append(r.Row, m.val(kind))
		}
		l = append(l, r)
	}
	z, _ := zsets.Of(l)
	return z
}

func (m *maker) sets(tables [][]int, n int) []rows {
	out := make([]rows, len(tables))
	for i, cols := range tables {
		out[i] = m.set(cols, n)
	}
	return out
}

// plan makes a plan that mostly is right, nested at most so deep.
func (m *maker) plan(deep int) api.Plan {
	if deep == 1 || m.upTo(5) == 0 {
		return table(m.upTo(3))
	}
	kid := m.plan(deep - 1)
	switch kind := 2 + m.upTo(12); kind {
	case api.PFilter:
		return by(kind, m.expr(), kid)
	case api.PMap:
		return mapped(kid, m.exprs()...)
	case api.PJoin, api.PSemi, api.PAnti, api.PLeft, api.PAdd, api.PSub:
		return by(kind, m.expr(), kid, m.plan(deep-1))
	case api.PGroup:
		return grouped(kid, m.exprs(), agg(1+m.upTo(5), m.expr()))
	case api.PTop:
		return top(m.upTo(6), kid, m.exprs()...)
	default:
		return plan(kind, kid)
	}
}

func (m *maker) expr() api.Expr {
	l := these(col(0), col(1), col(m.upTo(4)), same(0, 1), same(0, 2), lit(yes), lit(null), made(api.XLt, col(0), lit(num(2))), made(api.XIsNull, col(1)), made(api.XAdd, col(0), col(0)))
	return l[m.upTo(len(l))]
}

func (m *maker) exprs() (out []api.Expr) {
	for range m.upTo(4) {
		out = append(out, m.expr())
	}
	return out
}

func someTables() [][]int { return [][]int{{integer, texts}, {integer, integer}, {boolean, none}} }

// plainly is the weight of each row then, without that before: said once more, row by row. It is false where an error comes on the way.
func plainly(tables [][]int, p api.Plan, data, change []rows) (rows, bool) {
	var then []rows
	for i := range data {
		z, err := zsets.Of(slices.Concat(data[i], change[i]))
		if err != api.OK {
			return nil, false
		}
		then = append(then, z)
	}
	before, err := query.Eval(tables, p, data)
	if err != api.OK {
		return nil, false
	}
	after, err := query.Eval(tables, p, then)
	if err != api.OK {
		return nil, false
	}
	var out rows
	for _, r := range slices.Concat(before, after) {
		w := zsets.Weight(after, r.Row) - zsets.Weight(before, r.Row)
		known := slices.ContainsFunc(out, func(o api.ZRow) bool { return vals.Rows(o.Row, r.Row) == 0 })
		if w != 0 && !known {
			out = append(out, row(w, r.Row...))
		}
	}
	slices.SortFunc(out, func(a, b api.ZRow) int { return vals.Rows(a.Row, b.Row) })
	return out, zsets.Wrong(out) == api.OK
}

func TestF2PlainlyTheSame(t *testing.T) {
	m := maker{state: 9}
	tables := someTables()
	right, news := map[int]int{}, map[int]int{}
	for range 40000 {
		p := m.plan(1 + m.upTo(5))
		data, change := m.sets(tables, 6), m.sets(tables, 5)
		got, err := Of(tables, p, data, change)
		if _, wrong := query.Cols(tables, p); wrong != api.OK {
			checkError(t, "a plan that is wrong", got, err, wrong)
			continue
		}
		want, ok := plainly(tables, p, data, change)
		if !ok {
			continue
		}
		check(t, fmt.Sprint("kind ", p.Kind), got, err, want)
		right[p.Kind]++
		if len(want) > 0 {
			news[p.Kind]++
		}
	}
	for kind := api.PTable; kind <= api.PTop; kind++ {
		if right[kind] < 200 || news[kind] < 20 {
			t.Errorf("kind %d comes %d times, and changes %d times", kind, right[kind], news[kind])
		}
	}
}

// One change behind the other is both at once, and a change turned round takes back what it brought.
func TestF2OneBehindTheOther(t *testing.T) {
	m := maker{state: 21}
	tables := someTables()
	times := 0
	for range 20000 {
		p := m.plan(1 + m.upTo(4))
		data, first, second := m.sets(tables, 6), m.sets(tables, 4), m.sets(tables, 4)
		then, _ := Apply(data, first)
		both, _ := Apply(first, second)
		one, err := Of(tables, p, data, first)
		two, err2 := Of(tables, p, then, second)
		all, err3 := Of(tables, p, data, both)
		if err != api.OK || err2 != api.OK || err3 != api.OK {
			continue
		}
		times++
		sum, err := zsets.Add(one, two)
		check(t, fmt.Sprint("kind ", p.Kind, ", one behind the other"), sum, err, all)
		back := make([]rows, len(first))
		for i := range first {
			back[i] = gone(first[i])
		}
		less, err := Of(tables, p, then, back)
		check(t, fmt.Sprint("kind ", p.Kind, ", turned round"), less, err, gone(one))
	}
	if times < 2000 {
		t.Errorf("%d plans come", times)
	}
}

// Of filters, maps, sums and differences alone, the change is what the plan comes to of the change, whatever was there.
func TestF2Linear(t *testing.T) {
	tables, data, change := shop()
	less := made(api.XLt, col(0), lit(num(3)))
	for _, p := range []api.Plan{
		table(0),
		by(api.PFilter, less, table(0)),
		mapped(table(0), made(api.XIsNull, col(1)), lit(null)),
		plan(api.PAdd, mapped(table(0), col(0)), mapped(table(1), col(1))),
		plan(api.PSub, table(1), by(api.PFilter, less, table(1))),
	} {
		want, _ := query.Eval(tables, p, change)
		for _, before := range [][]rows{data, change, {nil, nil}} {
			got, err := Of(tables, p, before, change)
			check(t, fmt.Sprint("kind ", p.Kind), got, err, want)
		}
	}
}

func TestF2LimitsOfPlans(t *testing.T) {
	tables := [][]int{{integer}}
	deep := table(0)
	for range api.MaxNest - 1 {
		deep = plan(api.PDistinct, deep)
	}
	data, change := []rows{run(0, 3)}, []rows{run(2, 3)}
	got, err := Of(tables, deep, data, change)
	check(t, "as deep as may be", got, err, run(3, 2))
	got, err = Of(tables, plan(api.PDistinct, deep), data, change)
	checkError(t, "too deep", got, err, api.ErrMuch)
	full := slices.Repeat(tables, api.MaxTables)
	got, err = Of(full, table(api.MaxTables-1), slices.Repeat(data, api.MaxTables), slices.Repeat(change, api.MaxTables))
	check(t, "as many tables as may be", got, err, change[0])
	got, err = Of(append(full, nil), table(0), nil, nil)
	checkError(t, "too many tables", got, err, api.ErrMany)
	got, err = Of(tables, table(math.MaxInt), data, change)
	checkError(t, "no such table", got, err, api.ErrName)
}
