package keep

import (
	"fmt"
	"slices"
	"strings"
	"testing"

	"tidemark/api"
	"tidemark/delta"
	"tidemark/query"
	"tidemark/vals"
	"tidemark/zsets"
)

type rows = []api.ZRow

const (
	none    = api.VNull
	boolean = api.VBool
	integer = api.VInt
	texts   = api.VText
	most    = api.MaxWeight
)

var (
	null = api.Val{Kind: api.VNull}
	yes  = api.Val{Kind: api.VBool, N: 1}
	no   = api.Val{Kind: api.VBool}
)

func num(n int64) api.Val   { return api.Val{Kind: api.VInt, N: n} }
func text(s string) api.Val { return api.Val{Kind: api.VText, Text: s} }

func row(w int64, l ...api.Val) api.ZRow { return api.ZRow{Row: l, W: w} }

func col(n int) api.Expr                       { return api.Expr{Kind: api.XCol, Col: n} }
func lit(v api.Val) api.Expr                   { return api.Expr{Kind: api.XLit, Val: v} }
func made(k int, kids ...api.Expr) api.Expr    { return api.Expr{Kind: k, Kids: kids} }
func these(l ...api.Expr) []api.Expr           { return l }
func same(a, b int) api.Expr                   { return made(api.XEq, col(a), col(b)) }
func agg(kind int, x api.Expr) api.Agg         { return api.Agg{Kind: kind, X: x} }
func plan(kind int, kids ...api.Plan) api.Plan { return api.Plan{Kind: kind, Kids: kids} }
func table(n int) api.Plan                     { return api.Plan{Kind: api.PTable, N: n} }

// by is a plan with a condition.
func by(kind int, x api.Expr, kids ...api.Plan) api.Plan {
	return api.Plan{Kind: kind, X: x, Kids: kids}
}

func mapped(p api.Plan, xs ...api.Expr) api.Plan {
	return api.Plan{Kind: api.PMap, Xs: xs, Kids: []api.Plan{p}}
}

func top(n int, p api.Plan, xs ...api.Expr) api.Plan {
	return api.Plan{Kind: api.PTop, N: n, Xs: xs, Kids: []api.Plan{p}}
}

func grouped(p api.Plan, xs []api.Expr, aggs ...api.Agg) api.Plan {
	return api.Plan{Kind: api.PGroup, Xs: xs, Aggs: aggs, Kids: []api.Plan{p}}
}

// run is so many rows, each once, with the numbers from first on.
func run(first, n int64) rows {
	out := make(rows, n)
	for i := range out {
		out[i] = row(1, num(first+int64(i)))
	}
	return out
}

// gone is z the other way round.
func gone(z rows) rows {
	out, _ := zsets.Neg(z)
	return out
}

// told is z as a text, in which nil and a list without entries are the same.
func told(z rows) string {
	var out strings.Builder
	for _, r := range z {
		for _, v := range r.Row {
			fmt.Fprintf(&out, "{%d %d %q} ", v.Kind, v.N, v.Text)
		}
		fmt.Fprintf(&out, "times %d; ", r.W)
	}
	return out.String()
}

func toldAll(l []rows) string {
	var out strings.Builder
	for _, z := range l {
		fmt.Fprintf(&out, "[%s] ", told(z))
	}
	return out.String()
}

func check(t *testing.T, what string, got []rows, f api.Fault, want ...rows) {
	t.Helper()
	if f != (api.Fault{}) {
		t.Errorf("%s: fault %v comes, not %s", what, f, toldAll(want))
	} else if toldAll(got) != toldAll(want) {
		t.Errorf("%s: %s comes, not %s", what, toldAll(got), toldAll(want))
	}
}

func checkFault(t *testing.T, what string, got []rows, f api.Fault, err api.Errno, at int) {
	t.Helper()
	if want := (api.Fault{Err: err, At: at}); f != want || got != nil {
		t.Errorf("%s: fault %v and %s come, not fault %v alone", what, f, toldAll(got), want)
	}
}

// shop is two tables, of who is there and of what was bought, and how they change one time after the other.
func shop() (tables [][]int, data []rows, changes [][]rows) {
	people := rows{row(1, num(1), text("ann")), row(2, num(2), text("bob")), row(-1, num(3), text("cat")), row(1, num(4), null)}
	bought := rows{row(1, null, num(5)), row(3, num(1), num(10)), row(1, num(1), num(20)), row(-2, num(2), num(7)), row(2, num(3), num(1))}
	come := rows{row(-1, num(1), text("ann")), row(1, num(2), text("bob")), row(2, num(3), text("cat")), row(1, num(5), text("dan"))}
	paid := rows{row(-1, num(1), num(20)), row(3, num(2), num(7))}
	left := rows{row(-1, num(3), text("cat"))}
	last := rows{row(-1, num(2), num(7)), row(2, num(5), num(9))}
	return [][]int{{integer, texts}, {integer, integer}}, []rows{people, bought}, [][]rows{{come, paid}, {left, nil}, {nil, last}}
}

// people and buys are the shop's tables: at first, and after each change.
func people() []rows {
	_, data, _ := shop()
	bob, cat, four, dan := row(3, num(2), text("bob")), row(1, num(3), text("cat")), row(1, num(4), null), row(1, num(5), text("dan"))
	return []rows{data[0], {bob, cat, four, dan}, {bob, four, dan}, {bob, four, dan}}
}

func buys() []rows {
	_, data, _ := shop()
	five, ten, seven, one := row(1, null, num(5)), row(3, num(1), num(10)), row(1, num(2), num(7)), row(2, num(3), num(1))
	return []rows{data[1], {five, ten, seven, one}, {five, ten, seven, one}, {five, ten, one, row(2, num(5), num(9))}}
}

func TestG1OfOne(t *testing.T) {
	tables, data, changes := shop()
	p, b := people(), buys()
	ann, bob, cat, four, dan := p[0][0], p[1][0], p[1][1], p[1][2], p[1][3]
	once := row(1, num(2), text("bob"))
	sums := grouped(table(1), these(col(0)), agg(api.AgRows, api.Expr{}), agg(api.AgSum, col(1)))
	five, ten, three := row(1, null, num(1), num(5)), row(1, num(1), num(3), num(30)), row(1, num(3), num(2), num(2))
	two := rows{five, ten, row(1, num(2), num(1), num(7)), three}
	count := func(n int64) rows { return rows{row(1, num(n))} }
	for _, c := range []struct {
		what string
		p    api.Plan
		want []rows
	}{
		{"PTable", table(0), p},
		{"PTable, the other one", table(1), b},
		{"PFilter", by(api.PFilter, made(api.XLt, col(0), lit(num(3))), table(0)), []rows{{ann, p[0][1]}, {bob}, {bob}, {bob}}},
		{"PFilter of none", by(api.PFilter, lit(null), table(0)), make([]rows, 4)},
		{"PMap", mapped(table(0), made(api.XIsNull, col(1))), []rows{{row(2, no), row(1, yes)}, {row(5, no), row(1, yes)}, {row(4, no), row(1, yes)}, {row(4, no), row(1, yes)}}},
		{"PPositive", plan(api.PPositive, table(0)), []rows{{ann, p[0][1], four}, p[1], p[2], p[3]}},
		{"PDistinct", plan(api.PDistinct, table(0)), []rows{{ann, once, four}, {once, cat, four, dan}, {once, four, dan}, {once, four, dan}}},
		{"PGroup", sums, []rows{{five, row(1, num(1), num(4), num(50)), three}, two, two, {five, ten, three, row(1, num(5), num(2), num(18))}}},
		{"PGroup of all", grouped(table(0), nil, agg(api.AgRows, api.Expr{})), []rows{count(4), count(6), count(5), count(5)}},
		{"PTop", top(4, table(1), col(1)), []rows{{b[1][0], row(1, num(1), num(10)), b[1][3]}, {b[1][0], b[1][2], b[1][3]}, {b[1][0], b[1][2], b[1][3]}, {b[1][0], b[1][3], row(1, num(5), num(9))}}},
	} {
		got, f := Keep(tables, c.p, data, changes)
		check(t, c.what, got, f, c.want...)
	}
}

func TestG1OfTwo(t *testing.T) {
	tables, data, changes := shop()
	p, b := people(), buys()
	ann, bob, cat, four, dan := p[0][0], p[1][0], p[1][1], p[1][2], p[1][3]
	once := func(w int64, r api.ZRow, l ...api.Val) api.ZRow { return row(w, slices.Concat(r.Row, l)...) }
	seven, nobody := once(3, bob, num(2), num(7)), once(1, four, null, null)
	joins := []rows{{once(3, ann, num(1), num(10)), once(1, ann, num(1), num(20)), once(-4, bob, num(2), num(7)), once(-2, cat, num(3), num(1))}, {seven, once(2, cat, num(3), num(1))}, {seven}, {once(2, dan, num(5), num(9))}}
	lefts := []rows{{joins[0][0], joins[0][1], once(2, bob, null, null), joins[0][2], joins[0][3], nobody}, {seven, joins[1][1], nobody, once(1, dan, null, null)}, {seven, nobody, once(1, dan, null, null)}, {once(3, bob, null, null), nobody, joins[3][0]}}
	doubles := make([]rows, len(b))
	for i, z := range b {
		for _, r := range z {
			doubles[i] = append(doubles[i], row(2*r.W, r.Row...))
		}
	}
	names := grouped(by(api.PJoin, same(0, 2), table(0), table(1)), these(col(1)), agg(api.AgRows, api.Expr{}))
	for _, c := range []struct {
		what string
		p    api.Plan
		want []rows
	}{
		{"PJoin", by(api.PJoin, same(0, 2), table(0), table(1)), joins},
		{"PSemi", by(api.PSemi, same(0, 2), table(0), table(1)), []rows{{ann, p[0][2]}, {bob, cat}, {bob}, {dan}}},
		{"PAnti", by(api.PAnti, same(0, 2), table(0), table(1)), []rows{{p[0][1], four}, {four, dan}, {four, dan}, {bob, four}}},
		{"PLeft", by(api.PLeft, same(0, 2), table(0), table(1)), lefts},
		{"PAdd", plan(api.PAdd, table(1), table(1)), doubles},
		{"PSub", plan(api.PSub, table(0), plan(api.PDistinct, table(0))), []rows{{once(1, bob), p[0][2]}, {once(2, bob)}, {once(2, bob)}, {once(2, bob)}}},
		{"PSub of itself", plan(api.PSub, table(0), table(0)), make([]rows, 4)},
		{"one above the other", by(api.PFilter, made(api.XGt, col(1), lit(num(2))), names), []rows{{row(1, text("ann"), num(4))}, {row(1, text("bob"), num(3))}, {row(1, text("bob"), num(3))}, nil}},
	} {
		got, f := Keep(tables, c.p, data, changes)
		check(t, c.what, got, f, c.want...)
	}
}

func TestG1FewChanges(t *testing.T) {
	tables, data, changes := shop()
	got, f := Keep(tables, table(0), data, nil)
	check(t, "no changes", got, f, data[0])
	for n := range changes {
		got, f = Keep(tables, table(1), data, changes[:n])
		check(t, fmt.Sprint(n, " changes"), got, f, buys()[:n+1]...)
	}
	got, f = Keep(tables, table(0), data, [][]rows{{nil, nil}, {nil, nil}})
	check(t, "nothing changes", got, f, data[0], data[0], data[0])
	one := row(1, num(1))
	got, f = Keep([][]int{{integer}}, table(0), []rows{nil}, [][]rows{{{one}}})
	check(t, "of nothing, and a row more", got, f, nil, rows{one})
	got, f = Keep([][]int{{integer}}, table(0), []rows{{one}}, [][]rows{{gone(rows{one})}, {{one}}, {{one}}})
	check(t, "gone, and there again", got, f, rows{one}, nil, rows{one}, rows{row(2, num(1))})
	got, f = Keep([][]int{{integer}}, table(0), []rows{nil}, [][]rows{{gone(rows{one})}, {{row(3, num(1))}}})
	check(t, "less than nothing for a while", got, f, nil, rows{row(-1, num(1))}, rows{row(2, num(1))})
	got, f = Keep([][]int{{}}, table(0), []rows{{row(1)}}, [][]rows{{{row(2)}}})
	check(t, "a table without columns", got, f, rows{row(1)}, rows{row(3)})
	got, f = Keep([][]int{{integer}}, grouped(table(0), nil, agg(api.AgRows, api.Expr{})), []rows{nil}, [][]rows{{{one}}})
	check(t, "how many of none there are", got, f, rows{row(1, num(0))}, rows{row(1, num(1))})
}

// liesOf is what is wrong with tables' rows, of an integer, and of an integer and a text.
func liesOf() (tables [][]int, lies []lie) {
	return [][]int{{integer}, {integer, texts}}, []lie{
		{"no lists", nil, api.ErrFit},
		{"a list too few", []rows{nil}, api.ErrFit},
		{"a list too many", []rows{nil, nil, nil}, api.ErrFit},
		{"a row twice", []rows{nil, {row(1, null, null), row(1, null, null)}}, api.ErrForm},
		{"rows that fall", []rows{{row(1, num(2)), row(1, num(1))}, nil}, api.ErrForm},
		{"no weight", []rows{{row(0, num(1))}, nil}, api.ErrRange},
		{"too much weight", []rows{{row(most+1, num(1))}, nil}, api.ErrRange},
		{"no kind", []rows{{row(1, api.Val{})}, nil}, api.ErrKind},
		{"too many rows", []rows{nil, make(rows, api.MaxRows+1)}, api.ErrMany},
		{"another type", []rows{nil, {row(1, num(1), num(1))}}, api.ErrType},
		{"another length", []rows{{row(1, num(1), num(1))}, nil}, api.ErrFit},
		{"the first table first", []rows{{row(1, text(""))}, {row(0)}}, api.ErrType},
	}
}

type lie struct {
	what string
	sets []rows
	want api.Errno
}

// What Eval tells of the plan and of data comes ahead of all that is wrong with changes.
func TestG1EvalsError(t *testing.T) {
	tables, lies := liesOf()
	good := []rows{{row(most, num(1))}, {row(1, num(1), null)}}
	many := make([][]rows, api.MaxChanges+1)
	all := [][][]rows{nil, many, {good}, {{{row(1, num(1))}, nil}}}
	for _, l := range lies {
		all = append(all, [][]rows{l.sets})
	}
	for _, changes := range all {
		for i, p := range []api.Plan{{}, table(2), by(api.PFilter, col(0), table(0)), plan(api.PAdd, table(0), table(1)), top(-1, table(0)), by(api.PFilter, lit(yes))} {
			want := []api.Errno{api.ErrKind, api.ErrName, api.ErrType, api.ErrFit, api.ErrRange, api.ErrMany}[i]
			for _, data := range [][]rows{nil, {{row(0)}, nil}, good} {
				got, f := Keep(tables, p, data, changes)
				checkFault(t, fmt.Sprint("plan ", i), got, f, want, 0)
			}
		}
		got, f := Keep([][]int{{9}}, table(0), good[:1], changes)
		checkFault(t, "tables that are wrong", got, f, api.ErrKind, 0)
		for _, l := range lies {
			for _, p := range []api.Plan{table(0), table(1), by(api.PFilter, lit(no), table(0)), top(0, table(1))} {
				got, f := Keep(tables, p, l.sets, changes)
				checkFault(t, "data: "+l.what, got, f, l.want, 0)
			}
		}
		got, f = Keep(tables, plan(api.PAdd, table(0), table(0)), good, changes)
		checkFault(t, "a set on the way that is too large", got, f, api.ErrRange, 0)
	}
}

func TestG1TooManyChanges(t *testing.T) {
	one := rows{row(1, num(1))}
	changes := slices.Repeat([][]rows{{one}}, api.MaxChanges+1)
	wrong := slices.Repeat([][]rows{{{row(0)}}}, api.MaxChanges+1)
	heavy := slices.Repeat([][]rows{{{row(most, num(1))}}}, api.MaxChanges+1)
	for _, l := range [][][]rows{changes, wrong, heavy, make([][]rows, api.MaxChanges+1), slices.Repeat(changes, 9)} {
		got, f := Keep([][]int{{integer}}, table(0), []rows{one}, l)
		checkFault(t, "a change too many", got, f, api.ErrMany, 0)
	}
	var want []rows
	for i := range api.MaxChanges + 1 {
		want = append(want, rows{row(int64(i+1), num(1))})
	}
	got, f := Keep([][]int{{integer}}, table(0), []rows{one}, changes[1:])
	check(t, "as many changes as may be", got, f, want...)
	got, f = Keep([][]int{{integer}}, table(0), []rows{one}, slices.Concat(changes[:api.MaxChanges-1], [][]rows{{{row(0)}}}))
	checkFault(t, "the last change that may be", got, f, api.ErrRange, api.MaxChanges)
}

// What is wrong with changes is told of the first one of which something is, at its number.
func TestG1WrongChanges(t *testing.T) {
	tables, lies := liesOf()
	good, calm := []rows{{row(1, num(1))}, {row(1, num(1), null)}}, []rows{{row(1, num(1))}, {row(2, num(1), text("a"))}}
	full := []rows{{row(most, num(1))}, nil}
	for _, p := range []api.Plan{table(0), table(1), by(api.PFilter, lit(no), table(0)), top(0, table(1))} {
		for i, l := range lies {
			for ahead := range 4 {
				changes := append(slices.Repeat([][]rows{calm}, ahead), l.sets)
				got, f := Keep(tables, p, good, changes)
				checkFault(t, l.what, got, f, l.want, ahead+1)
				got, f = Keep(tables, p, good, append(changes, lies[(i+1)%len(lies)].sets, full))
				checkFault(t, l.what+", and more behind it", got, f, l.want, ahead+1)
			}
			got, f := Keep(tables, p, good, [][]rows{calm, full, l.sets})
			checkFault(t, "too heavy ahead of what is wrong: "+l.what, got, f, api.ErrRange, 2)
		}
	}
	// Of one change, what is wrong with its rows comes ahead of what it does to the tables.
	got, f := Keep(tables, table(0), good, [][]rows{calm, {{row(most, num(1))}, {row(1, num(1), num(1))}}})
	checkFault(t, "too heavy, and of another type", got, f, api.ErrType, 2)
	got, f = Keep(tables, table(0), good, [][]rows{{{row(most, num(1))}, nil, nil}})
	checkFault(t, "too heavy, and a list too many", got, f, api.ErrFit, 1)
}

// Changes are added up: it is the tables of then that must not become too large.
func TestG1ChangesAddUp(t *testing.T) {
	tables := [][]int{{integer}, {integer}}
	half := []rows{nil, {row(most/2, num(1))}}
	back := []rows{nil, {row(-most/2, num(1))}}
	empty := []rows{nil, nil}
	for _, p := range []api.Plan{table(0), by(api.PFilter, lit(no), table(1)), top(0, table(1))} {
		got, f := Keep(tables, p, empty, [][]rows{half, half, half})
		checkFault(t, "too heavy at last", got, f, api.ErrRange, 3)
		got, f = Keep(tables, p, half, [][]rows{back, back, back, empty, back})
		checkFault(t, "too light at last", got, f, api.ErrRange, 5)
		got, f = Keep(tables, p, half, [][]rows{half, back, half, half, back})
		checkFault(t, "too heavy, had it not gone before", got, f, api.ErrRange, 4)
		got, f = Keep(tables, p, empty, [][]rows{half, half, back, half, back, back, back, back})
		check(t, "never too heavy", got, f, make([]rows, 9)...)
		got, f = Keep(tables, p, []rows{nil, run(0, 399)}, [][]rows{{nil, run(0, 399)}, {nil, run(399, 1)}, {run(0, 400), nil}, {nil, run(400, 1)}})
		if f != (api.Fault{Err: api.ErrMany, At: 4}) || got != nil {
			t.Errorf("too many at last: fault %v and %s come", f, toldAll(got))
		}
	}
	got, f := Keep(tables, table(1), half, [][]rows{half, back, back, back, back})
	w := func(n int64) rows { return rows{row(n, num(1))} }
	check(t, "up and down", got, f, w(most/2), w(most), w(most/2), nil, w(-most/2), w(-most))
	got, f = Keep(tables[:1], top(1, table(0), col(0)), []rows{run(0, 400)}, [][]rows{{gone(run(0, 399))}, {run(400, 399)}, {run(-5, 1)}})
	checkFault(t, "too many at last", got, f, api.ErrMany, 3)
	got, f = Keep(tables[:1], top(1, table(0), col(0)), []rows{run(0, 400)}, [][]rows{{gone(run(0, 399))}, {run(400, 399)}, {gone(run(399, 1))}, {run(-5, 1)}})
	check(t, "full, and others in their stead", got, f, run(0, 1), run(399, 1), run(399, 1), run(400, 1), run(-5, 1))
}

// Where a set on the way, or a step between two, is too large, this goes on or tells an error there, whichever: the rest holds.
func TestG1TooLarge(t *testing.T) {
	tables := [][]int{{integer}, {integer}}
	double, pairs := plan(api.PAdd, table(0), table(0)), by(api.PJoin, lit(yes), table(0), table(1))
	none := []rows{nil, nil}
	for _, c := range []struct {
		what    string
		p       api.Plan
		data    []rows
		changes [][]rows
	}{
		{"then", double, none, [][]rows{none, {{row(most, num(1))}, nil}}},
		{"for a while", double, none, [][]rows{none, {{row(most, num(1))}, nil}, {{row(-most, num(1))}, nil}}},
		{"in between", plan(api.PSub, table(0), table(1)), []rows{{row(-most, num(1))}, nil}, [][]rows{none, {{row(most, num(1))}, {row(-most, num(1))}}}},
		{"too many pairs then", pairs, []rows{run(0, 200), nil}, [][]rows{none, {nil, run(0, 200)}}},
		{"too many rows of change", pairs, []rows{run(0, 300), run(0, 1)}, [][]rows{none, {nil, {row(-1, num(0)), row(1, num(1))}}}},
	} {
		got, f := Keep(tables, c.p, c.data, c.changes)
		if f.Err != api.OK && (got != nil || f.At != 2) {
			t.Errorf("%s: %s comes beside fault %v", c.what, toldAll(got), f)
		}
		if f.Err == api.OK && (f.At != 0 || len(got) != len(c.changes)+1) {
			t.Errorf("%s: fault %v and %s come", c.what, f, toldAll(got))
		}
	}
}

// maker makes sets and plans, the same ones in each run.
type maker struct{ state uint32 }

func (m *maker) upTo(n int) int {
	m.state = m.state*1664525 + 1013904223
	return int(m.state>>16) % n
}

func (m *maker) val(kind int) api.Val {
	switch {
	case m.upTo(4) == 0:
		return null
	case kind == boolean:
		return vals.Bool(m.upTo(2) == 0)
	case kind == integer:
		return num([]int64{-2, 0, 1, 3, api.MaxInt}[m.upTo(5)])
	case kind == texts:
		return text([]string{"", "a", "b"}[m.upTo(3)])
	}
	return null
}

func (m *maker) set(cols []int, n int) rows {
	var l rows
	for range m.upTo(n) {
		r := row([]int64{-2, -1, -1, 1, 1, 2, 3, 5000}[m.upTo(8)])
		for _, kind := range cols {
			r.Row = append(r.Row, m.val(kind))
		}
		l = append(l, r)
	}
	z, _ := zsets.Of(l)
	return z
}

func (m *maker) sets(tables [][]int, n int) []rows {
	out := make([]rows, len(tables))
	for i, cols := range tables {
		out[i] = m.set(cols, n)
	}
	return out
}

// plan makes a plan that mostly is right, nested at most so deep.
func (m *maker) plan(deep int) api.Plan {
	if deep == 1 || m.upTo(5) == 0 {
		return table(m.upTo(3))
	}
	kid := m.plan(deep - 1)
	switch kind := 2 + m.upTo(12); kind {
	case api.PFilter:
		return by(kind, m.expr(), kid)
	case api.PMap:
		return mapped(kid, m.exprs()...)
	case api.PJoin, api.PSemi, api.PAnti, api.PLeft, api.PAdd, api.PSub:
		return by(kind, m.expr(), kid, m.plan(deep-1))
	case api.PGroup:
		return grouped(kid, m.exprs(), agg(1+m.upTo(5), m.expr()))
	case api.PTop:
		return top(m.upTo(6), kid, m.exprs()...)
	default:
		return plan(kind, kid)
	}
}

func (m *maker) expr() api.Expr {
	l := these(col(0), col(1), col(m.upTo(4)), same(0, 1), same(0, 2), lit(yes), lit(null), made(api.XLt, col(0), lit(num(2))), made(api.XIsNull, col(1)), made(api.XAdd, col(0), col(0)))
	return l[m.upTo(len(l))]
}

func (m *maker) exprs() (out []api.Expr) {
	for range m.upTo(4) {
		out = append(out, m.expr())
	}
	return out
}

func someTables() [][]int { return [][]int{{integer, texts}, {integer, integer}, {boolean, none}} }

// changes makes some changes of tables.
func (m *maker) changes(tables [][]int, n int) (out [][]rows) {
	for range m.upTo(n) {
		out = append(out, m.sets(tables, 5))
	}
	return out
}

// plainly is what p comes to of data with all changes so far laid beside it at once: said once more, each time from the beginning. It is false where an error may come.
func plainly(tables [][]int, p api.Plan, data []rows, changes [][]rows) ([]rows, bool) {
	var out []rows
	for n := range len(changes) + 1 {
		then := slices.Clone(data)
		for _, change := range changes[:n] {
			for i := range change {
				then[i] = slices.Concat(then[i], change[i])
			}
		}
		for i := range then {
			then[i], _ = zsets.Of(then[i])
		}
		z, err := query.Eval(tables, p, then)
		if err != api.OK {
			return nil, false
		}
		if n > 0 {
			if _, err := zsets.Sub(z, out[n-1]); err != api.OK {
				return nil, false
			}
		}
		out = append(out, z)
	}
	return out, true
}

// steps is what p comes to of data, and with each change of it added up.
func steps(tables [][]int, p api.Plan, data []rows, changes [][]rows) ([]rows, bool) {
	z, err := query.Eval(tables, p, data)
	out, ok := []rows{z}, err == api.OK
	for i, change := range changes {
		more, err := delta.Of(tables, p, data, change)
		data, _ = delta.Apply(data, change)
		z, err2 := zsets.Add(out[i], more)
		out, ok = append(out, z), ok && err == api.OK && err2 == api.OK
	}
	return out, ok
}

func TestG1PlainlyTheSame(t *testing.T) {
	m := maker{state: 11}
	tables := someTables()
	right, news := map[int]int{}, map[int]int{}
	for range 30000 {
		p := m.plan(1 + m.upTo(5))
		data, changes := m.sets(tables, 6), m.changes(tables, 6)
		got, f := Keep(tables, p, data, changes)
		if _, wrong := query.Cols(tables, p); wrong != api.OK {
			checkFault(t, "a plan that is wrong", got, f, wrong, 0)
			continue
		}
		want, ok := plainly(tables, p, data, changes)
		if !ok {
			continue
		}
		check(t, fmt.Sprint("kind ", p.Kind), got, f, want...)
		if want, ok := steps(tables, p, data, changes); ok {
			check(t, fmt.Sprint("kind ", p.Kind, ", step by step"), got, f, want...)
		}
		right[p.Kind]++
		if told(want[0]) != told(want[len(want)-1]) {
			news[p.Kind]++
		}
	}
	for kind := api.PTable; kind <= api.PTop; kind++ {
		if right[kind] < 50 || news[kind] < 20 {
			t.Errorf("kind %d comes %d times, and changes %d times", kind, right[kind], news[kind])
		}
	}
}
