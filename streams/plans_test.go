package streams

import (
	"fmt"
	"slices"
	"testing"

	"tidemark/api"
	"tidemark/delta"
	"tidemark/keep"
	"tidemark/query"
)

func col(n int) api.Expr                       { return api.Expr{Kind: api.XCol, Col: n} }
func lit(v api.Val) api.Expr                   { return api.Expr{Kind: api.XLit, Val: v} }
func made(k int, kids ...api.Expr) api.Expr    { return api.Expr{Kind: k, Kids: kids} }
func same(a, b int) api.Expr                   { return made(api.XEq, col(a), col(b)) }
func plan(kind int, kids ...api.Plan) api.Plan { return api.Plan{Kind: kind, Kids: kids} }
func table(n int) api.Plan                     { return api.Plan{Kind: api.PTable, N: n} }

// by is a plan with a condition.
func by(kind int, x api.Expr, kids ...api.Plan) api.Plan {
	return api.Plan{Kind: kind, X: x, Kids: kids}
}

func mapped(p api.Plan, xs ...api.Expr) api.Plan {
	return api.Plan{Kind: api.PMap, Xs: xs, Kids: []api.Plan{p}}
}

func top(n int, p api.Plan, xs ...api.Expr) api.Plan {
	return api.Plan{Kind: api.PTop, N: n, Xs: xs, Kids: []api.Plan{p}}
}

// summed is the sum of x, by groups.
func summed(p api.Plan, x api.Expr, keys ...api.Expr) api.Plan {
	return api.Plan{Kind: api.PGroup, Xs: keys, Aggs: []api.Agg{{Kind: api.AgSum, X: x}}, Kids: []api.Plan{p}}
}

// two is a row of two values.
func two(w int64, a, b api.Val) api.ZRow { return row(w, a, b) }

// lane is two tables of numbers, and what comes of them one after the other: added up, {1, 2 2} {2}; {2 2, 3} {2}; {2 2, 3} {3 3}, twice.
func lane() (tables [][]int, l [][]rows) {
	return [][]int{{integer}, {integer}}, [][]rows{{set(1, 1, 2, 2), set(2, 1)}, {set(1, -1, 3, 1), nil}, {nil, set(2, -1, 3, 2)}, {nil, nil}}
}

// asked is a plan, and what Lift and Inc tell of it along lane.
type asked struct {
	p         api.Plan
	lift, inc []rows
}

// ofOne and ofTwo have a plan of each kind.
func ofOne() []asked {
	low := made(api.XLt, col(0), lit(num(3)))
	lane0 := []rows{set(1, 1, 2, 2), set(1, -1, 3, 1), nil, nil}
	lows := []rows{set(1, 1, 2, 2), set(1, -1), nil, nil}
	more := []rows{set(2, 1, 3, 2), set(2, -1, 4, 1), nil, nil}
	unknown := rows{row(1, null)}
	return []asked{
		{table(0), lane0, lane0},
		{by(api.PFilter, low, table(0)), lows, lows},
		{mapped(table(0), made(api.XAdd, col(0), lit(num(1)))), more, more},
		{plan(api.PPositive, table(0)), []rows{set(1, 1, 2, 2), set(3, 1), nil, nil}, lane0},
		{plan(api.PDistinct, table(0)), []rows{set(1, 1, 2, 1), set(3, 1), nil, nil}, []rows{set(1, 1, 2, 1), set(1, -1, 3, 1), nil, nil}},
		{summed(table(0), col(0)), []rows{set(5, 1), set(3, 1), unknown, unknown}, []rows{set(5, 1), set(5, -1, 7, 1), nil, nil}},
		{top(1, table(0), col(0)), []rows{set(1, 1), set(3, 1), nil, nil}, []rows{set(1, 1), set(1, -1, 2, 1), nil, nil}},
	}
}

func ofTwo() []asked {
	n1, n2, n3 := num(1), num(2), num(3)
	double, apart := []rows{set(1, 2, 2, 4), set(1, -2, 3, 2), nil, nil}, []rows{set(1, 1, 2, 1), set(1, -1, 3, 1), set(2, 1, 3, -2), nil}
	left := []rows{{two(1, n1, null), two(2, n2, n2)}, {two(-1, n1, null), two(1, n3, null)}, nil, nil}
	pairs := []rows{{two(2, n2, n2)}, nil, nil, nil}
	return []asked{
		{by(api.PJoin, same(0, 1), table(0), table(1)), pairs, []rows{pairs[0], nil, {two(-2, n2, n2), two(2, n3, n3)}, nil}},
		{by(api.PSemi, same(0, 1), table(0), table(1)), []rows{set(2, 2), nil, nil, nil}, []rows{set(2, 2), nil, set(2, -2, 3, 1), nil}},
		{by(api.PAnti, same(0, 1), table(0), table(1)), []rows{set(1, 1), set(1, -1, 3, 1), nil, nil}, []rows{set(1, 1), set(1, -1, 3, 1), set(2, 2, 3, -1), nil}},
		{by(api.PLeft, same(0, 1), table(0), table(1)), left, []rows{left[0], left[1], {two(2, n2, null), two(-2, n2, n2), two(-1, n3, null), two(2, n3, n3)}, nil}},
		{plan(api.PAdd, table(0), table(0)), double, double},
		{plan(api.PSub, table(0), table(1)), apart, apart},
		{plan(api.PDistinct, by(api.PJoin, same(0, 1), table(0), table(1))), []rows{{two(1, n2, n2)}, nil, nil, nil}, []rows{{two(1, n2, n2)}, nil, {two(-1, n2, n2), two(1, n3, n3)}, nil}},
	}
}

func TestH2OfEachKind(t *testing.T) {
	tables, l := lane()
	for _, c := range append(ofOne(), ofTwo()...) {
		for n := range len(l) + 1 {
			got, f := Lift(tables, c.p, l[:n])
			check(t, fmt.Sprint("Lift of kind ", c.p.Kind, ", the first ", n), got, f, c.lift[:n]...)
			got, f = Inc(tables, c.p, l[:n])
			check(t, fmt.Sprint("Inc of kind ", c.p.Kind, ", the first ", n), got, f, c.inc[:n]...)
		}
	}
}

// planWay is one of the functions of a plan.
type planWay struct {
	name string
	call func(tables [][]int, p api.Plan, l [][]rows) ([]rows, api.Fault)
}

func planWays() []planWay { return []planWay{{"Lift", Lift}, {"Inc", Inc}} }

// badPlan is a plan, or tables, of which something is wrong.
type badPlan struct {
	tables [][]int
	p      api.Plan
	want   api.Errno
}

func badPlans() []badPlan {
	tables, _ := lane()
	return []badPlan{
		{tables, api.Plan{}, api.ErrKind},
		{tables, table(2), api.ErrName},
		{tables, by(api.PFilter, col(0), table(0)), api.ErrType},
		{tables, plan(api.PAdd, table(0)), api.ErrMany},
		{tables, top(-1, table(0)), api.ErrRange},
		{tables, plan(api.PAdd, table(0), mapped(table(0))), api.ErrFit},
		{[][]int{{integer}, {9}}, table(0), api.ErrKind},
		{make([][]int, api.MaxTables+1), table(0), api.ErrMany},
		{nil, table(0), api.ErrName},
	}
}

// Of nothing comes nothing, whatever the plan is.
func TestH2OfNothing(t *testing.T) {
	tables, _ := lane()
	for _, w := range planWays() {
		got, f := w.call(tables, table(0), nil)
		check(t, w.name, got, f)
		for _, c := range badPlans() {
			got, f := w.call(c.tables, c.p, nil)
			check(t, w.name+" of what is wrong", got, f)
		}
	}
}

func TestH2HowMany(t *testing.T) {
	tables, one := [][]int{{integer}}, [][]rows{{set(1, 1)}}
	ones := slices.Repeat(one, longest+1)
	for _, w := range planWays() {
		for _, l := range [][][]rows{ones, make([][]rows, longest+1), slices.Repeat([][]rows{{set(1, 0)}}, longest+1), slices.Repeat([][]rows{{set(1, most)}}, longest+1), slices.Repeat(ones, 9)} {
			got, f := w.call(tables, table(0), l)
			checkFault(t, w.name+" of one too many", got, f, api.ErrMany, 0)
			for _, c := range badPlans() {
				got, f := w.call(c.tables, c.p, l)
				checkFault(t, w.name+" of one too many, and what is wrong", got, f, api.ErrMany, 0)
			}
		}
		got, f := w.call(tables, table(0), ones[:longest])
		check(t, w.name+" of as many as may be", got, f, slices.Repeat([]rows{set(1, 1)}, longest)...)
		got, f = w.call(tables, table(0), append(slices.Repeat(one, longest-1), []rows{set(1, 0)}))
		checkFault(t, w.name+", the last one that may be", got, f, api.ErrRange, longest-1)
	}
}

// What is wrong with a plan is told at 0, whatever else is.
func TestH2WrongPlans(t *testing.T) {
	_, l := lane()
	for _, w := range planWays() {
		for _, c := range badPlans() {
			for _, l := range [][][]rows{l, l[:1], {nil}, {{set(1, 0)}}, {l[0], nil}} {
				got, f := w.call(c.tables, c.p, l)
				checkFault(t, w.name, got, f, c.want, 0)
			}
		}
	}
}

// tableLie is rows of two tables of a number each, of which something is wrong.
type tableLie struct {
	sets []rows
	want api.Errno
}

func tableLies() []tableLie {
	out := []tableLie{
		{nil, api.ErrFit},
		{[]rows{nil}, api.ErrFit},
		{[]rows{nil, nil, nil}, api.ErrFit},
		{[]rows{nil, {two(1, null, null)}}, api.ErrFit},
		{[]rows{{row(1)}, nil}, api.ErrFit},
		{[]rows{nil, {row(1, text("1"))}}, api.ErrType},
		{[]rows{{row(1, text("1"))}, set(1, 0)}, api.ErrType},
	}
	for _, c := range lies() {
		out = append(out, tableLie{[]rows{c.z, nil}, c.want}, tableLie{[]rows{set(7, 1), c.z}, c.want})
	}
	return out
}

// What is wrong with rows is told of the first ones of which something is, at their number; also of a table that isn't asked for.
func TestH2WrongRows(t *testing.T) {
	tables, _ := lane()
	calm := []rows{set(1, 1), set(2, -1)}
	for _, w := range planWays() {
		for _, p := range []api.Plan{table(0), table(1), by(api.PFilter, lit(null), table(0)), top(0, table(1))} {
			for i, c := range tableLies() {
				for ahead := range 4 {
					l := append(slices.Repeat([][]rows{calm}, ahead), c.sets)
					what := fmt.Sprint(w.name, " of lie ", i)
					got, f := w.call(tables, p, l)
					checkFault(t, what, got, f, c.want, ahead)
					other := tableLies()[(i+1)%len(tableLies())].sets
					got, f = w.call(tables, p, append(l, calm, other, []rows{set(1, most), nil}))
					checkFault(t, what+", and more behind it", got, f, c.want, ahead)
				}
			}
		}
	}
}

// Lift asks of each by itself: what is too large is told there, and nothing adds up.
func TestH2LiftTooLarge(t *testing.T) {
	tables, _ := lane()
	full, half := []rows{set(1, most), nil}, []rows{set(1, most/2), nil}
	double, pairs := plan(api.PAdd, table(0), table(0)), by(api.PJoin, lit(api.Val{Kind: api.VBool, N: 1}), table(0), table(1))
	got, f := Lift(tables, table(0), [][]rows{full, full, full})
	check(t, "full each time", got, f, full[0], full[0], full[0])
	got, f = Lift(tables, double, [][]rows{half, half})
	check(t, "half each time", got, f, full[0], full[0])
	got, f = Lift(tables, double, [][]rows{half, half, full, {nil}})
	checkFault(t, "too heavy", got, f, api.ErrRange, 2)
	got, f = Lift(tables, plan(api.PDistinct, double), [][]rows{full})
	checkFault(t, "too heavy on the way", got, f, api.ErrRange, 0)
	got, f = Lift(tables, pairs, [][]rows{{run(0, 20), run(0, 20)}, {run(0, 21), run(0, 20)}})
	checkFault(t, "too many pairs", got, f, api.ErrMany, 1)
	got, f = Lift(tables, double, [][]rows{half, full, {set(1, 0), nil}})
	checkFault(t, "too heavy ahead of what is wrong", got, f, api.ErrRange, 1)
}

// Inc adds up: it is the tables of then that must not become too large, also one that isn't asked for.
func TestH2IncTablesTooLarge(t *testing.T) {
	tables, _ := lane()
	half, back, calm := []rows{nil, set(1, most/2)}, []rows{nil, set(1, -most/2)}, []rows{nil, nil}
	for _, p := range []api.Plan{table(0), by(api.PFilter, lit(null), table(1)), top(0, table(1))} {
		got, f := Inc(tables, p, [][]rows{half, half, calm, half})
		checkFault(t, "too heavy at last", got, f, api.ErrRange, 3)
		got, f = Inc(tables, p, [][]rows{back, back, half, back, back})
		checkFault(t, "too light at last", got, f, api.ErrRange, 4)
		got, f = Inc(tables, p, [][]rows{{nil, run(0, 400)}, {nil, run(0, 400)}, {run(0, 400), nil}, {nil, run(400, 1)}})
		checkFault(t, "too many at last", got, f, api.ErrMany, 3)
		got, f = Inc(tables, p, [][]rows{half, half, half, {nil}})
		checkFault(t, "too heavy ahead of what is wrong", got, f, api.ErrRange, 2)
		got, f = Inc(tables, p, [][]rows{half, half, {{row(1, text(""))}, set(1, 1)}})
		checkFault(t, "too heavy, and of another type", got, f, api.ErrType, 2)
		got, f = Inc(tables, p, [][]rows{half, half, back, back, back, back})
		check(t, "never too heavy", got, f, make([]rows, 6)...)
	}
	got, f := Inc(tables, table(1), [][]rows{half, half, back, back, back, back})
	check(t, "up and down", got, f, half[1], half[1], back[1], back[1], back[1], back[1])
	double := plan(api.PAdd, table(0), table(0))
	got, f = Inc(tables, double, [][]rows{{set(1, most), nil}, {set(1, -most), nil}})
	checkFault(t, "too large at first", got, f, api.ErrRange, 0)
}

// Where what comes, or a step, is too large, nothing is promised of what is told but that it is one thing or the other.
func TestH2IncTooLarge(t *testing.T) {
	tables, _ := lane()
	for i, l := range [][][]rows{
		{{nil, nil}, {set(1, most), nil}},
		{{nil, nil}, {set(1, most), nil}, {set(1, -most), nil}},
		{{set(1, -most/2), nil}, {set(1, most), nil}, {nil, nil}},
		{{run(0, 400), nil}, {nil, run(0, 400)}},
	} {
		for _, p := range []api.Plan{plan(api.PAdd, table(0), table(0)), by(api.PLeft, same(0, 1), table(0), table(1))} {
			got, f := Inc(tables, p, l)
			if f.Err != api.OK && (got != nil || f.At < 0 || f.At >= len(l)) || f.Err == api.OK && (f.At != 0 || len(got) != len(l)) {
				t.Errorf("stream %d, kind %d: fault %v and %s come", i, p.Kind, f, told(got))
			}
		}
	}
}

func someTables() [][]int { return [][]int{{integer, texts}, {integer, integer}} }

func (m *maker) streamOf(tables [][]int) [][]rows {
	var out [][]rows
	for range m.upTo(6) {
		var sets []rows
		for _, cols := range tables {
			sets = append(sets, m.set(cols))
		}
		out = append(out, sets)
	}
	return out
}

func (m *maker) expr() api.Expr {
	l := []api.Expr{col(0), col(1), col(m.upTo(4)), same(0, 1), same(0, 2), same(0, 2), lit(null), made(api.XLt, col(0), lit(num(2))), made(api.XIsNull, col(1)), made(api.XAdd, col(0), col(0))}
	return l[m.upTo(len(l))]
}

func (m *maker) exprs() (out []api.Expr) {
	for range m.upTo(4) {
		out = append(out, m.expr())
	}
	return out
}

// plan makes a plan of so many tables that mostly is right, nested at most so deep.
func (m *maker) plan(tables, deep int) api.Plan {
	if deep == 1 || m.upTo(5) == 0 {
		return table(m.upTo(tables))
	}
	p := api.Plan{Kind: 2 + m.upTo(12), X: m.expr(), Xs: m.exprs(), N: m.upTo(6), Kids: []api.Plan{m.plan(tables, deep-1)}}
	switch p.Kind {
	case api.PJoin, api.PSemi, api.PAnti, api.PLeft, api.PAdd, api.PSub:
		p.Kids = append(p.Kids, m.plan(tables, deep-1))
	case api.PGroup:
		p.Aggs = []api.Agg{{Kind: 1 + m.upTo(5), X: m.expr()}}
	}
	return p
}

// linear tells whether p is made of what is linear alone.
func linear(p api.Plan) bool {
	switch p.Kind {
	case api.PTable, api.PFilter, api.PMap, api.PAdd, api.PSub:
		return !slices.ContainsFunc(p.Kids, func(k api.Plan) bool { return !linear(k) })
	}
	return false
}

// added is l, the tables added up.
func added(tables [][]int, l [][]rows) [][]rows {
	out := make([][]rows, len(l))
	for i := range tables {
		var one []rows
		for _, sets := range l {
			one = append(one, sets[i])
		}
		for n, z := range must(Integrate(one)) {
			out[n] = append(out[n], z)
		}
	}
	return out
}

// checkSteps: Inc tells at each step what changes of the tables up to there make of them.
func checkSteps(t *testing.T, tables [][]int, p api.Plan, l [][]rows, got []rows) {
	t.Helper()
	sums := added(tables, l)
	for i := range l {
		before := make([]rows, len(tables))
		if i > 0 {
			before = sums[i-1]
		}
		want, err := delta.Of(tables, p, before, l[i])
		if i == 0 {
			want, err = query.Eval(tables, p, l[0])
		}
		if err != api.OK || told(got[i:i+1]) != told([]rows{want}) {
			t.Errorf("kind %d at %d: %s comes, not %s, error %d", p.Kind, i, told(got[i:i+1]), told([]rows{want}), err)
		}
	}
}

// Added up, asked, and told apart: that is what Inc tells; of what is linear it is what Lift tells.
func TestH2PlainlyTheSame(t *testing.T) {
	m, tables := maker{state: 23}, someTables()
	right, news, linears := map[int]int{}, map[int]int{}, 0
	for range 20000 {
		p, l := m.plan(len(tables), 1+m.upTo(5)), m.streamOf(tables)
		lifted, f := Lift(tables, p, l)
		got, g := Inc(tables, p, l)
		if _, wrong := query.Cols(tables, p); wrong != api.OK && len(l) > 0 {
			checkFault(t, "Lift of a plan that is wrong", lifted, f, wrong, 0)
			checkFault(t, "Inc of a plan that is wrong", got, g, wrong, 0)
			continue
		}
		checkLift(t, tables, p, l, lifted, f)
		sums, f := Lift(tables, p, added(tables, l))
		want, f2 := Differentiate(sums)
		if f != (api.Fault{}) || f2 != (api.Fault{}) {
			continue
		}
		check(t, fmt.Sprint("kind ", p.Kind), got, g, want...)
		checkSteps(t, tables, p, l, got)
		if linear(p) {
			linears++
			check(t, fmt.Sprint("linear, kind ", p.Kind), got, g, lifted...)
		}
		right[p.Kind]++
		if len(got) > 1 && told(got[1:]) != told(make([]rows, len(got)-1)) {
			news[p.Kind]++
		}
	}
	for kind := api.PTable; kind <= api.PTop; kind++ {
		if right[kind] < 50 || news[kind] < 20 {
			t.Errorf("kind %d comes %d times, and changes %d times", kind, right[kind], news[kind])
		}
	}
	if linears < 500 {
		t.Errorf("only %d plans are linear", linears)
	}
}

// checkLift: Lift tells what Eval does of each, or its first error.
func checkLift(t *testing.T, tables [][]int, p api.Plan, l [][]rows, got []rows, f api.Fault) {
	t.Helper()
	var want []rows
	for i, data := range l {
		z, err := query.Eval(tables, p, data)
		if err != api.OK {
			checkFault(t, "Lift", got, f, err, i)
			return
		}
		want = append(want, z)
	}
	check(t, fmt.Sprint("Lift of kind ", p.Kind), got, f, want...)
}

// The chain rule: how a plan over another one changes is how the upper one changes, as the lower one does.
func TestH2ChainRule(t *testing.T) {
	m, tables, times := maker{state: 31}, someTables(), 0
	for range 20000 {
		low, l := m.plan(len(tables), 1+m.upTo(3)), m.streamOf(tables)
		cols, err := query.Cols(tables, low)
		high := m.plan(1, 2+m.upTo(2))
		lows, f := Inc(tables, low, l)
		if err != api.OK || f != (api.Fault{}) {
			continue
		}
		var between [][]rows
		for _, z := range lows {
			between = append(between, []rows{z})
		}
		want, f := Inc([][]int{cols}, high, between)
		if f != (api.Fault{}) {
			continue
		}
		got, f := Inc(tables, over(high, low), l)
		check(t, fmt.Sprint("kind ", high.Kind, " over kind ", low.Kind), got, f, want...)
		times++
	}
	if times < 2000 {
		t.Errorf("only %d times the rule is asked", times)
	}
}

// over is high, with low wherever it has a table.
func over(high, low api.Plan) api.Plan {
	if high.Kind == api.PTable {
		return low
	}
	kids := make([]api.Plan, len(high.Kids))
	for i, k := range high.Kids {
		kids[i] = over(k, low)
	}
	high.Kids = kids
	return high
}

// Inc's fault is Keep's, wherever that tells one.
func TestH2IncKeepsFault(t *testing.T) {
	m, times := maker{state: 41}, map[int]int{}
	for range 20000 {
		g := m.odd()
		if len(g.l) == 0 {
			continue
		}
		_, want := keep.Keep(g.tables, g.p, g.l[0], g.l[1:])
		if want.Err != api.OK {
			got, f := Inc(g.tables, g.p, g.l)
			checkFault(t, "Inc", got, f, want.Err, want.At)
			times[want.At]++
		}
	}
	for at := range 4 {
		if times[at] < 20 {
			t.Errorf("%d faults come at %d", times[at], at)
		}
	}
}
