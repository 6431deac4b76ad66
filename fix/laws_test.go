package fix

import (
	"reflect"
	"slices"
	"testing"

	"tidemark/api"
	"tidemark/exprs"
	"tidemark/query"
	"tidemark/zsets"
)

// maker makes plans and sets, the same ones in each run.
type maker struct{ state uint32 }

func (m *maker) upTo(n int) int {
	m.state = m.state*1664525 + 1013904223
	return int(m.state>>16) % n
}

// set makes a set; its weights are among these.
func (m *maker) set(cols []int, weights ...int64) rows {
	var l rows
	for range 1 + m.upTo(6) {
		r := row(weights[m.upTo(len(weights))])
		for _, kind := range cols {
			v := null
			if m.upTo(5) > 0 {
				v = map[int]api.Val{none: null, boolean: {Kind: boolean, N: int64(m.upTo(2))}, integer: num(int64(m.upTo(4))), texts: text([]string{"", "a", "b"}[m.upTo(3)])}[kind]
			}
			r.Row = append(r.Row, v)
		}
		l = append(l, r)
	}
	z, _ := zsets.Of(l)
	return z
}

func (m *maker) sets(tables [][]int, weights ...int64) (out []rows) {
	for _, cols := range tables {
		out = append(out, m.set(cols, weights...))
	}
	return out
}

// condition is one of so many columns, mostly of those that are numbers.
func (m *maker) condition(cols []int) api.Expr {
	for range 20 {
		a, b := m.upTo(len(cols)+1), m.upTo(len(cols)+1)
		l := these(same(a, b), made(api.XLt, col(a), col(b)), made(api.XNe, col(a), col(b)), below(a, 4), isNull(a), made(api.XNot, isNull(a)), lit(yes), lit(yes), lit(yes), lit(no), lit(null), col(a))
		x := l[m.upTo(len(l))]
		if kind, err := exprs.Type(cols, x); err == api.OK && (kind == boolean || kind == none) {
			return x
		}
	}
	return lit(yes)
}

// value is an expression of such a type.
func (m *maker) value(cols []int, kind int) api.Expr {
	for range 20 {
		a := m.upTo(len(cols) + 1)
		l := these(col(a), col(a), more(a), more(a), made(api.XMul, col(a), lit(num(2))), made(api.XCat, col(a), lit(text("c"))), isNull(a))
		x := l[m.upTo(len(l))]
		if got, err := exprs.Type(cols, x); err == api.OK && got == kind {
			return x
		}
	}
	return lit(map[int]api.Val{none: null, boolean: yes, integer: num(5), texts: text("d")}[kind])
}

// shaped is a map of p, with columns of these types; numbers are kept small, so that there is an end.
func (m *maker) shaped(tables [][]int, p api.Plan, kinds []int) api.Plan {
	cols, _ := query.Cols(tables, p)
	var xs []api.Expr
	for _, kind := range kinds {
		xs = append(xs, m.value(cols, kind))
	}
	p = mapped(p, xs...)
	for i, kind := range kinds {
		if kind == integer {
			p = filter(below(i, 8), p)
		}
	}
	return p
}

// plan makes a plan that is right, nested at most so deep, of these kinds.
func (m *maker) plan(tables [][]int, deep int, kinds []int) api.Plan {
	for range 20 {
		p := m.anyPlan(tables, deep, kinds)
		if _, err := query.Cols(tables, p); err == api.OK {
			return p
		}
	}
	return m.table(tables)
}

// table makes one of these, often the last one.
func (m *maker) table(tables [][]int) api.Plan {
	return table(len(tables) - 1 - m.upTo(1+m.upTo(len(tables))))
}

func (m *maker) anyPlan(tables [][]int, deep int, kinds []int) api.Plan {
	if deep == 1 || m.upTo(8) == 0 {
		return m.table(tables)
	}
	kid := m.plan(tables, deep-1, kinds)
	cols, _ := query.Cols(tables, kid)
	p := api.Plan{Kind: kinds[m.upTo(len(kinds))], Kids: []api.Plan{kid}}
	switch p.Kind {
	case api.PFilter:
		p.X = m.condition(cols)
	case api.PJoin, api.PSemi, api.PAnti, api.PLeft:
		other := m.plan(tables, deep-1, kinds)
		more, _ := query.Cols(tables, other)
		p.X, p.Kids = m.condition(slices.Concat(cols, more)), append(p.Kids, other)
	case api.PAdd, api.PSub:
		p.Kids = append(p.Kids, filter(m.condition(cols), kid))
	case api.PMap:
		p.Xs = these(m.value(cols, integer), m.value(cols, texts))
	case api.PGroup:
		p.Xs, p.Aggs = these(m.value(cols, integer)), []api.Agg{agg(api.AgRows, api.Expr{}), agg(api.AgMax, lit(num(1)))}
	case api.PTop:
		p.Xs, p.N = these(m.value(cols, integer)), m.upTo(5)
	}
	return p
}

// upToTop has all kinds of plans but PSub.
func upToTop() []int {
	return []int{api.PFilter, api.PMap, api.PJoin, api.PSemi, api.PAnti, api.PLeft, api.PAdd, api.PPositive, api.PDistinct, api.PGroup, api.PTop}
}

func someTables() [][]int {
	return [][]int{{integer, texts}, {integer, integer}, {boolean, none, integer}, {}}
}

// someCols are columns that seeds may have.
func (m *maker) someCols() []int {
	return [][]int{{integer}, {integer}, {integer, integer}, {integer, integer}, {integer, texts}, {boolean, integer}, {none, boolean}, {}}[m.upTo(8)]
}

// any makes a seed and a step of all kinds, that go together.
func (m *maker) any() given {
	tables, cols := someTables(), m.someCols()
	wide := append(someTables(), cols)
	kinds := append(upToTop(), api.PSub)
	g := given{tables: tables, data: m.sets(tables, -2, -1, 1, 2, 3)}
	g.seed = m.shaped(tables, m.plan(tables, 1+m.upTo(3), kinds), cols)
	g.step = m.shaped(wide, m.plan(wide, 1+m.upTo(4), kinds), cols)
	return g
}

// plainOne makes a seed and a step that is plain, that go together; no row goes.
func (m *maker) plainOne() given {
	tables, cols := someTables(), m.someCols()
	wide := append(someTables(), cols)
	g := given{tables: tables, data: m.sets(tables, 1, 2, 3)}
	g.seed = m.shaped(tables, m.plan(tables, 1+m.upTo(3), append(upToTop(), api.PSub)), cols)
	p := table(len(tables))
	for range m.upTo(4) {
		next := m.above(wide, p, m.plan(tables, 1+m.upTo(2), upToTop()))
		if _, err := query.Cols(wide, next); err == api.OK {
			p = next
		}
	}
	g.step = m.shaped(wide, p, cols)
	return g
}

// above is a node above p by which a step stays plain, with another plan beside it.
func (m *maker) above(wide [][]int, p, other api.Plan) api.Plan {
	cols, _ := query.Cols(wide, p)
	more, _ := query.Cols(wide, other)
	switch m.upTo(5) {
	case 0:
		return filter(m.condition(cols), p)
	case 1:
		return m.shaped(wide, p, m.someCols())
	case 2:
		return join(m.condition(slices.Concat(cols, more)), p, other)
	case 3:
		return join(m.condition(slices.Concat(more, cols)), other, p)
	}
	return semi(m.condition(slices.Concat(cols, more)), p, other)
}

// fixed is what the chapter says of Fix, word by word, of what nothing is wrong with.
func (g given) fixed() (rows, int, api.Errno) {
	seeded, err := query.Eval(g.tables, g.seed, g.data)
	if err != api.OK {
		return nil, 0, err
	}
	there, _ := zsets.Distinct(seeded)
	cols, _ := query.Cols(g.tables, g.seed)
	for n := 1; n <= api.MaxRounds; n++ {
		next, err := query.Eval(append(slices.Clone(g.tables), cols), g.step, append(slices.Clone(g.data), there))
		if err != api.OK {
			return nil, 0, err
		}
		next, _ = zsets.Distinct(next)
		both, err := zsets.Add(there, next)
		if err != api.OK {
			return nil, 0, err
		}
		both, _ = zsets.Distinct(both)
		if told(both) == told(there) {
			return there, n, api.OK
		}
		there = both
	}
	return nil, 0, api.ErrSteps
}

func TestJ1WordByWord(t *testing.T) {
	m := maker{state: 1}
	times := map[int]int{}
	for range 6000 {
		g := m.any()
		want, often, wrong := g.fixed()
		got, n, err := Fix(g.tables, g.seed, g.step, g.data)
		if told(got) != told(want) || n != often || err != wrong {
			t.Errorf("error %d and %s come, after %d times, not error %d and %s, after %d: %+v", err, told(got), n, wrong, told(want), often, g)
		}
		if err == api.OK && zsets.Wrong(got) != api.OK {
			t.Errorf("%s is no set", told(got))
		}
		times[min(n, 4)]++
	}
	for n := 1; n <= 4; n++ {
		if times[n] < 100 {
			t.Errorf("it is done %d times (or more) %d times", n, times[n])
		}
	}
}

// within tells whether each row of a is one of b.
func within(a, b rows) bool {
	return !slices.ContainsFunc(a, func(r api.ZRow) bool { return zsets.Weight(b, r.Row) == 0 })
}

// What comes of steps that are plain is quickly told; nothing is new of it, and it is the least such one: whoever begins with more comes to more.
func TestJ2Laws(t *testing.T) {
	m := maker{state: 2}
	times := map[int]int{}
	for range 6000 {
		g := m.plainOne()
		if !isPlain(g.step, len(g.tables)) {
			t.Fatalf("this is not plain: %+v", g.step)
		}
		want, n, err := Fix(g.tables, g.seed, g.step, g.data)
		got, quick := Quick(g.tables, g.seed, g.step, g.data)
		if err != api.OK {
			continue
		}
		times[min(n, 4)]++
		if quick != api.OK || told(got) != told(want) {
			t.Errorf("error %d and %s come quickly, not %s: %+v", quick, told(got), told(want), g)
		}
		g.checkLeast(t, want)
	}
	for n := 1; n <= 4; n++ {
		if times[n] < 100 {
			t.Errorf("it is done %d times (or more) %d times", n, times[n])
		}
	}
}

func (g given) checkLeast(t *testing.T, z rows) {
	t.Helper()
	cols, _ := query.Cols(g.tables, g.seed)
	wide := append(slices.Clone(g.tables), cols)
	seeded, _ := query.Eval(g.tables, g.seed, g.data)
	seeded, _ = zsets.Distinct(seeded)
	next, err := query.Eval(wide, g.step, append(slices.Clone(g.data), z))
	if err != api.OK || !within(next, z) || !within(seeded, z) {
		t.Errorf("%s (error %d) is new, or %s is not there: %s", told(next), err, told(seeded), told(z))
	}
	next, _ = zsets.Distinct(next)
	both, _ := zsets.Add(seeded, next)
	if !within(z, both) {
		t.Errorf("%s is there of nothing", told(z))
	}
	begun := g
	begun.seed = plan(api.PAdd, plan(api.PDistinct, g.seed), oneMore(cols))
	if got, _, err := Fix(begun.tables, begun.seed, begun.step, begun.data); err == api.OK && !within(z, got) {
		t.Errorf("%s comes of more, and less than %s", told(got), told(z))
	}
	// With what came as one table more, nothing is new.
	last := table(len(g.tables))
	step := renumbered(g.step, len(g.tables))
	got, n, err := Fix(wide, last, step, append(slices.Clone(g.data), z))
	if err != api.OK || n != 1 || told(got) != told(z) {
		t.Errorf("error %d and %s come, after %d times, where nothing is new", err, told(got), n)
	}
}

// oneMore is one row of such columns.
func oneMore(cols []int) api.Plan {
	p := mapped(grouped(table(0), nil))
	for _, kind := range cols {
		p.Xs = append(p.Xs, lit(map[int]api.Val{none: null, boolean: no, integer: num(3), texts: text("e")}[kind]))
	}
	return p
}

// renumbered is p with the table of that number one further on.
func renumbered(p api.Plan, n int) api.Plan {
	if p.Kind == api.PTable && p.N == n {
		return table(n + 1)
	}
	p.Kids = slices.Clone(p.Kids)
	for i, k := range p.Kids {
		p.Kids[i] = renumbered(k, n)
	}
	return p
}

// Whether a step is plain hangs on the plan alone, whatever it is made of.
func TestJ2WhichArePlain(t *testing.T) {
	m := maker{state: 3}
	times := map[bool]int{}
	for range 6000 {
		g := m.any()
		is := isPlain(g.step, len(g.tables))
		_, err := Quick(g.tables, g.seed, g.step, g.data)
		if !is && err != api.ErrFit || is && err == api.ErrFit {
			t.Errorf("error %d comes, and that it is plain is %t: %+v", err, is, g.step)
		}
		times[is]++
	}
	if times[true] < 200 || times[false] < 200 {
		t.Errorf("plain and not plain come so often: %v", times)
	}
}

// What is answered hangs on what is given alone.
func TestZ1TheSameAgain(t *testing.T) {
	m := maker{state: 4}
	for range 500 {
		g := m.any()
		a, n, err := Fix(g.tables, g.seed, g.step, g.data)
		b, n2, err2 := Fix(g.tables, g.seed, g.step, g.data)
		if !reflect.DeepEqual(a, b) || n != n2 || err != err2 {
			t.Errorf("%s and %d and %d come, then %s and %d and %d", told(a), n, err, told(b), n2, err2)
		}
	}
}
