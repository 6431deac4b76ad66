package query

import (
	"math"
	"reflect"
	"slices"
	"strings"
	"testing"

	"tidemark/api"
	"tidemark/zsets"
)

// behind is l with more of its room used, so that what stands behind its end can be watched.
func behind[T any](l []T, more T) []T { return append(slices.Clone(l), more)[:len(l)] }

func spareExpr(x api.Expr) api.Expr {
	kids := slices.Clone(x.Kids)
	for i := range kids {
		kids[i] = spareExpr(kids[i])
	}
	x.Kids = behind(kids, api.Expr{Kind: 99})
	return x
}

// sparePlan is p, all its lists with spare room in use.
func sparePlan(p api.Plan) api.Plan {
	out := api.Plan{Kind: p.Kind, N: p.N, X: spareExpr(p.X)}
	for _, x := range p.Xs {
		out.Xs = append(out.Xs, spareExpr(x))
	}
	for _, g := range p.Aggs {
		out.Aggs = append(out.Aggs, agg(g.Kind, spareExpr(g.X)))
	}
	for _, k := range p.Kids {
		out.Kids = append(out.Kids, sparePlan(k))
	}
	out.Xs, out.Aggs, out.Kids = behind(out.Xs, api.Expr{Kind: 99}), behind(out.Aggs, api.Agg{Kind: 99}), behind(out.Kids, api.Plan{Kind: 99})
	return out
}

func spareSet(z rows) rows {
	var out rows
	for _, r := range z {
		out = append(out, row(r.W, behind(r.Row, text("behind"))...))
	}
	return behind(out, row(9, text("behind")))
}

// wholeExpr, wholePlan and wholeSet are copies, to the ends of the lists' rooms.
func wholeExpr(x api.Expr) api.Expr {
	var kids []api.Expr
	for _, k := range x.Kids[:cap(x.Kids)] {
		kids = append(kids, wholeExpr(k))
	}
	x.Kids = kids
	return x
}

func wholePlan(p api.Plan) api.Plan {
	out := api.Plan{Kind: p.Kind, N: p.N, X: wholeExpr(p.X)}
	for _, x := range p.Xs[:cap(p.Xs)] {
		out.Xs = append(out.Xs, wholeExpr(x))
	}
	for _, g := range p.Aggs[:cap(p.Aggs)] {
		out.Aggs = append(out.Aggs, agg(g.Kind, wholeExpr(g.X)))
	}
	for _, k := range p.Kids[:cap(p.Kids)] {
		out.Kids = append(out.Kids, wholePlan(k))
	}
	return out
}

func wholeSet(z rows) rows {
	var out rows
	for _, r := range z[:cap(z)] {
		out = append(out, row(r.W, slices.Clone(r.Row[:cap(r.Row)])...))
	}
	return out
}

// given is all that a call may be given.
type given struct {
	tables [][]int
	p      api.Plan
	data   []rows
}

// spared is g, all its lists with spare room in use.
func spared(g given) given {
	out := given{p: sparePlan(g.p)}
	for _, cols := range g.tables {
		out.tables = append(out.tables, behind(cols, 99))
	}
	for _, z := range g.data {
		out.data = append(out.data, spareSet(z))
	}
	out.tables, out.data = behind(out.tables, []int{99}), behind(out.data, rows{row(0)})
	return out
}

// whole is a copy of g, to the ends of its lists' rooms.
func whole(g given) given {
	out := given{p: wholePlan(g.p)}
	for _, cols := range g.tables[:cap(g.tables)] {
		out.tables = append(out.tables, slices.Clone(cols[:cap(cols)]))
	}
	for _, z := range g.data[:cap(g.data)] {
		out.data = append(out.data, wholeSet(z))
	}
	return out
}

// everyKind has a plan of each kind that comes to some rows.
func everyKind() []given {
	tables, data := shop()
	data[0][0].Row[0].Text = "junk"
	kids := these(col(0), col(2))
	var out []given
	for _, p := range []api.Plan{
		table(0),
		by(api.PFilter, made(api.XLt, col(0), lit(api.Val{Kind: api.VInt, N: 3, Text: "junk"})), table(0)),
		mapped(table(0), col(1), lit(api.Val{Kind: api.VInt, N: 3, Text: "junk"})),
		by(api.PJoin, made(api.XEq, kids...), table(0), table(1)),
		by(api.PSemi, made(api.XEq, kids...), table(0), table(1)),
		by(api.PAnti, made(api.XEq, kids...), table(0), table(1)),
		by(api.PLeft, made(api.XEq, kids...), table(0), table(1)),
		plan(api.PAdd, table(0), table(0)),
		plan(api.PSub, table(0), plan(api.PDistinct, table(0))),
		plan(api.PPositive, table(0)),
		plan(api.PDistinct, table(0)),
		grouped(table(0), these(col(1)), agg(api.AgMax, col(0))),
		top(3, table(0), col(1)),
	} {
		out = append(out, given{tables: tables, p: p, data: data})
	}
	return out
}

func TestZ2ArgumentsAreOnlyRead(t *testing.T) {
	for _, g := range everyKind() {
		s := spared(g)
		before := whole(s)
		cols, err := Cols(s.tables, s.p)
		wantCols, _ := Cols(g.tables, g.p)
		if err != api.OK || !slices.Equal(cols, wantCols) {
			t.Errorf("kind %d: columns %d and error %d come", g.p.Kind, cols, err)
		}
		got, err := Eval(s.tables, s.p, s.data)
		want, _ := Eval(g.tables, g.p, g.data)
		check(t, "with spare room", got, err, want)
		if len(got) == 0 {
			t.Errorf("kind %d: nothing comes", g.p.Kind)
		}
		if !reflect.DeepEqual(whole(s), before) {
			t.Errorf("kind %d changes what it is given", g.p.Kind)
		}
		if strings.Contains(told(got), "junk") {
			t.Errorf("kind %d: a value isn't bare: %s", g.p.Kind, told(got))
		}
	}
}

func scribbleRow(l []api.Val) {
	for i := range l[:cap(l)] {
		l[:cap(l)][i] = text("scribble")
	}
}

func scribble(z rows) {
	for i, r := range z[:cap(z)] {
		scribbleRow(r.Row)
		z[:cap(z)][i].W = 77
	}
}

func TestZ2AnswersAreTheCallers(t *testing.T) {
	for _, g := range everyKind() {
		s := spared(g)
		before := whole(s)
		first, _ := Eval(s.tables, s.p, s.data)
		want := told(first)
		scribble(first)
		cols, _ := Cols(s.tables, s.p)
		for i := range cols[:cap(cols)] {
			cols[:cap(cols)][i] = 77
		}
		if !reflect.DeepEqual(whole(s), before) {
			t.Errorf("kind %d answers what it was given", g.p.Kind)
		}
		second, err := Eval(s.tables, s.p, s.data)
		if err != api.OK || told(second) != want {
			t.Errorf("kind %d: %s comes the second time, not %s", g.p.Kind, told(second), want)
		}
		for i := range second {
			scribbleRow(second[i].Row)
			if strings.Contains(told(second[i+1:]), "scribble") {
				t.Fatalf("kind %d: two rows of an answer share memory", g.p.Kind)
			}
		}
	}
}

// What is given may change as soon as a call has answered.
func TestZ2NothingIsKept(t *testing.T) {
	for _, g := range everyKind() {
		s := spared(g)
		cols, _ := Cols(s.tables, s.p)
		wantCols := slices.Clone(cols)
		got, _ := Eval(s.tables, s.p, s.data)
		want := told(got)
		for i := range s.data {
			scribble(s.data[i])
			clear(s.tables[i])
		}
		if told(got) != want || !slices.Equal(cols, wantCols) {
			t.Errorf("kind %d: who writes into what was given changes the answer", g.p.Kind)
		}
	}
}

func TestZ3NilAndEmptyAreTheSame(t *testing.T) {
	empty := func(p api.Plan) api.Plan {
		return api.Plan{Kind: p.Kind, X: api.Expr{Kind: api.XLit, Val: yes, Kids: these()}, Xs: these(), Aggs: []api.Agg{}, Kids: append([]api.Plan{}, p.Kids...)}
	}
	leaf := empty(table(0))
	for kind := api.PTable; kind <= api.PTop; kind++ {
		p, e := api.Plan{Kind: kind, X: lit(yes)}, empty(plan(kind))
		for range kidsOf(kind) {
			p.Kids, e.Kids = append(p.Kids, table(0)), append(e.Kids, leaf)
		}
		for _, z := range []rows{nil, {{W: 2}}} {
			other := rows{}
			for _, r := range z {
				other = append(other, row(r.W, []api.Val{}...))
			}
			one, err := Eval([][]int{nil}, p, []rows{z})
			two, err2 := Eval([][]int{{}}, e, []rows{other})
			if err != api.OK || err2 != api.OK || told(one) != told(two) {
				t.Errorf("kind %d: %s and error %d, %s and error %d come", kind, told(one), err, told(two), err2)
			}
		}
		one, err := Cols([][]int{nil}, p)
		two, err2 := Cols([][]int{{}}, e)
		if err != api.OK || err2 != api.OK || len(one)+len(two) != 0 {
			t.Errorf("kind %d: columns %d and error %d, %d and error %d come", kind, one, err, two, err2)
		}
	}
	for _, tables := range [][][]int{nil, {}} {
		checkWrong(t, "a table of none", tables, table(0), api.ErrName)
	}
}

// Fields that a kind has not mean nothing.
func TestZ5OtherFieldsMeanNothing(t *testing.T) {
	junk := api.Plan{N: -7, X: api.Expr{Kind: 99}, Xs: make([]api.Expr, 20), Aggs: make([]api.Agg, 20)}
	for _, g := range everyKind() {
		p, q := g.p, junk
		q.Kind, q.Kids = p.Kind, p.Kids
		switch p.Kind {
		case api.PTable:
			q.N = p.N
		case api.PFilter, api.PJoin, api.PSemi, api.PAnti, api.PLeft:
			q.X = p.X
		case api.PMap:
			q.Xs = p.Xs
		case api.PGroup:
			q.Xs, q.Aggs = p.Xs, p.Aggs
		case api.PTop:
			q.Xs, q.N = p.Xs, p.N
		}
		cols, _ := Cols(g.tables, p)
		checkCols(t, "with junk in it", g.tables, q, cols...)
		want, _ := Eval(g.tables, p, g.data)
		got, err := Eval(g.tables, q, g.data)
		check(t, "with junk in it", got, err, want)
	}
}

// odd makes something to be given in which much may be wrong.
func (m *maker) odd() given {
	numbers := []int{math.MinInt, -1, 0, 1, 2, 3, 4, 5, 12, 13, 14, 51, math.MaxInt}
	pick := func() int { return numbers[m.upTo(len(numbers))] }
	g := given{tables: [][]int{{integer, texts}, {integer, integer}, {boolean, none}}, p: m.plan(1 + m.upTo(5))}
	for _, cols := range g.tables {
		g.data = append(g.data, m.set(cols, 6))
	}
	for range m.upTo(3) {
		spoiled := &g.p
		for len(spoiled.Kids) > 0 && m.upTo(3) > 0 {
			spoiled = &spoiled.Kids[m.upTo(len(spoiled.Kids))]
		}
		switch m.upTo(8) {
		case 0:
			spoiled.Kind = pick()
		case 1:
			spoiled.N = pick()
		case 2:
			spoiled.Kids = append(spoiled.Kids, api.Plan{Kind: pick(), N: pick()})
		case 3:
			spoiled.X = api.Expr{Kind: pick(), Col: pick(), Kids: these(col(pick()))}
		case 4:
			spoiled.Aggs = append(spoiled.Aggs, agg(pick(), col(pick())))
		case 5:
			g.tables[m.upTo(3)][m.upTo(2)] = pick()
		case 6:
			g.data[m.upTo(len(g.data))] = rows{row(int64(pick()), api.Val{Kind: pick(), N: int64(pick())})}
		case 7:
			g.data = g.data[:m.upTo(len(g.data)+1)]
			g.data = append(g.data, nil)
		}
	}
	return g
}

func TestZ1NothingPanics(t *testing.T) {
	m := maker{state: 77}
	times := map[api.Errno]int{}
	for range 40000 {
		g := m.odd()
		cols, wrong := Cols(g.tables, g.p)
		rowsWrong := Wrong(g.tables, g.data)
		if wrong != api.OK && cols != nil {
			t.Errorf("columns %d come beside error %d", cols, wrong)
		}
		got, err := Eval(g.tables, g.p, g.data)
		if err != api.OK && got != nil {
			t.Errorf("%s comes beside error %d", told(got), err)
		}
		if wrong != api.OK && err != wrong {
			t.Errorf("error %d comes of the rows, %d of the columns", err, wrong)
		}
		if wrong == api.OK && rowsWrong != api.OK && err != rowsWrong {
			t.Errorf("error %d comes of all, %d of the rows", err, rowsWrong)
		}
		if err == api.OK && zsets.Wrong(got) != api.OK {
			t.Errorf("what comes is no set: %s", told(got))
		}
		times[err]++
	}
	for _, err := range []api.Errno{api.OK, api.ErrKind, api.ErrRange, api.ErrMany, api.ErrName, api.ErrFit, api.ErrType} {
		if times[err] == 0 {
			t.Errorf("error %d never comes", err)
		}
	}
}

// Whatever fits comes to its end: as many nodes as may be, each of them with as many pairs as may be.
func TestZ1TheGreatestEnd(t *testing.T) {
	full := make(rows, api.MaxRows)
	for i := range full {
		full[i] = row(1, num(int64(i)))
	}
	p, never := table(0), made(api.XLt, made(api.XAdd, col(0), col(1)), lit(num(0)))
	for range api.MaxNest - 1 {
		p = by(api.PAnti, never, p, by(api.PAnti, never, table(0), table(0)))
	}
	got, err := Eval([][]int{{integer}}, p, []rows{full})
	checkError(t, "too deep by one", got, err, api.ErrMuch)
	got, err = Eval([][]int{{integer}}, p.Kids[0], []rows{full})
	check(t, "as large as may be", got, err, full)
}
