package delta

import (
	"math"
	"reflect"
	"slices"
	"strings"
	"testing"

	"tidemark/api"
	"tidemark/query"
	"tidemark/zsets"
)

// behind is l with more of its room used, so that what stands behind its end can be watched.
func behind[T any](l []T, more T) []T { return append(slices.Clone(l), more)[:len(l)] }

func spareExpr(x api.Expr) api.Expr {
	kids := slices.Clone(x.Kids)
	for i := range kids {
		kids[i] = spareExpr(kids[i])
	}
	x.Kids = behind(kids, api.Expr{Kind: 99})
	return x
}

// sparePlan is p, all its lists with spare room in use.
func sparePlan(p api.Plan) api.Plan {
	out := api.Plan{Kind: p.Kind, N: p.N, X: spareExpr(p.X)}
	for _, x := range p.Xs {
		out.Xs = append(out.Xs, spareExpr(x))
	}
	for _, g := range p.Aggs {
		out.Aggs = append(out.Aggs, agg(g.Kind, spareExpr(g.X)))
	}
	for _, k := range p.Kids {
		out.Kids = append(out.Kids, sparePlan(k))
	}
	out.Xs, out.Aggs, out.Kids = behind(out.Xs, api.Expr{Kind: 99}), behind(out.Aggs, api.Agg{Kind: 99}), behind(out.Kids, api.Plan{Kind: 99})
	return out
}

func spareSets(l []rows) []rows {
	var out []rows
	for _, z := range l {
		var set rows
		for _, r := range z {
			set = append(set, row(r.W, behind(r.Row, text("behind"))...))
		}
		out = append(out, behind(set, row(9, text("behind"))))
	}
	return behind(out, rows{row(0)})
}

// wholeExpr, wholePlan and wholeSets are copies, to the ends of the lists' rooms.
func wholeExpr(x api.Expr) api.Expr {
	var kids []api.Expr
	for _, k := range x.Kids[:cap(x.Kids)] {
		kids = append(kids, wholeExpr(k))
	}
	x.Kids = kids
	return x
}

func wholePlan(p api.Plan) api.Plan {
	out := api.Plan{Kind: p.Kind, N: p.N, X: wholeExpr(p.X)}
	for _, x := range p.Xs[:cap(p.Xs)] {
		out.Xs = append(out.Xs, wholeExpr(x))
	}
	for _, g := range p.Aggs[:cap(p.Aggs)] {
		out.Aggs = append(out.Aggs, agg(g.Kind, wholeExpr(g.X)))
	}
	for _, k := range p.Kids[:cap(p.Kids)] {
		out.Kids = append(out.Kids, wholePlan(k))
	}
	return out
}

func wholeSets(l []rows) []rows {
	var out []rows
	for _, z := range l[:cap(l)] {
		var set rows
		for _, r := range z[:cap(z)] {
			set = append(set, row(r.W, slices.Clone(r.Row[:cap(r.Row)])...))
		}
		out = append(out, set)
	}
	return out
}

// given is all that a call may be given.
type given struct {
	tables       [][]int
	p            api.Plan
	data, change []rows
}

// spared is g, all its lists with spare room in use.
func spared(g given) given {
	out := given{p: sparePlan(g.p), data: spareSets(g.data), change: spareSets(g.change)}
	for _, cols := range g.tables {
		out.tables = append(out.tables, behind(cols, 99))
	}
	out.tables = behind(out.tables, []int{99})
	return out
}

// whole is a copy of g, to the ends of its lists' rooms.
func whole(g given) given {
	out := given{p: wholePlan(g.p), data: wholeSets(g.data), change: wholeSets(g.change)}
	for _, cols := range g.tables[:cap(g.tables)] {
		out.tables = append(out.tables, slices.Clone(cols[:cap(cols)]))
	}
	return out
}

// everyKind has a plan of each kind that changes; some values have more than their kinds have.
func everyKind() []given {
	tables, data, change := shop()
	data[0][0].Row[0].Text, change[0][3].Row[0].Text, change[1][1].Row[1].Text = "junk", "junk", "junk"
	var out []given
	for _, p := range []api.Plan{
		table(0),
		by(api.PFilter, made(api.XNe, col(0), lit(api.Val{Kind: api.VInt, N: 3, Text: "junk"})), table(0)),
		mapped(table(0), col(0), lit(api.Val{Kind: api.VInt, N: 3, Text: "junk"})),
		by(api.PJoin, same(0, 2), table(0), table(1)),
		by(api.PSemi, same(0, 2), table(0), table(1)),
		by(api.PAnti, same(0, 2), table(0), table(1)),
		by(api.PLeft, same(0, 2), table(0), table(1)),
		plan(api.PAdd, table(0), table(0)),
		plan(api.PSub, table(0), plan(api.PDistinct, table(0))),
		plan(api.PPositive, table(0)),
		plan(api.PDistinct, table(0)),
		grouped(table(0), these(col(1)), agg(api.AgMax, col(0))),
		top(4, table(1), col(1)),
	} {
		out = append(out, given{tables: tables, p: p, data: data, change: change})
	}
	return out
}

func TestZ2ArgumentsAreOnlyRead(t *testing.T) {
	for _, g := range everyKind() {
		s := spared(g)
		before := whole(s)
		got, err := Of(s.tables, s.p, s.data, s.change)
		want, _ := Of(g.tables, g.p, g.data, g.change)
		check(t, "with spare room", got, err, want)
		then, err := Apply(s.data, s.change)
		wantThen, _ := Apply(g.data, g.change)
		if err != api.OK || toldAll(then) != toldAll(wantThen) {
			t.Errorf("with spare room: error %d and %s come", err, toldAll(then))
		}
		if len(got) == 0 {
			t.Errorf("kind %d: nothing comes", g.p.Kind)
		}
		if !reflect.DeepEqual(whole(s), before) {
			t.Errorf("kind %d changes what it is given", g.p.Kind)
		}
		if strings.Contains(told(got)+toldAll(then), "junk") {
			t.Errorf("kind %d: a value isn't bare: %s%s", g.p.Kind, told(got), toldAll(then))
		}
	}
}

func scribbleRow(l []api.Val) {
	for i := range l[:cap(l)] {
		l[:cap(l)][i] = text("scribble")
	}
}

func scribble(z rows) {
	for i, r := range z[:cap(z)] {
		scribbleRow(r.Row)
		z[:cap(z)][i].W = 77
	}
}

func TestZ2AnswersAreTheCallers(t *testing.T) {
	for _, g := range everyKind() {
		s := spared(g)
		before := whole(s)
		first, _ := Of(s.tables, s.p, s.data, s.change)
		want := told(first)
		scribble(first)
		if !reflect.DeepEqual(whole(s), before) {
			t.Errorf("kind %d answers what it was given", g.p.Kind)
		}
		second, err := Of(s.tables, s.p, s.data, s.change)
		if err != api.OK || told(second) != want {
			t.Errorf("kind %d: %s comes the second time, not %s", g.p.Kind, told(second), want)
		}
		for i := range second {
			scribbleRow(second[i].Row)
			if strings.Contains(told(second[i+1:]), "scribble") {
				t.Fatalf("kind %d: two rows of an answer share memory", g.p.Kind)
			}
		}
	}
}

func TestZ2ApplyAnswersAreTheCallers(t *testing.T) {
	g := everyKind()[0]
	// One list may be given as many tables: what comes shares nothing, all the same; also where one side has no rows.
	for _, c := range [][2][]rows{
		{g.data, g.change},
		{g.data, {nil, nil}},
		{{nil, nil}, g.change},
		{{g.data[0], g.data[0]}, {g.change[0], g.change[0]}},
		{{g.data[0], g.data[0]}, {nil, nil}},
	} {
		s := spared(given{data: c[0], change: c[1]})
		before := whole(s)
		then, err := Apply(s.data, s.change)
		if err != api.OK {
			t.Fatalf("error %d comes", err)
		}
		last := toldAll(then[1:])
		scribble(then[0])
		if toldAll(then[1:]) != last {
			t.Error("two lists of an answer share memory")
		}
		scribble(then[1])
		for i := range then[:cap(then)] {
			then[:cap(then)][i] = nil
		}
		if !reflect.DeepEqual(whole(s), before) {
			t.Error("who writes into what was answered changes what was given")
		}
	}
}

// What is given may change as soon as a call has answered.
func TestZ2NothingIsKept(t *testing.T) {
	for _, g := range everyKind() {
		s := spared(g)
		got, _ := Of(s.tables, s.p, s.data, s.change)
		then, _ := Apply(s.data, s.change)
		want := told(got) + toldAll(then)
		for i := range s.data {
			scribble(s.data[i])
			scribble(s.change[i])
			clear(s.tables[i])
		}
		clear(s.data)
		clear(s.change)
		if told(got)+toldAll(then) != want {
			t.Errorf("kind %d: who writes into what was given changes the answer", g.p.Kind)
		}
	}
}

// One list may stand on both sides: a table and its change.
func TestZ2TheSameListTwice(t *testing.T) {
	tables, data, _ := shop()
	got, err := Of(tables, table(0), data, data)
	check(t, "a table and itself", got, err, data[0])
	twice, err := query.Eval(tables, plan(api.PAdd, table(1), table(1)), data)
	then, err2 := Apply(data, data)
	if err != api.OK || err2 != api.OK || told(then[1]) != told(twice) {
		t.Errorf("a table and itself: %s comes, not %s", told(then[1]), told(twice))
	}
}

func TestZ3NilAndEmptyAreTheSame(t *testing.T) {
	for _, sets := range [][]rows{{nil}, {{}}} {
		for _, other := range [][]rows{{nil}, {{}}} {
			for _, tables := range [][][]int{{nil}, {{}}} {
				got, err := Of(tables, table(0), sets, other)
				check(t, "nothing of nothing", got, err, nil)
			}
			checkApply(t, "nothing of nothing", sets, other, nil)
		}
	}
	for _, r := range [][]api.Val{nil, {}} {
		for _, other := range [][]api.Val{nil, {}} {
			got, err := Of([][]int{nil}, plan(api.PDistinct, table(0)), []rows{{row(1, r...)}}, []rows{{row(-1, other...)}})
			check(t, "the row without values goes", got, err, rows{row(-1)})
			checkApply(t, "the row without values twice", []rows{{row(1, r...)}}, []rows{{row(1, other...)}}, rows{row(2)})
		}
	}
	for _, none := range [][]rows{nil, {}} {
		for _, other := range [][]rows{nil, {}} {
			checkApply(t, "no tables", none, other)
			got, err := Of(nil, table(0), none, other)
			checkError(t, "a table of none", got, err, api.ErrName)
		}
	}
}

// Fields that a kind has not mean nothing.
func TestZ5OtherFieldsMeanNothing(t *testing.T) {
	junk := api.Plan{N: -7, X: api.Expr{Kind: 99}, Xs: make([]api.Expr, 20), Aggs: make([]api.Agg, 20)}
	for _, g := range everyKind() {
		p, q := g.p, junk
		q.Kind, q.Kids = p.Kind, p.Kids
		switch p.Kind {
		case api.PTable:
			q.N = p.N
		case api.PFilter, api.PJoin, api.PSemi, api.PAnti, api.PLeft:
			q.X = p.X
		case api.PMap:
			q.Xs = p.Xs
		case api.PGroup:
			q.Xs, q.Aggs = p.Xs, p.Aggs
		case api.PTop:
			q.Xs, q.N = p.Xs, p.N
		}
		want, _ := Of(g.tables, p, g.data, g.change)
		got, err := Of(g.tables, q, g.data, g.change)
		check(t, "with junk in it", got, err, want)
	}
}

// odd makes something to be given in which much may be wrong.
func (m *maker) odd() given {
	numbers := []int{math.MinInt, -1, 0, 1, 2, 3, 4, 5, 12, 13, 14, 51, most, math.MaxInt}
	pick := func() int { return numbers[m.upTo(len(numbers))] }
	g := given{tables: someTables(), p: m.plan(1 + m.upTo(5))}
	g.data, g.change = m.sets(g.tables, 6), m.sets(g.tables, 6)
	for range m.upTo(3) {
		spoiled := &g.p
		for len(spoiled.Kids) > 0 && m.upTo(3) > 0 {
			spoiled = &spoiled.Kids[m.upTo(len(spoiled.Kids))]
		}
		sets := &g.data
		if m.upTo(2) == 0 {
			sets = &g.change
		}
		switch m.upTo(8) {
		case 0:
			spoiled.Kind = pick()
		case 1:
			spoiled.N = pick()
		case 2:
			spoiled.X = api.Expr{Kind: pick(), Col: pick(), Kids: these(col(pick()))}
		case 3:
			g.tables[m.upTo(3)][m.upTo(2)] = pick()
		case 4:
			*sets = append((*sets)[:m.upTo(len(*sets)+1)], nil)
		case 5:
			(*sets)[m.upTo(len(*sets))] = rows{row(int64(pick()), api.Val{Kind: pick(), N: int64(pick())})}
		default:
			for i := range (*sets)[0] {
				(*sets)[0][i].W = int64(pick())
			}
		}
	}
	return g
}

func TestZ1NothingPanics(t *testing.T) {
	m := maker{state: 3}
	times := map[api.Errno]int{}
	for range 40000 {
		g := m.odd()
		then, wrong := Apply(g.data, g.change)
		if wrong != api.OK && then != nil {
			t.Errorf("%s comes beside error %d", toldAll(then), wrong)
		}
		got, err := Of(g.tables, g.p, g.data, g.change)
		if err != api.OK && got != nil {
			t.Errorf("%s comes beside error %d", told(got), err)
		}
		if err == api.OK && (wrong != api.OK || zsets.Wrong(got) != api.OK) {
			t.Errorf("%s comes, and of the tables error %d", told(got), wrong)
		}
		times[err]++
	}
	for _, err := range []api.Errno{api.OK, api.ErrKind, api.ErrRange, api.ErrMany, api.ErrName, api.ErrFit, api.ErrType} {
		if times[err] == 0 {
			t.Errorf("error %d never comes", err)
		}
	}
}

// Whatever fits comes to its end: many nodes, each of them with as many pairs as may be.
func TestZ1TheGreatestEnd(t *testing.T) {
	p, never := table(0), made(api.XLt, made(api.XAdd, col(0), col(1)), lit(num(0)))
	for range api.MaxNest - 2 {
		p = by(api.PAnti, never, p, by(api.PAnti, never, table(0), table(0)))
	}
	got, err := Of([][]int{{integer}}, p, []rows{run(0, api.MaxRows-1)}, []rows{run(api.MaxRows-1, 1)})
	check(t, "as large as may be", got, err, run(api.MaxRows-1, 1))
}
