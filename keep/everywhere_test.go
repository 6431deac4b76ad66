package keep

import (
	"math"
	"reflect"
	"slices"
	"strings"
	"testing"

	"tidemark/api"
	"tidemark/zsets"
)

// behind is l with more of its room used, so that what stands behind its end can be watched.
func behind[T any](l []T, more T) []T { return append(slices.Clone(l), more)[:len(l)] }

func spareExpr(x api.Expr) api.Expr {
	kids := slices.Clone(x.Kids)
	for i := range kids {
		kids[i] = spareExpr(kids[i])
	}
	x.Kids = behind(kids, api.Expr{Kind: 99})
	return x
}

// sparePlan is p, all its lists with spare room in use.
func sparePlan(p api.Plan) api.Plan {
	out := api.Plan{Kind: p.Kind, N: p.N, X: spareExpr(p.X)}
	for _, x := range p.Xs {
		out.Xs = append(out.Xs, spareExpr(x))
	}
	for _, g := range p.Aggs {
		out.Aggs = append(out.Aggs, agg(g.Kind, spareExpr(g.X)))
	}
	for _, k := range p.Kids {
		out.Kids = append(out.Kids, sparePlan(k))
	}
	out.Xs, out.Aggs, out.Kids = behind(out.Xs, api.Expr{Kind: 99}), behind(out.Aggs, api.Agg{Kind: 99}), behind(out.Kids, api.Plan{Kind: 99})
	return out
}

func spareSets(l []rows) []rows {
	var out []rows
	for _, z := range l {
		var set rows
		for _, r := range z {
			set = append(set, row(r.W, behind(r.Row, text("behind"))...))
		}
		out = append(out, behind(set, row(9, text("behind"))))
	}
	return behind(out, rows{row(0)})
}

// wholeExpr, wholePlan and wholeSets are copies, to the ends of the lists' rooms.
func wholeExpr(x api.Expr) api.Expr {
	var kids []api.Expr
	for _, k := range x.Kids[:cap(x.Kids)] {
		kids = append(kids, wholeExpr(k))
	}
	x.Kids = kids
	return x
}

func wholePlan(p api.Plan) api.Plan {
	out := api.Plan{Kind: p.Kind, N: p.N, X: wholeExpr(p.X)}
	for _, x := range p.Xs[:cap(p.Xs)] {
		out.Xs = append(out.Xs, wholeExpr(x))
	}
	for _, g := range p.Aggs[:cap(p.Aggs)] {
		out.Aggs = append(out.Aggs, agg(g.Kind, wholeExpr(g.X)))
	}
	for _, k := range p.Kids[:cap(p.Kids)] {
		out.Kids = append(out.Kids, wholePlan(k))
	}
	return out
}

func wholeSets(l []rows) []rows {
	var out []rows
	for _, z := range l[:cap(l)] {
		var set rows
		for _, r := range z[:cap(z)] {
			set = append(set, row(r.W, slices.Clone(r.Row[:cap(r.Row)])...))
		}
		out = append(out, set)
	}
	return out
}

// given is all that a call may be given.
type given struct {
	tables  [][]int
	p       api.Plan
	data    []rows
	changes [][]rows
}

func (g given) keep() ([]rows, api.Fault) { return Keep(g.tables, g.p, g.data, g.changes) }

// spared is g, all its lists with spare room in use.
func spared(g given) given {
	out := given{p: sparePlan(g.p), data: spareSets(g.data)}
	for _, cols := range g.tables {
		out.tables = append(out.tables, behind(cols, 99))
	}
	for _, change := range g.changes {
		out.changes = append(out.changes, spareSets(change))
	}
	out.tables, out.changes = behind(out.tables, []int{99}), behind(out.changes, []rows{{row(0)}})
	return out
}

// whole is a copy of g, to the ends of its lists' rooms.
func whole(g given) given {
	out := given{p: wholePlan(g.p), data: wholeSets(g.data)}
	for _, cols := range g.tables[:cap(g.tables)] {
		out.tables = append(out.tables, slices.Clone(cols[:cap(cols)]))
	}
	for _, change := range g.changes[:cap(g.changes)] {
		out.changes = append(out.changes, wholeSets(change))
	}
	return out
}

// everyKind has a plan of each kind that changes; some values have more than their kinds have.
func everyKind() []given {
	tables, data, changes := shop()
	data[0][0].Row[0].Text, changes[0][0][3].Row[0].Text, changes[0][1][1].Row[1].Text = "junk", "junk", "junk"
	var out []given
	for _, p := range []api.Plan{
		table(0),
		by(api.PFilter, made(api.XNe, col(0), lit(api.Val{Kind: api.VInt, N: 3, Text: "junk"})), table(0)),
		mapped(table(0), col(0), lit(api.Val{Kind: api.VInt, N: 3, Text: "junk"})),
		by(api.PJoin, same(0, 2), table(0), table(1)),
		by(api.PSemi, same(0, 2), table(0), table(1)),
		by(api.PAnti, same(0, 2), table(0), table(1)),
		by(api.PLeft, same(0, 2), table(0), table(1)),
		plan(api.PAdd, table(0), table(0)),
		plan(api.PSub, table(0), plan(api.PDistinct, table(0))),
		plan(api.PPositive, table(0)),
		plan(api.PDistinct, table(0)),
		grouped(table(0), these(col(1)), agg(api.AgMax, col(0))),
		top(4, table(1), col(1)),
	} {
		out = append(out, given{tables: tables, p: p, data: data, changes: changes})
	}
	return out
}

func TestZ2ArgumentsAreOnlyRead(t *testing.T) {
	for _, g := range everyKind() {
		s := spared(g)
		before := whole(s)
		got, f := s.keep()
		want, _ := g.keep()
		check(t, "with spare room", got, f, want...)
		if len(got) != 4 || len(got[0]) == 0 {
			t.Errorf("kind %d: %s comes", g.p.Kind, toldAll(got))
		}
		if !reflect.DeepEqual(whole(s), before) {
			t.Errorf("kind %d changes what it is given", g.p.Kind)
		}
		if strings.Contains(toldAll(got), "junk") {
			t.Errorf("kind %d: a value isn't bare: %s", g.p.Kind, toldAll(got))
		}
	}
}

func scribbleRow(l []api.Val) {
	for i := range l[:cap(l)] {
		l[:cap(l)][i] = text("scribble")
	}
}

func scribble(z rows) {
	for i, r := range z[:cap(z)] {
		scribbleRow(r.Row)
		z[:cap(z)][i].W = 77
	}
}

// Who writes into what was answered changes neither what was given nor the rest of the answer; also where nothing changes, and the same comes again.
func TestZ2AnswersAreTheCallers(t *testing.T) {
	calm := [][]rows{{nil, nil}, {nil, nil}}
	for _, g := range everyKind() {
		for _, changes := range [][][]rows{g.changes, calm, nil} {
			g.changes = changes
			s := spared(g)
			before := whole(s)
			first, _ := s.keep()
			want := toldAll(first)
			for i := range first {
				last := toldAll(first[i+1:])
				scribble(first[i])
				if toldAll(first[i+1:]) != last {
					t.Fatalf("kind %d: two sets of an answer share memory", g.p.Kind)
				}
			}
			for i := range first[:cap(first)] {
				first[:cap(first)][i] = nil
			}
			if !reflect.DeepEqual(whole(s), before) {
				t.Errorf("kind %d answers what it was given", g.p.Kind)
			}
			second, f := s.keep()
			if f != (api.Fault{}) || toldAll(second) != want {
				t.Errorf("kind %d: fault %v and %s come, not %s again", g.p.Kind, f, toldAll(second), want)
			}
			checkRowsApart(t, second)
		}
	}
}

func checkRowsApart(t *testing.T, l []rows) {
	t.Helper()
	for _, z := range l {
		for i := range z {
			scribbleRow(z[i].Row)
			if strings.Contains(told(z[i+1:]), "scribble") {
				t.Fatal("two rows of an answer share memory")
			}
		}
	}
}

// What is given may change as soon as a call has answered.
func TestZ2NothingIsKept(t *testing.T) {
	for _, g := range everyKind() {
		s := spared(g)
		got, _ := s.keep()
		want := toldAll(got)
		for _, sets := range append(slices.Clone(s.changes), s.data) {
			for i := range sets {
				scribble(sets[i])
			}
			clear(sets)
		}
		for _, cols := range s.tables {
			clear(cols)
		}
		clear(s.changes)
		if toldAll(got) != want {
			t.Errorf("kind %d: who writes into what was given changes the answer", g.p.Kind)
		}
	}
}

// One list may be given as data and as changes.
func TestZ2TheSameListTwice(t *testing.T) {
	one := rows{row(1, num(1))}
	sets := []rows{one, one}
	got, f := Keep([][]int{{integer}, {integer}}, plan(api.PAdd, table(0), table(1)), sets, [][]rows{sets, sets})
	check(t, "tables and themselves", got, f, rows{row(2, num(1))}, rows{row(4, num(1))}, rows{row(6, num(1))})
}

func TestZ3NilAndEmptyAreTheSame(t *testing.T) {
	for _, sets := range [][]rows{{nil}, {{}}} {
		for _, other := range [][]rows{{nil}, {{}}} {
			for _, tables := range [][][]int{{nil}, {{}}} {
				got, f := Keep(tables, table(0), sets, [][]rows{other})
				check(t, "nothing of nothing", got, f, nil, nil)
			}
		}
		for _, none := range [][][]rows{nil, {}} {
			got, f := Keep([][]int{{integer}}, table(0), sets, none)
			check(t, "nothing, without changes", got, f, nil)
		}
	}
	for _, r := range [][]api.Val{nil, {}} {
		for _, other := range [][]api.Val{nil, {}} {
			got, f := Keep([][]int{nil}, plan(api.PDistinct, table(0)), []rows{{row(1, r...)}}, [][]rows{{{row(-1, other...)}}})
			check(t, "the row without values goes", got, f, rows{row(1)}, nil)
		}
	}
	for _, none := range [][]rows{nil, {}} {
		for _, tables := range [][][]int{nil, {}} {
			got, f := Keep(tables, table(0), none, [][]rows{none})
			checkFault(t, "a table of none", got, f, api.ErrName, 0)
		}
		got, f := Keep([][]int{nil}, table(0), []rows{nil}, [][]rows{none})
		checkFault(t, "a change without lists", got, f, api.ErrFit, 1)
	}
}

// Fields that a kind has not mean nothing.
func TestZ5OtherFieldsMeanNothing(t *testing.T) {
	junk := api.Plan{N: -7, X: api.Expr{Kind: 99}, Xs: make([]api.Expr, 20), Aggs: make([]api.Agg, 20)}
	for _, g := range everyKind() {
		p, q := g.p, junk
		q.Kind, q.Kids = p.Kind, p.Kids
		switch p.Kind {
		case api.PTable:
			q.N = p.N
		case api.PFilter, api.PJoin, api.PSemi, api.PAnti, api.PLeft:
			q.X = p.X
		case api.PMap:
			q.Xs = p.Xs
		case api.PGroup:
			q.Xs, q.Aggs = p.Xs, p.Aggs
		case api.PTop:
			q.Xs, q.N = p.Xs, p.N
		}
		want, _ := g.keep()
		g.p = q
		got, f := g.keep()
		check(t, "with junk in it", got, f, want...)
	}
}

// odd makes something to be given in which much may be wrong.
func (m *maker) odd() given {
	numbers := []int{math.MinInt, -1, 0, 1, 2, 3, 4, 5, 12, 13, 14, 51, most, math.MaxInt}
	pick := func() int { return numbers[m.upTo(len(numbers))] }
	g := given{tables: someTables(), p: m.plan(1 + m.upTo(5))}
	g.data, g.changes = m.sets(g.tables, 6), m.changes(g.tables, 6)
	for range m.upTo(3) {
		spoiled := &g.p
		for len(spoiled.Kids) > 0 && m.upTo(3) > 0 {
			spoiled = &spoiled.Kids[m.upTo(len(spoiled.Kids))]
		}
		sets := &g.data
		if len(g.changes) > 0 && m.upTo(4) > 0 {
			sets = &g.changes[m.upTo(len(g.changes))]
		}
		switch m.upTo(8) {
		case 0:
			spoiled.Kind = pick()
		case 1:
			spoiled.N = pick()
		case 2:
			spoiled.X = api.Expr{Kind: pick(), Col: pick(), Kids: these(col(pick()))}
		case 3:
			g.tables[m.upTo(3)][m.upTo(2)] = pick()
		case 4:
			*sets = append((*sets)[:m.upTo(len(*sets)+1)], nil)
		case 5:
			(*sets)[m.upTo(len(*sets))] = rows{row(int64(pick()), api.Val{Kind: pick(), N: int64(pick())})}
		default:
			for i := range (*sets)[0] {
				(*sets)[0][i].W = int64(pick())
			}
		}
	}
	return g
}

func TestZ1NothingPanics(t *testing.T) {
	m := maker{state: 3}
	times := map[api.Fault]int{}
	for range 30000 {
		g := m.odd()
		got, f := g.keep()
		if f.Err != api.OK && got != nil || f.Err == api.OK && (f.At != 0 || len(got) != len(g.changes)+1) {
			t.Errorf("%s comes beside fault %v, of %d changes", toldAll(got), f, len(g.changes))
		}
		for _, z := range got {
			if err := zsets.Wrong(z); err != api.OK {
				t.Errorf("%s comes, of which error %d is told", told(z), err)
			}
		}
		if f.At < 0 || f.At > len(g.changes) {
			t.Errorf("fault %v comes of %d changes", f, len(g.changes))
		}
		times[f]++
	}
	for at := range 4 {
		for _, err := range []api.Errno{api.ErrKind, api.ErrRange, api.ErrFit, api.ErrType} {
			if times[api.Fault{Err: err, At: at}] == 0 {
				t.Errorf("error %d never comes at %d", err, at)
			}
		}
	}
	if times[api.Fault{}] == 0 {
		t.Error("nothing is ever right")
	}
}

// Whatever fits comes to its end: many nodes with many pairs, and as many changes as may be.
func TestZ1TheGreatestEnd(t *testing.T) {
	p, never := table(0), made(api.XLt, made(api.XAdd, col(0), col(1)), lit(num(0)))
	for range api.MaxNest - 2 {
		p = by(api.PAnti, never, p, by(api.PAnti, never, table(0), table(0)))
	}
	var changes [][]rows
	first := int64(api.MaxRows - api.MaxChanges)
	want := []rows{run(0, first)}
	for i := range int64(api.MaxChanges) {
		changes, want = append(changes, []rows{run(first+i, 1)}), append(want, run(0, first+i+1))
	}
	got, f := Keep([][]int{{integer}}, p, []rows{run(0, first)}, changes)
	check(t, "as large as may be", got, f, want...)
}
