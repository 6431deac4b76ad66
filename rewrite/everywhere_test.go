package rewrite

import (
	"math"
	"reflect"
	"slices"
	"testing"

	"tidemark/api"
	"tidemark/query"
)

// given is all that a call may be given.
type given struct {
	tables [][]int
	p      api.Plan
}

// filled puts something else into each place of v; a list becomes nil.
func filled(v reflect.Value) {
	switch v.Kind() {
	case reflect.Int, reflect.Int64:
		v.SetInt(99)
	case reflect.String:
		v.SetString("scribble")
	case reflect.Slice:
		v.SetZero()
	case reflect.Struct:
		for i := range v.NumField() {
			filled(v.Field(i))
		}
	}
}

// spared is a copy of x, in which there is something in the spare room behind each list.
func spared[T any](x T) T {
	return remade(reflect.ValueOf(x), func(l reflect.Value) (reflect.Value, int) {
		out := reflect.MakeSlice(l.Type(), l.Len()+2, l.Len()+2)
		filled(out.Index(l.Len()))
		filled(out.Index(l.Len() + 1))
		return out, l.Len()
	}).Interface().(T)
}

// whole is a copy of x, in which each list has its spare room in it.
func whole[T any](x T) T {
	return remade(reflect.ValueOf(x), func(l reflect.Value) (reflect.Value, int) {
		return reflect.MakeSlice(l.Type(), l.Cap(), l.Cap()), l.Cap()
	}).Interface().(T)
}

// remade is a copy of v; room makes the memory of a list, and says how long the copy is.
func remade(v reflect.Value, room func(l reflect.Value) (reflect.Value, int)) reflect.Value {
	out := reflect.New(v.Type()).Elem()
	switch v.Kind() {
	case reflect.Slice:
		list, n := room(v)
		for i := range n {
			list.Index(i).Set(remade(v.Slice(0, n).Index(i), room))
		}
		out.Set(list.Slice(0, n))
	case reflect.Struct:
		for i := range v.NumField() {
			out.Field(i).Set(remade(v.Field(i), room))
		}
	default:
		out.Set(v)
	}
	return out
}

func (g given) spared() given { return given{spared(g.tables), spared(g.p)} }

func (g given) whole() given { return given{whole(g.tables), whole(g.p)} }

// scribble writes into all lists of v, and into their spare room.
func scribble(v reflect.Value) {
	switch v.Kind() {
	case reflect.Slice:
		for i := range v.Cap() {
			scribble(v.Slice(0, v.Cap()).Index(i))
			filled(v.Slice(0, v.Cap()).Index(i))
		}
	case reflect.Struct:
		for i := range v.NumField() {
			scribble(v.Field(i))
		}
	}
}

// room is the memory of a list, its spare room too.
type room struct{ from, to uintptr }

// rooms are those of all lists of v.
func rooms(v reflect.Value) (out []room) {
	switch v.Kind() {
	case reflect.Slice:
		if v.Cap() > 0 {
			out = append(out, room{v.Pointer(), v.Pointer() + uintptr(v.Cap())*v.Type().Elem().Size()})
		}
		for i := range v.Len() {
			out = append(out, rooms(v.Index(i))...)
		}
	case reflect.Struct:
		for i := range v.NumField() {
			out = append(out, rooms(v.Field(i))...)
		}
	}
	return out
}

// shared tells whether two of these lists share memory.
func shared(l []room) bool {
	slices.SortFunc(l, func(a, b room) int { return int(a.from) - int(b.from) })
	for i := range l {
		if i > 0 && l[i].from < l[i-1].to {
			return true
		}
	}
	return false
}

// someGiven are plans of each kind, as they stay and as they are rewritten, and one that is too large.
func someGiven() []given {
	var out []given
	x := made(api.XCase, isNull(0), less(), lit(no))
	for _, p := range unchanged() {
		for _, q := range []api.Plan{p, filter(x, p), filter(x, distinct(plan(api.PAdd, p, p)))} {
			out = append(out, given{tables(), q})
		}
	}
	pair := join(same(1, 2), table(0), table(1))
	for _, x := range these(same(0, 2), isNull(2), deep(api.MaxDeep, same(0, 2))) {
		out = append(out, given{tables(), filter(x, plan(api.PSub, pair, pair))})
	}
	return append(out, given{tables(), filter(x, added(21, 0))})
}

func TestZ2ArgumentsAreOnlyRead(t *testing.T) {
	for _, g := range someGiven() {
		s := g.spared()
		before := s.whole()
		got, err := Plan(s.tables, s.p)
		want, _ := Plan(g.tables, g.p)
		if err != api.OK || told(got) != told(want) {
			t.Errorf("error %d and\n%s come, not\n%s", err, told(got), told(want))
		}
		if !reflect.DeepEqual(s.whole(), before) {
			t.Errorf("what was given is changed: %s", told(g.p))
		}
	}
}

func TestZ2AnswersAreTheCallers(t *testing.T) {
	for _, g := range someGiven() {
		s := g.spared()
		before := s.whole()
		got, _ := Plan(s.tables, s.p)
		want := told(got)
		if shared(slices.Concat(rooms(reflect.ValueOf(got)), rooms(reflect.ValueOf(s)))) {
			t.Errorf("two lists share memory: %s", want)
		}
		scribble(reflect.ValueOf(got))
		if !reflect.DeepEqual(s.whole(), before) {
			t.Errorf("what was given is answered: %s", told(g.p))
		}
		got, _ = Plan(s.tables, s.p)
		scribble(reflect.ValueOf(s.tables))
		scribble(reflect.ValueOf(s.p))
		if told(got) != want {
			t.Errorf("%s comes, not %s again", told(got), want)
		}
	}
}

// One part may be given more than once, but is answered apart.
func TestZ2TheSamePartTwice(t *testing.T) {
	x := less()
	one := filter(x, distinct(table(0)))
	kids := []api.Plan{one, one}
	p := api.Plan{Kind: api.PAdd, Kids: []api.Plan{{Kind: api.PSub, Kids: kids}, {Kind: api.PSub, Kids: kids}}}
	part := distinct(filter(both(less(), less()), table(0)))
	sub := plan(api.PSub, part, part)
	check(t, "a part twice", filter(x, p), plan(api.PAdd, sub, sub))
	got, _ := Plan(tables(), filter(x, p))
	if shared(rooms(reflect.ValueOf(got))) {
		t.Errorf("two lists share memory: %s", told(got))
	}
}

func TestZ3NilAndEmptyAreTheSame(t *testing.T) {
	empty := func(p api.Plan) api.Plan {
		p.X.Kids, p.Xs, p.Aggs = these(), these(), []api.Agg{}
		if p.Kids == nil {
			p.Kids = []api.Plan{}
		}
		return p
	}
	leaf := empty(table(0))
	for _, tables := range [][][]int{{nil}, {{}}} {
		for kind, kids := range map[int]int{api.PTable: 0, api.PFilter: 1, api.PMap: 1, api.PJoin: 2, api.PSemi: 2, api.PAnti: 2, api.PLeft: 2, api.PAdd: 2, api.PSub: 2, api.PPositive: 1, api.PDistinct: 1, api.PGroup: 1, api.PTop: 1} {
			p := by(kind, lit(no), slices.Repeat([]api.Plan{table(0)}, kids)...)
			q := empty(by(kind, lit(no), slices.Repeat([]api.Plan{leaf}, kids)...))
			want, err := Plan(tables, filter(lit(null), p))
			if err != api.OK {
				t.Errorf("kind %d: error %d comes", kind, err)
			}
			checkOf(t, "with empty lists", tables, empty(filter(lit(null), q)), want)
		}
	}
	for _, tables := range [][][]int{nil, {}} {
		if got, err := Plan(tables, table(0)); err != api.ErrName || told(got) != told(api.Plan{}) {
			t.Errorf("no tables: %s and error %d come", told(got), err)
		}
	}
}

// Fields that a kind has not mean nothing, not even if they have no end.
func TestZ5OtherFieldsMeanNothing(t *testing.T) {
	endless := these(api.Expr{Kind: api.XNot})
	endless[0].Kids = endless
	xs, aggs := these(endless[0], endless[0]), []api.Agg{{Kind: 99, X: endless[0]}}
	for _, p := range unchanged() {
		q := p
		switch p.Kind {
		case api.PTable:
			q.X, q.Xs, q.Aggs = endless[0], xs, aggs
		case api.PMap:
			q.X, q.Aggs, q.N = endless[0], aggs, -7
		case api.PTop:
			q.X, q.Aggs = endless[0], aggs
		case api.PGroup:
			q.X, q.N, q.Aggs = endless[0], -7, slices.Clone(p.Aggs)
			q.Aggs[0].X = endless[0]
		case api.PFilter, api.PJoin, api.PSemi, api.PAnti, api.PLeft:
			q.Xs, q.Aggs, q.N = xs, aggs, -7
		default:
			q.X, q.Xs, q.Aggs, q.N = endless[0], xs, aggs, -7
		}
		check(t, "as it stays", q, p)
		want, _ := Plan(tables(), filter(isNull(1), p))
		check(t, "rewritten", filter(isNull(1), q), want)
	}
}

// odd makes something to be given in which much may be wrong.
func (m *maker) odd() given {
	numbers := []int{math.MinInt, -1, 0, 1, 2, 3, 4, 5, 12, 13, 14, 51, math.MaxInt}
	pick := func() int { return numbers[m.upTo(len(numbers))] }
	g := given{tables: someTables(), p: m.plan(someTables(), 1+m.upTo(5))}
	for range m.upTo(3) {
		spoiled := &g.p
		for len(spoiled.Kids) > 0 && m.upTo(3) > 0 {
			spoiled = &spoiled.Kids[m.upTo(len(spoiled.Kids))]
		}
		switch m.upTo(7) {
		case 0:
			spoiled.Kind = pick()
		case 1:
			spoiled.N = pick()
		case 2:
			spoiled.Kids = append(spoiled.Kids, api.Plan{Kind: pick(), N: pick()})
		case 3:
			spoiled.X = api.Expr{Kind: pick(), Col: pick(), Kids: these(col(pick()))}
		case 4:
			spoiled.Aggs = append(spoiled.Aggs, agg(pick(), col(pick())))
		case 5:
			g.tables[m.upTo(2)][m.upTo(2)] = pick()
		case 6:
			spoiled.Xs = append(spoiled.Xs, lit(api.Val{Kind: pick(), N: int64(pick())}))
		}
	}
	return g
}

func TestZ1NothingPanics(t *testing.T) {
	m := maker{state: 5}
	times := map[api.Errno]int{}
	for range 4000 {
		g := m.odd()
		_, want := query.Cols(g.tables, g.p)
		got, err := Plan(g.tables, g.p)
		if err != want || err != api.OK && told(got) != told(api.Plan{}) {
			t.Errorf("%s and error %d come, not error %d", told(got), err, want)
		}
		if err == api.OK {
			checkOf(t, "anew", g.tables, got, got)
		}
		times[err]++
	}
	for _, err := range []api.Errno{api.OK, api.ErrKind, api.ErrRange, api.ErrMany, api.ErrName, api.ErrFit, api.ErrType} {
		if times[err] == 0 {
			t.Errorf("error %d never comes", err)
		}
	}
	endless := []api.Plan{{Kind: api.PDistinct}}
	endless[0].Kids = endless
	if got, err := Plan(tables(), endless[0]); err != api.ErrMuch || told(got) != told(api.Plan{}) {
		t.Errorf("a plan without an end: error %d comes", err)
	}
}

// Whatever fits comes to its end: as many large filters as may be, each of which goes with no other, over as many tables as may be.
func TestZ1TheGreatestEnd(t *testing.T) {
	p := added(25, 0)
	for range api.MaxNest - 6 {
		p = filter(large(api.MaxNodes, 0, 1), p)
	}
	check(t, "as large as may be", p, p)
	p, want := table(0), table(0)
	for range api.MaxNest - 1 {
		p = filter(large(api.MaxNodes, 0, 1), p)
		want = filter(large(api.MaxNodes, 0, 1), want)
	}
	check(t, "as many filters as may be", p, want)
}
