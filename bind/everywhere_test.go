package bind

import (
	"math"
	"reflect"
	"slices"
	"strings"
	"testing"

	"tidemark/api"
)

// filled puts something else into each place of v; a list becomes nil.
func filled(v reflect.Value) {
	switch v.Kind() {
	case reflect.Bool:
		v.SetBool(!v.Bool())
	case reflect.Int, reflect.Int64:
		v.SetInt(99)
	case reflect.String:
		v.SetString("scribble")
	case reflect.Slice:
		v.SetZero()
	case reflect.Struct:
		for i := range v.NumField() {
			filled(v.Field(i))
		}
	}
}

// spared is a copy of x, in which there is something in the spare room behind each list.
func spared[T any](x T) T {
	return remade(reflect.ValueOf(x), func(l reflect.Value) (reflect.Value, int) {
		out := reflect.MakeSlice(l.Type(), l.Len()+2, l.Len()+2)
		filled(out.Index(l.Len()))
		filled(out.Index(l.Len() + 1))
		return out, l.Len()
	}).Interface().(T)
}

// whole is a copy of x, in which each list has its spare room in it.
func whole[T any](x T) T {
	return remade(reflect.ValueOf(x), func(l reflect.Value) (reflect.Value, int) {
		return reflect.MakeSlice(l.Type(), l.Cap(), l.Cap()), l.Cap()
	}).Interface().(T)
}

// emptied is a copy of x, in which each list without entries is empty, or nil.
func emptied[T any](x T, isNil bool) T {
	return remade(reflect.ValueOf(x), func(l reflect.Value) (reflect.Value, int) {
		if l.Len() == 0 && isNil {
			return reflect.Zero(l.Type()), 0
		}
		return reflect.MakeSlice(l.Type(), l.Len(), l.Len()), l.Len()
	}).Interface().(T)
}

// remade is a copy of v; room makes the memory of a list, and says how long the copy is.
func remade(v reflect.Value, room func(l reflect.Value) (reflect.Value, int)) reflect.Value {
	out := reflect.New(v.Type()).Elem()
	switch v.Kind() {
	case reflect.Slice:
		list, n := room(v)
		for i := range n {
			list.Index(i).Set(remade(v.Slice(0, n).Index(i), room))
		}
		out.Set(list.Slice(0, n))
	case reflect.Struct:
		for i := range v.NumField() {
			out.Field(i).Set(remade(v.Field(i), room))
		}
	default:
		out.Set(v)
	}
	return out
}

// scribble writes into all lists of v, and into their spare room.
func scribble(v reflect.Value) {
	switch v.Kind() {
	case reflect.Slice:
		for i := range v.Cap() {
			scribble(v.Slice(0, v.Cap()).Index(i))
			filled(v.Slice(0, v.Cap()).Index(i))
		}
	case reflect.Struct:
		for i := range v.NumField() {
			scribble(v.Field(i))
		}
	}
}

// room is the memory of a list, its spare room too.
type room struct{ from, to uintptr }

// rooms are those of all lists of v.
func rooms(v reflect.Value) (out []room) {
	switch v.Kind() {
	case reflect.Slice:
		if v.Cap() > 0 {
			out = append(out, room{v.Pointer(), v.Pointer() + uintptr(v.Cap())*v.Type().Elem().Size()})
		}
		for i := range v.Len() {
			out = append(out, rooms(v.Index(i))...)
		}
	case reflect.Struct:
		for i := range v.NumField() {
			out = append(out, rooms(v.Field(i))...)
		}
	}
	return out
}

// shared tells whether two of these lists share memory.
func shared(l []room) bool {
	slices.SortFunc(l, func(a, b room) int { return int(a.from) - int(b.from) })
	for i := range l {
		if i > 0 && l[i].from < l[i-1].to {
			return true
		}
	}
	return false
}

// given is all that Query may be given.
type given struct {
	Rels []api.Rel
	Q    api.Query
}

// answer is all that Query answers.
type answer struct {
	P    api.Plan
	Cols []api.Column
	Err  api.Errno
}

func (g given) answer() answer {
	p, cols, err := Query(g.Rels, g.Q)
	return answer{p, cols, err}
}

// some makes a query, and what it is of; now and then a view is joined with itself.
func (m *maker) some(t *testing.T) given {
	rels, _, _ := market(t, m)
	if m.upTo(10) == 0 {
		return given{rels, asked(t, pick(m, "select * from v join v as x on true", "select * from w union all select * from w", "select * from t except select * from t"))}
	}
	return given{rels, m.query(rels)}
}

func TestZ2ArgumentsAreOnlyRead(t *testing.T) {
	m := &maker{state: 6}
	for range 500 {
		g := m.some(t)
		s := spared(g)
		before := whole(s)
		if got, want := s.answer(), g.answer(); told(got) != told(want) {
			t.Errorf("with spare room: %s comes, not %s", told(got), told(want))
		}
		if got, want := Tables(s.Rels), Tables(g.Rels); told(got) != told(want) {
			t.Errorf("with spare room: %v comes, not %v", got, want)
		}
		for _, r := range s.Rels {
			e, err := Cond(r, s.Q.Parts[0].Where)
			e2, err2 := Cond(emptied(r, true), emptied(s.Q.Parts[0].Where, true))
			if err != err2 || told(e) != told(e2) {
				t.Errorf("with spare room: errors %d and %d, %s and %s come", err, err2, told(e), told(e2))
			}
		}
		if !reflect.DeepEqual(whole(s), before) {
			t.Errorf("what was given is changed: %s", written(g.Q))
		}
	}
}

func TestZ2AnswersAreTheCallers(t *testing.T) {
	m := &maker{state: 7}
	for range 500 {
		// Keys stand in items, too; here they share no memory.
		g := emptied(m.some(t), true)
		one, two := g.answer(), g.answer()
		want := told(one)
		if shared(slices.Concat(rooms(reflect.ValueOf(one)), rooms(reflect.ValueOf(two)), rooms(reflect.ValueOf(g)))) {
			t.Errorf("%s: two lists share memory", written(g.Q))
		}
		scribble(reflect.ValueOf(one))
		if told(two) != want || told(g.answer()) != want {
			t.Errorf("%s: what was answered is not the caller's alone", written(g.Q))
		}
		tables, again := Tables(g.Rels), Tables(g.Rels)
		if shared(slices.Concat(rooms(reflect.ValueOf(tables)), rooms(reflect.ValueOf(again)), rooms(reflect.ValueOf(g)))) {
			t.Error("two lists of tables share memory")
		}
		scribble(reflect.ValueOf(g))
		if told(two) != want {
			t.Error("something of what was given is kept")
		}
	}
	x := condition(t, "case when a = 1 then not c else b || 'x' is null end")
	r := rel("t", "a:int b:text c:bool")
	e, _ := Cond(r, x)
	e2, _ := Cond(r, x)
	if shared(slices.Concat(rooms(reflect.ValueOf(e)), rooms(reflect.ValueOf(e2)), rooms(reflect.ValueOf(x)), rooms(reflect.ValueOf(r)))) {
		t.Error("two lists of expressions share memory")
	}
}

func TestZ3NilAndEmptyAreTheSame(t *testing.T) {
	m := &maker{state: 8}
	for range 1000 {
		g := m.some(t)
		if m.upTo(2) == 0 {
			m.spoil(reflect.ValueOf(&g).Elem())
		}
		one, two := emptied(g, false), emptied(g, true)
		if told(one.answer()) != told(two.answer()) || told(Tables(one.Rels)) != told(Tables(two.Rels)) {
			t.Errorf("%s or %s comes", told(one.answer()), told(two.answer()))
		}
	}
	if len(Tables([]api.Rel{})) != 0 {
		t.Error("there is a table of none")
	}
}

// spoil puts something odd into one place of v.
func (m *maker) spoil(v reflect.Value) {
	switch v.Kind() {
	case reflect.Slice:
		if v.Len() == 0 {
			return
		}
		place := v.Index(m.upTo(v.Len()))
		switch m.upTo(8) {
		case 0:
			place.SetZero()
		case 1:
			v.Set(v.Slice(0, v.Len()-1))
		case 2:
			v.Set(reflect.Append(v, place))
		default:
			m.spoil(place)
		}
	case reflect.Struct:
		m.spoil(v.Field(m.upTo(v.NumField())))
	case reflect.Bool:
		v.SetBool(!v.Bool())
	case reflect.Int, reflect.Int64:
		v.SetInt(int64(pick(m, math.MinInt, -1, 0, 1, 2, 3, 4, 5, 6, 19, 23, 24, 50, 51, api.MaxInt+1, math.MaxInt)))
	case reflect.String:
		v.SetString(pick(m, "", "a", "t", "v", "A", "select", strings.Repeat("x", api.MaxText+1), "\x00\xff"))
	}
}

func TestZ1NothingPanics(t *testing.T) {
	m := &maker{state: 9}
	times := map[api.Errno]int{}
	for range 8000 {
		g := m.some(t)
		for range 1 + m.upTo(3) {
			m.spoil(reflect.ValueOf(&g).Elem())
		}
		a := g.answer()
		times[a.Err]++
		if a.Err != api.OK && told(a) != told(answer{Err: a.Err}) {
			t.Errorf("beside error %d %s comes", a.Err, told(a))
		}
		Tables(g.Rels)
		var x api.SExpr
		if len(g.Q.Parts) > 0 {
			x = g.Q.Parts[0].Where
		}
		for _, r := range g.Rels {
			if e, err := Cond(r, x); err != api.OK && told(e) != told(api.Expr{}) {
				t.Errorf("beside error %d %s comes", err, told(e))
			}
		}
	}
	for _, err := range []api.Errno{api.OK, api.ErrKind, api.ErrRange, api.ErrMany, api.ErrName, api.ErrFit, api.ErrType} {
		if times[err] == 0 {
			t.Errorf("error %d never comes", err)
		}
	}
}

// endlessExpr, endlessBound and endlessPlan have themselves as a part.
func endlessExpr(kind, kids int) api.SExpr {
	l := make([]api.SExpr, kids)
	for i := range l {
		l[i] = api.SExpr{Kind: kind, Kids: l}
	}
	return l[0]
}

func endlessBound() api.Expr {
	l := []api.Expr{{Kind: api.XNot}}
	l[0].Kids = l
	return l[0]
}

func endlessPlan(kind, kids int) api.Plan {
	l := make([]api.Plan, kids)
	for i := range l {
		l[i] = api.Plan{Kind: kind, X: lit(yes), Kids: l}
	}
	return l[0]
}

func TestZ1WhatHasNoEnd(t *testing.T) {
	for _, x := range []api.SExpr{endlessExpr(api.XNot, 1), endlessExpr(api.XAnd, 2), endlessExpr(api.XCase, 3), endlessExpr(api.XSum, 1)} {
		if e, err := Cond(rel("t", "a:int"), x); err == api.OK || told(e) != told(api.Expr{}) {
			t.Errorf("error %d and %s come", err, told(e))
		}
		for _, into := range []func(q *api.Query){
			func(q *api.Query) { q.Parts[0].Where, q.Parts[0].HasWhere = x, true },
			func(q *api.Query) { q.Parts[0].Having, q.Parts[0].HasHaving = x, true },
			func(q *api.Query) { q.Parts[0].Items[0].X = x },
			func(q *api.Query) { q.Parts[0].From[1].On = x },
			func(q *api.Query) { q.Parts[0].Group = []api.SExpr{x} },
			func(q *api.Query) { q.Order[0] = x },
		} {
			q := asked(t, "select b from t join u on true order by 1 limit 1")
			into(&q)
			if _, _, err := Query(shop(), q); err == api.OK {
				t.Error("nothing is wrong with what has no end")
			}
		}
	}
	for _, p := range []api.Plan{endlessPlan(api.PDistinct, 1), endlessPlan(api.PAdd, 2), {Kind: api.PFilter, X: endlessBound(), Kids: []api.Plan{table(0)}}} {
		for _, cols := range []string{"", "a:int"} {
			rels := []api.Rel{rel("t", "a:int"), view("v", cols, p)}
			if _, _, err := Query(rels, asked(t, "select * from v")); err == api.OK {
				t.Error("nothing is wrong with a view that has no end")
			}
			checkOf(t, rels, "select * from t", table(0), "a:int")
		}
	}
	// A view of fewer columns, or more, than it says.
	for _, cols := range []string{"", "a:int", "a:int b:text c:bool d:int"} {
		rels := []api.Rel{rel("t", "a:int b:text c:bool"), view("v", cols, table(0))}
		for _, s := range []string{"select * from v", "select * from t join v on true order by a limit 1", "select 1 from v"} {
			Query(rels, asked(t, s))
		}
	}
}

// Fields that a kind has not mean nothing, not even if they have no end, and are zero in what is answered.
func TestZ5OtherFieldsMeanNothing(t *testing.T) {
	m := &maker{state: 10}
	for range 1000 {
		g := m.some(t)
		want := told(g.answer())
		g = emptied(g, true)
		for i := range g.Rels {
			junkedRel(&g.Rels[i])
		}
		junkedQuery(&g.Q)
		if got := told(g.answer()); got != want {
			t.Errorf("%s, with junk:\n%s comes, not\n%s", written(g.Q), got, want)
		}
	}
	x := condition(t, "a + 1 = 2 or c")
	junkedExpr(&x)
	want := made(api.XOr, made(api.XEq, made(api.XAdd, col(0), lit(num(1))), lit(num(2))), col(2))
	if e, err := Cond(rel("t", "a:int b:text c:bool"), x); err != api.OK || told(e) != told(want) {
		t.Errorf("error %d and %s come, not %s", err, told(e), told(want))
	}
}

// junkedRel puts something into the fields that a table, or a view's plan, has not.
func junkedRel(r *api.Rel) {
	if !r.View {
		r.Plan = endlessPlan(api.PDistinct, 1)
		return
	}
	junkedPlan(&r.Plan)
}

func junkedPlan(p *api.Plan) {
	if p.Kind != api.PTable && p.Kind != api.PTop {
		p.N = 99
	}
	if p.Kind != api.PMap && p.Kind != api.PGroup && p.Kind != api.PTop {
		p.Xs = []api.Expr{endlessBound()}
	}
	if p.Kind != api.PFilter && (p.Kind < api.PJoin || p.Kind > api.PLeft) {
		p.X = endlessBound()
	}
	if p.Kind != api.PGroup {
		p.Aggs = []api.Agg{{Kind: 99, X: endlessBound()}}
	}
	for i := range p.Aggs {
		if p.Aggs[i].Kind == api.AgRows {
			p.Aggs[i].X = endlessBound()
		}
	}
	for i := range p.Kids {
		junkedPlan(&p.Kids[i])
	}
}

func junkedQuery(q *api.Query) {
	x := endlessExpr(api.XSum, 1)
	if q.Limit < 0 {
		q.Limit, q.Order = -7, slices.Repeat([]api.SExpr{x}, 99)
	}
	for i := range q.Parts {
		s := &q.Parts[i]
		if s.Star {
			s.Items = slices.Repeat([]api.Item{{X: x, As: "1"}}, 99)
		}
		for j := range s.Items {
			if !s.Star {
				junkedExpr(&s.Items[j].X)
			}
		}
		for j := range s.From {
			if j == 0 {
				s.From[j].On = x
			} else {
				junkedExpr(&s.From[j].On)
			}
		}
		if !s.HasWhere {
			s.Where = x
		}
		if !s.HasHaving {
			s.Having = x
		}
	}
}

func junkedExpr(x *api.SExpr) {
	if x.Kind != api.XLit {
		x.Val = api.Val{Kind: 99, N: 7, Text: "junk"}
	} else if x.Val.Kind != api.VText {
		x.Val.Text = strings.Repeat("junk", 99)
	}
	if x.Kind != api.XCol {
		x.Tab, x.Name = "t", "a"
	}
	for i := range x.Kids {
		junkedExpr(&x.Kids[i])
	}
}
