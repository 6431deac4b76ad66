package fix

import (
	"math"
	"reflect"
	"slices"
	"strings"
	"testing"

	"tidemark/api"
	"tidemark/query"
	"tidemark/zsets"
)

// filled puts something else into each place of v; a list becomes nil.
func filled(v reflect.Value) {
	switch v.Kind() {
	case reflect.Int, reflect.Int64:
		v.SetInt(99)
	case reflect.String:
		v.SetString("scribble")
	case reflect.Slice:
		v.SetZero()
	case reflect.Struct:
		for i := range v.NumField() {
			filled(v.Field(i))
		}
	}
}

// spared is a copy of x, in which there is something in the spare room behind each list.
func spared[T any](x T) T {
	return remade(reflect.ValueOf(x), func(l reflect.Value) (reflect.Value, int) {
		out := reflect.MakeSlice(l.Type(), l.Len()+2, l.Len()+2)
		filled(out.Index(l.Len()))
		filled(out.Index(l.Len() + 1))
		return out, l.Len()
	}).Interface().(T)
}

// whole is a copy of x, in which each list has its spare room in it.
func whole[T any](x T) T {
	return remade(reflect.ValueOf(x), func(l reflect.Value) (reflect.Value, int) {
		return reflect.MakeSlice(l.Type(), l.Cap(), l.Cap()), l.Cap()
	}).Interface().(T)
}

// remade is a copy of v; room makes the memory of a list, and says how long the copy is.
func remade(v reflect.Value, room func(l reflect.Value) (reflect.Value, int)) reflect.Value {
	out := reflect.New(v.Type()).Elem()
	switch v.Kind() {
	case reflect.Slice:
		list, n := room(v)
		for i := range n {
			list.Index(i).Set(remade(v.Slice(0, n).Index(i), room))
		}
		out.Set(list.Slice(0, n))
	case reflect.Struct:
		for i := range v.NumField() {
			out.Field(i).Set(remade(v.Field(i), room))
		}
	default:
		out.Set(v)
	}
	return out
}

func (g given) spared() given {
	return given{spared(g.tables), spared(g.seed), spared(g.step), spared(g.data)}
}

func (g given) whole() given {
	return given{whole(g.tables), whole(g.seed), whole(g.step), whole(g.data)}
}

// scribble writes into all that was given.
func (g given) scribble() {
	for _, v := range []any{g.tables, g.seed, g.step, g.data} {
		scribble(reflect.ValueOf(v))
	}
}

// scribble writes into all lists of v, and into their spare room.
func scribble(v reflect.Value) {
	switch v.Kind() {
	case reflect.Slice:
		for i := range v.Cap() {
			scribble(v.Slice(0, v.Cap()).Index(i))
			filled(v.Slice(0, v.Cap()).Index(i))
		}
	case reflect.Struct:
		for i := range v.NumField() {
			scribble(v.Field(i))
		}
	}
}

// room is the memory of a list, its spare room too.
type room struct{ from, to uintptr }

// rooms are those of all lists of v.
func rooms(v reflect.Value) (out []room) {
	switch v.Kind() {
	case reflect.Slice:
		if v.Cap() > 0 {
			out = append(out, room{v.Pointer(), v.Pointer() + uintptr(v.Cap())*v.Type().Elem().Size()})
		}
		for i := range v.Len() {
			out = append(out, rooms(v.Index(i))...)
		}
	case reflect.Struct:
		for i := range v.NumField() {
			out = append(out, rooms(v.Field(i))...)
		}
	}
	return out
}

// shared tells whether two of these lists share memory.
func shared(l []room) bool {
	slices.SortFunc(l, func(a, b room) int { return int(a.from) - int(b.from) })
	for i := range l {
		if i > 0 && l[i].from < l[i-1].to {
			return true
		}
	}
	return false
}

// someGiven are seeds and steps of each kind, some plain and some not; some values have more than their kinds have.
func someGiven() []given {
	tables, data := two()
	data[0][0].Row[0].Text, data[1][1].Row[0].Text = "junk", "junk"
	junk := lit(api.Val{Kind: integer, N: 7, Text: "junk"})
	seed := plan(api.PAdd, table(0), mapped(table(1), col(0), junk))
	var out []given
	for _, step := range plains() {
		out = append(out, given{tables, table(0), step, data}, given{tables, seed, step, data})
	}
	for _, step := range []api.Plan{
		table(0),
		mapped(table(1), junk, col(0)),
		plan(api.PAdd, table(2), table(0)),
		plan(api.PSub, table(0), table(2)),
		by(api.PAnti, same(0, 2), table(0), table(2)),
		mapped(by(api.PLeft, same(0, 2), table(0), table(2)), col(0), col(3)),
		plan(api.PPositive, table(2)),
		plan(api.PDistinct, table(2)),
		grouped(table(2), these(col(1)), agg(api.AgMax, col(0))),
		top(2, table(2), col(1)),
	} {
		out = append(out, given{tables, table(0), step, data}, given{tables, seed, step, data}, given{tables, filter(lit(no), seed), step, data})
	}
	return out
}

// answers is what both calls answer.
func (g given) answers() (rows, rows) {
	all, _, _ := Fix(g.tables, g.seed, g.step, g.data)
	quick, _ := Quick(g.tables, g.seed, g.step, g.data)
	return all, quick
}

func TestZ2ArgumentsAreOnlyRead(t *testing.T) {
	for _, g := range someGiven() {
		s := g.spared()
		before := s.whole()
		all, quick := s.answers()
		wantAll, wantQuick := g.answers()
		if told(all) != told(wantAll) || told(quick) != told(wantQuick) {
			t.Errorf("with spare room: %s and %s come, not %s and %s", told(all), told(quick), told(wantAll), told(wantQuick))
		}
		if !reflect.DeepEqual(s.whole(), before) {
			t.Errorf("what was given is changed: %+v", g)
		}
		if strings.Contains(told(all)+told(quick), "junk") {
			t.Errorf("a value isn't bare: %s", told(all))
		}
	}
}

func TestZ2AnswersAreTheCallers(t *testing.T) {
	for _, g := range someGiven() {
		s := g.spared()
		before := s.whole()
		all, quick := s.answers()
		want := told(all) + told(quick)
		if shared(slices.Concat(rooms(reflect.ValueOf(all)), rooms(reflect.ValueOf(quick)), rooms(reflect.ValueOf(s.data)))) {
			t.Errorf("two lists share memory: %s", want)
		}
		scribble(reflect.ValueOf(all))
		scribble(reflect.ValueOf(quick))
		if !reflect.DeepEqual(s.whole(), before) {
			t.Errorf("what was given is answered: %+v", g)
		}
		all, quick = s.answers()
		s.scribble()
		if told(all)+told(quick) != want {
			t.Errorf("%s and %s come, not %s again", told(all), told(quick), want)
		}
	}
}

// One list may be given as several tables, and one plan as both.
func TestZ2TheSameListTwice(t *testing.T) {
	cols, z := []int{integer}, ones(1, 2)
	given{[][]int{cols, cols}, table(0), table(1), []rows{z, z}}.check(t, "a table twice", z, 1)
	p := filter(below(0, 2), table(0))
	given{[][]int{cols, cols}, p, p, []rows{z, z}}.check(t, "a plan twice", ones(1), 1)
	x := below(0, 9)
	step := filter(x, mapped(filter(x, table(2)), more(0)))
	given{[][]int{cols, cols}, filter(x, table(0)), step, []rows{z, z}}.check(t, "a condition in both", run(1, 8), 7)
}

func TestZ3NilAndEmptyAreTheSame(t *testing.T) {
	for _, tables := range [][][]int{{nil}, {{}}} {
		for _, data := range [][]rows{{nil}, {{}}} {
			given{tables, table(0), table(1), data}.check(t, "nothing", nil, 1)
			for _, xs := range [][]api.Expr{nil, {}} {
				for _, kids := range [][]api.Plan{nil, {}} {
					leaf := api.Plan{Kind: api.PTable, N: 1, Kids: kids}
					given{tables, table(0), api.Plan{Kind: api.PMap, Xs: xs, Kids: []api.Plan{leaf}}, data}.check(t, "a map of nothing", nil, 1)
				}
			}
		}
		for _, r := range [][]api.Val{nil, {}} {
			given{tables, table(0), table(1), []rows{{row(2, r...)}}}.check(t, "the row without values", rows{row(1)}, 1)
		}
	}
	for _, tables := range [][][]int{nil, {}} {
		for _, data := range [][]rows{nil, {}} {
			given{tables, table(0), table(0), data}.checkWrong(t, "no tables", api.ErrName)
			given{[][]int{{integer}}, table(0), table(1), data}.checkWrong(t, "no data", api.ErrFit)
		}
	}
}

// junked is p, in each node of which something stands in the fields that its kind has not; N is a table's number there.
func junked(p api.Plan, x api.Expr, n int) api.Plan {
	q := api.Plan{Kind: p.Kind, N: n, X: x, Xs: these(x, x), Aggs: []api.Agg{{Kind: 99, X: x}}}
	switch p.Kind {
	case api.PTable:
		q.N = p.N
	case api.PFilter, api.PJoin, api.PSemi, api.PAnti, api.PLeft:
		q.X = p.X
	case api.PMap:
		q.Xs = p.Xs
	case api.PGroup:
		q.Xs, q.Aggs = p.Xs, p.Aggs
	case api.PTop:
		q.Xs, q.N = p.Xs, p.N
	}
	for _, k := range p.Kids {
		q.Kids = append(q.Kids, junked(k, x, n))
	}
	return q
}

// Fields that a kind has not mean nothing, not even if they have no end.
func TestZ5OtherFieldsMeanNothing(t *testing.T) {
	endless := these(api.Expr{Kind: api.XNot})
	endless[0].Kids = endless
	for _, g := range someGiven() {
		for _, n := range []int{-7, 0, 2, math.MaxInt} {
			q := given{g.tables, junked(g.seed, endless[0], n), junked(g.step, endless[0], n), g.data}
			all, quick := q.answers()
			wantAll, wantQuick := g.answers()
			if told(all) != told(wantAll) || told(quick) != told(wantQuick) {
				t.Errorf("with junk: %s and %s come, not %s and %s", told(all), told(quick), told(wantAll), told(wantQuick))
			}
		}
	}
}

// odd makes something to be given in which much may be wrong.
func (m *maker) odd() given {
	numbers := []int{math.MinInt, -1, 0, 1, 2, 3, 4, 5, 12, 13, 14, 51, most, math.MaxInt}
	pick := func() int { return numbers[m.upTo(len(numbers))] }
	g := m.any()
	for range m.upTo(3) {
		spoiled := &g.step
		if m.upTo(3) == 0 {
			spoiled = &g.seed
		}
		for len(spoiled.Kids) > 0 && m.upTo(3) > 0 {
			spoiled = &spoiled.Kids[m.upTo(len(spoiled.Kids))]
		}
		switch m.upTo(9) {
		case 0:
			spoiled.Kind = pick()
		case 1:
			spoiled.N = pick()
		case 2:
			spoiled.X = api.Expr{Kind: pick(), Col: pick(), Kids: these(col(pick()))}
		case 3:
			spoiled.Kids = append(spoiled.Kids, api.Plan{Kind: pick(), N: pick()})
		case 4:
			spoiled.Xs = append(spoiled.Xs, lit(api.Val{Kind: pick(), N: int64(pick())}))
		case 5:
			g.tables[m.upTo(2)][m.upTo(2)] = pick()
		case 6:
			g.data = append(g.data[:m.upTo(len(g.data)+1)], nil)
		case 7:
			g.data[m.upTo(len(g.data))] = rows{row(int64(pick()), api.Val{Kind: pick(), N: int64(pick())})}
		case 8:
			for i := range g.data[0] {
				g.data[0][i].W = int64(pick())
			}
		}
	}
	return g
}

// wrong is what the chapter says ahead of all else, word by word.
func (g given) wrong() api.Errno {
	cols, err := query.Cols(g.tables, g.seed)
	if err != api.OK {
		return err
	}
	then, err := query.Cols(append(slices.Clone(g.tables), cols), g.step)
	switch {
	case err != api.OK:
		return err
	case len(then) != len(cols):
		return api.ErrFit
	case !slices.Equal(then, cols):
		return api.ErrType
	}
	return query.Wrong(g.tables, g.data)
}

func TestZ1NothingPanics(t *testing.T) {
	m := maker{state: 5}
	times := map[api.Errno]int{}
	for range 8000 {
		g := m.odd()
		wrong := g.wrong()
		got, n, err := Fix(g.tables, g.seed, g.step, g.data)
		if wrong != api.OK && err != wrong || err != api.OK && (got != nil || n != 0) || err == api.OK && (n == 0 || zsets.Wrong(got) != api.OK) {
			t.Errorf("error %d and %s come, after %d times, where error %d is told first", err, told(got), n, wrong)
		}
		quick, err2 := Quick(g.tables, g.seed, g.step, g.data)
		if wrong != api.OK && err2 != wrong || err2 != api.OK && quick != nil || err2 == api.OK && zsets.Wrong(quick) != api.OK {
			t.Errorf("error %d and %s come quickly, where error %d is told first", err2, told(quick), wrong)
		}
		times[err]++
	}
	for _, err := range []api.Errno{api.OK, api.ErrKind, api.ErrRange, api.ErrMany, api.ErrName, api.ErrFit, api.ErrType, api.ErrSteps} {
		if times[err] == 0 {
			t.Errorf("error %d never comes", err)
		}
	}
	endless := []api.Plan{{Kind: api.PDistinct}}
	endless[0].Kids = endless
	given{[][]int{{integer}}, endless[0], table(0), nil}.checkWrong(t, "a seed without an end", api.ErrMuch)
	given{[][]int{{integer}}, table(0), endless[0], nil}.checkWrong(t, "a step without an end", api.ErrMuch)
}

// Whatever fits comes to its end: as many times as may be, and as many rows, with many pairs each time.
func TestZ1TheGreatestEnd(t *testing.T) {
	g := columnsOf(8)
	g.tables, g.data = append(g.tables, []int{integer}), append(g.data, run(0, api.MaxRows))
	p := filter(below(0, api.MaxRounds-1), table(2))
	for range 5 {
		p = semi(made(api.XEq, col(2), lit(num(api.MaxRows-1))), p, table(1))
	}
	g.step = mapped(p, more(0), col(1))
	var want rows
	for n := range int64(api.MaxRounds) {
		for i := range int64(8) {
			want = append(want, row(1, num(n), num(i)))
		}
	}
	g.check(t, "as large as may be", want, api.MaxRounds)
}
