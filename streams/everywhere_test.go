package streams

import (
	"math"
	"reflect"
	"strings"
	"testing"

	"tidemark/api"
	"tidemark/zsets"
)

// given is all that a call of a plan may be given.
type given struct {
	tables [][]int
	p      api.Plan
	l      [][]rows
}

func (w planWay) of(g given) ([]rows, api.Fault) { return w.call(g.tables, g.p, g.l) }

// filled puts something else into each place of v; a list becomes nil.
func filled(v reflect.Value) {
	switch v.Kind() {
	case reflect.Int, reflect.Int64:
		v.SetInt(99)
	case reflect.String:
		v.SetString("scribble")
	case reflect.Slice:
		v.SetZero()
	case reflect.Struct:
		for i := range v.NumField() {
			filled(v.Field(i))
		}
	}
}

// spared is a copy of x, in which there is something in the spare room behind each list.
func spared[T any](x T) T {
	return copied(reflect.ValueOf(x), func(l reflect.Value) (reflect.Value, int) {
		out := reflect.MakeSlice(l.Type(), l.Len()+2, l.Len()+2)
		filled(out.Index(l.Len()))
		filled(out.Index(l.Len() + 1))
		return out, l.Len()
	}).Interface().(T)
}

// whole is a copy of x, in which each list has its spare room in it.
func whole[T any](x T) T {
	return copied(reflect.ValueOf(x), func(l reflect.Value) (reflect.Value, int) {
		return reflect.MakeSlice(l.Type(), l.Cap(), l.Cap()), l.Cap()
	}).Interface().(T)
}

// copied is a copy of v; room makes the memory of a list, and says how long the copy is.
func copied(v reflect.Value, room func(l reflect.Value) (reflect.Value, int)) reflect.Value {
	out := reflect.New(v.Type()).Elem()
	switch v.Kind() {
	case reflect.Slice:
		list, n := room(v)
		for i := range n {
			list.Index(i).Set(copied(v.Slice(0, n).Index(i), room))
		}
		out.Set(list.Slice(0, n))
	case reflect.Struct:
		for i := range v.NumField() {
			out.Field(i).Set(copied(v.Field(i), room))
		}
	default:
		out.Set(v)
	}
	return out
}

func (g given) spared() given { return given{spared(g.tables), spared(g.p), spared(g.l)} }

func (g given) whole() given { return given{whole(g.tables), whole(g.p), whole(g.l)} }

// scribble writes into all lists of v, and into their spare room.
func scribble(v reflect.Value) {
	switch v.Kind() {
	case reflect.Slice:
		for i := range v.Cap() {
			scribble(v.Slice(0, v.Cap()).Index(i))
			filled(v.Slice(0, v.Cap()).Index(i))
		}
	case reflect.Struct:
		for i := range v.NumField() {
			scribble(v.Field(i))
		}
	}
}

// everyKind has a plan of each kind along lane; some values have more than their kinds have.
func everyKind() []given {
	var out []given
	for _, c := range append(ofOne(), ofTwo()...) {
		tables, l := lane()
		l[0][0][0].Row[0].Text, l[1][0][0].Row[0].Text, l[2][1][1].Row[0].Text = "junk", "junk", "junk"
		out = append(out, given{tables, c.p, l})
	}
	return append(out, given{[][]int{{integer}}, mapped(table(0), lit(api.Val{Kind: integer, N: 3, Text: "junk"})), [][]rows{{set(1, 2)}, {set(1, -1)}, {nil}}})
}

// someSets are streams; some values have more than their kinds have.
func someSets() [][]rows {
	junk := []rows{{row(1, api.Val{Kind: api.VNull, N: 7, Text: "junk"}), row(2, api.Val{Kind: integer, N: 1, Text: "junk"})}, {row(1, api.Val{Kind: integer, N: 1, Text: "junk"}), row(-1, api.Val{Kind: texts, N: 9, Text: "a"})}, {row(-1, num(1)), row(1, num(2), num(3))}, nil}
	return [][]rows{nil, {nil}, {set(1, 1)}, {set(1, 1), nil, nil}, junk}
}

// checkSpared: what is given with spare room comes to the same, and stays the same; the values that come have what their kinds have alone.
func checkSpared(t *testing.T, name string, got []rows, f api.Fault, want []rows, same bool) {
	t.Helper()
	check(t, name+" with spare room", got, f, want...)
	if !same {
		t.Errorf("%s changes what it is given", name)
	}
	for _, z := range got {
		for _, r := range z {
			for _, v := range r.Row {
				if v.Kind == api.VNull && v.N != 0 || v.Kind != texts && v.Text != "" || v.Kind == texts && v.N != 0 {
					t.Errorf("%s: a value isn't bare: %s", name, told(got))
				}
			}
		}
	}
}

func TestZ2ArgumentsAreOnlyRead(t *testing.T) {
	for _, w := range ways() {
		for _, l := range someSets() {
			s := spared(l)
			before := whole(s)
			got, f := w.call(s)
			want, _ := w.call(l)
			checkSpared(t, w.name, got, f, want, reflect.DeepEqual(whole(s), before))
		}
	}
	for _, w := range planWays() {
		for _, g := range everyKind() {
			s := g.spared()
			before := s.whole()
			got, f := w.of(s)
			want, _ := w.of(g)
			checkSpared(t, w.name, got, f, want, reflect.DeepEqual(s.whole(), before))
		}
	}
}

// checkApart: no two lists of an answer share memory; their spare room is the answer's too.
func checkApart(t *testing.T, name string, l []rows) {
	t.Helper()
	at := int64(0)
	marked := func(mark func(z rows, r []api.Val)) {
		at = 0
		for _, z := range l {
			at++
			mark(z, nil)
			for _, r := range z {
				at++
				mark(nil, r.Row)
			}
		}
	}
	marked(func(z rows, r []api.Val) {
		for i := range z[:cap(z)] {
			z[:cap(z)][i].W = at
		}
		for i := range r[:cap(r)] {
			r[:cap(r)][i] = num(at)
		}
	})
	marked(func(z rows, r []api.Val) {
		for _, x := range z[:cap(z)] {
			if x.W != at {
				t.Errorf("%s: two sets of an answer share memory", name)
			}
		}
		for _, v := range r[:cap(r)] {
			if v != num(at) {
				t.Errorf("%s: two rows of an answer share memory", name)
			}
		}
	})
}

// Who writes into what was answered changes neither what was given nor the rest of the answer; and the other way round.
func TestZ2AnswersAreTheCallers(t *testing.T) {
	for _, w := range ways() {
		for _, l := range someSets() {
			s := spared(l)
			before := whole(s)
			got, _ := w.call(s)
			want := told(got)
			checkApart(t, w.name, got)
			scribble(reflect.ValueOf(got))
			if !reflect.DeepEqual(whole(s), before) {
				t.Errorf("%s answers what it was given", w.name)
			}
			got, _ = w.call(s)
			if told(got) != want {
				t.Errorf("%s: %s comes, not %s again", w.name, told(got), want)
			}
			scribble(reflect.ValueOf(s))
			if told(got) != want {
				t.Errorf("%s keeps what it was given", w.name)
			}
		}
	}
}

func TestZ2AnswersOfPlansAreTheCallers(t *testing.T) {
	for _, w := range planWays() {
		for _, g := range everyKind() {
			s := g.spared()
			before := s.whole()
			got, _ := w.of(s)
			want := told(got)
			checkApart(t, w.name, got)
			scribble(reflect.ValueOf(got))
			if !reflect.DeepEqual(s.whole(), before) {
				t.Errorf("%s of kind %d answers what it was given", w.name, g.p.Kind)
			}
			got, _ = w.of(s)
			if told(got) != want {
				t.Errorf("%s of kind %d: %s comes, not %s again", w.name, g.p.Kind, told(got), want)
			}
			for _, x := range []any{s.tables, s.p, s.l} {
				scribble(reflect.ValueOf(x))
			}
			if told(got) != want || strings.Contains(want, "scribble") {
				t.Errorf("%s of kind %d keeps what it was given", w.name, g.p.Kind)
			}
		}
	}
}

// One set may be given more than once.
func TestZ2TheSameSetTwice(t *testing.T) {
	one := set(1, 1)
	l := []rows{one, one, one}
	got, f := Integrate(l)
	check(t, "Integrate", got, f, set(1, 1), set(1, 2), set(1, 3))
	got, f = Delay(l)
	check(t, "Delay", got, f, nil, one, one)
	checkApart(t, "Delay", got)
	got, f = Differentiate([]rows{set(1, 1), nil, l[1]})
	check(t, "Differentiate", got, f, set(1, 1), set(1, -1), l[1])
	tables, both := [][]int{{integer}, {integer}}, []rows{set(1, 1), nil}
	both[1] = both[0]
	got, f = Inc(tables, plan(api.PAdd, table(0), table(1)), [][]rows{both, both, both})
	check(t, "Inc", got, f, set(1, 2), set(1, 2), set(1, 2))
}

func TestZ3NilAndEmptyAreTheSame(t *testing.T) {
	for _, w := range ways() {
		for _, l := range [][]rows{nil, {}} {
			got, f := w.call(l)
			check(t, w.name+" of nothing", got, f)
		}
		got, f := w.call([]rows{nil, {}, {}, nil})
		check(t, w.name+" of empty sets", got, f, make([]rows, 4)...)
	}
	got, f := Integrate([]rows{{{W: 1}}, {{Row: []api.Val{}, W: -1}}})
	check(t, "the row without values goes", got, f, rows{row(1)}, nil)
	for _, w := range planWays() {
		for _, l := range [][][]rows{nil, {}} {
			got, f := w.call(nil, api.Plan{}, l)
			check(t, w.name+" of nothing", got, f)
		}
		for _, tables := range [][][]int{{nil}, {{}}} {
			got, f := w.call(tables, table(0), [][]rows{{nil}, {{}}, {{{W: 2}}}, {{{Row: []api.Val{}, W: 3}}}})
			check(t, w.name+" of a table without columns", got, f, nil, nil, rows{row(2)}, rows{row(3)})
		}
		for _, none := range [][]rows{nil, {}} {
			got, f := w.call([][]int{nil}, table(0), [][]rows{{nil}, none})
			checkFault(t, w.name+" without a list", got, f, api.ErrFit, 1)
		}
	}
}

// Fields that a kind has not mean nothing.
func TestZ5OtherFieldsMeanNothing(t *testing.T) {
	for _, w := range planWays() {
		for _, g := range everyKind() {
			want, _ := w.of(g)
			switch g.p.Kind {
			case api.PTable:
				g.p.X, g.p.Xs, g.p.Aggs = api.Expr{Kind: 99}, make([]api.Expr, 20), make([]api.Agg, 20)
			case api.PMap, api.PTop:
				g.p.X, g.p.Aggs = api.Expr{Kind: 99}, make([]api.Agg, 20)
			case api.PGroup:
				g.p.X, g.p.N = api.Expr{Kind: 99}, -7
			default:
				g.p.Xs, g.p.Aggs, g.p.N = make([]api.Expr, 20), make([]api.Agg, 20), -7
			}
			got, f := w.of(g)
			check(t, w.name+" with junk in it", got, f, want...)
		}
	}
}

// odd makes something to be given in which much may be wrong.
func (m *maker) odd() given {
	numbers := []int{math.MinInt, -1, 0, 1, 2, 3, 4, 5, 12, 13, 14, 51, most, math.MaxInt}
	pick := func() int { return numbers[m.upTo(len(numbers))] }
	g := given{tables: someTables(), p: m.plan(2, 1+m.upTo(4))}
	g.l = m.streamOf(g.tables)
	for range m.upTo(3) {
		sets := &[]rows{nil}
		if len(g.l) > 0 {
			sets = &g.l[m.upTo(len(g.l))]
		}
		switch m.upTo(7) {
		case 0:
			g.p.Kind = pick()
		case 1:
			g.p.N = pick()
		case 2:
			g.p.X = api.Expr{Kind: pick(), Col: pick(), Kids: []api.Expr{col(pick())}}
		case 3:
			g.tables[m.upTo(2)][m.upTo(2)] = pick()
		case 4:
			*sets = append((*sets)[:m.upTo(len(*sets)+1)], nil)
		default:
			(*sets)[m.upTo(len(*sets))] = rows{row(int64(pick()), api.Val{Kind: pick(), N: int64(pick())})}
		}
	}
	return g
}

// checkAnswer: there is a fault at one of n entries, or as many sets come.
func checkAnswer(t *testing.T, name string, n int, got []rows, f api.Fault) {
	t.Helper()
	if f.Err != api.OK && (got != nil || f.At < 0 || f.At >= n) || f.Err == api.OK && (f.At != 0 || len(got) != n) {
		t.Errorf("%s: %s comes beside fault %v, of %d", name, told(got), f, n)
	}
	for _, z := range got {
		if err := zsets.Wrong(z); err != api.OK {
			t.Errorf("%s: %s comes, of which error %d is told", name, told([]rows{z}), err)
		}
	}
}

// where tells whether there is a fault, and whether something stands ahead of it.
func where(f api.Fault) string {
	switch {
	case f.Err == api.OK:
		return ""
	case f.At == 0:
		return " at 0"
	}
	return " behind"
}

func TestZ1NothingPanics(t *testing.T) {
	m := maker{state: 3}
	times := map[string]int{}
	for range 20000 {
		g := m.odd()
		for _, w := range planWays() {
			got, f := w.of(g)
			checkAnswer(t, w.name, len(g.l), got, f)
			times[w.name+where(f)]++
		}
		var l []rows
		for _, sets := range g.l {
			l = append(l, sets...)
		}
		for _, w := range ways() {
			got, f := w.call(l)
			checkAnswer(t, w.name, len(l), got, f)
			times[w.name+where(f)]++
		}
	}
	for _, name := range []string{"Integrate", "Differentiate", "Delay", "Lift", "Inc"} {
		for _, how := range []string{"", " at 0", " behind"} {
			if times[name+how] < 100 {
				t.Errorf("%s%s comes %d times", name, how, times[name+how])
			}
		}
	}
}

// Whatever fits comes to its end: many nodes with many pairs, and as many sets as may be.
func TestZ1TheGreatestEnd(t *testing.T) {
	p, never := table(0), made(api.XLt, made(api.XAdd, col(0), col(1)), lit(num(0)))
	for range api.MaxNest - 2 {
		p = by(api.PAnti, never, p, by(api.PAnti, never, table(0), table(0)))
	}
	var l [][]rows
	var want []rows
	first := int64(api.MaxRows - longest + 1)
	for i := range int64(longest) {
		l, want = append(l, []rows{run(first-1+i, 1)}), append(want, run(first-1+i, 1))
	}
	l[0], want[0] = []rows{run(0, first)}, run(0, first)
	for _, w := range planWays() {
		got, f := w.call([][]int{{integer}}, p, l)
		check(t, w.name+" of as much as may be", got, f, want...)
	}
}
