package ops

import (
	"math"
	"reflect"
	"slices"
	"strings"
	"testing"

	"tidemark/api"
	"tidemark/zsets"
)

// given is all that a call may be given.
type given struct {
	cols, right []int
	x           api.Expr
	xs          []api.Expr
	aggs        []api.Agg
	k           int
	a, b        rows
}

func everyCall() map[string]func(g given) (rows, api.Errno) {
	out := map[string]func(g given) (rows, api.Errno){
		"Filter": func(g given) (rows, api.Errno) { return Filter(g.cols, g.x, g.a) },
		"Map":    func(g given) (rows, api.Errno) { return Map(g.cols, g.xs, g.a) },
		"Group":  func(g given) (rows, api.Errno) { return Group(g.cols, g.xs, g.aggs, g.a) },
		"Top":    func(g given) (rows, api.Errno) { return Top(g.cols, g.xs, g.k, g.a) },
	}
	for name, f := range ofPairsAll() {
		out[name] = func(g given) (rows, api.Errno) { return f(g.cols, g.right, g.x, g.a, g.b) }
	}
	return out
}

// behind is l with more of its room used, so that what stands behind its end can be watched.
func behind[T any](l []T, more T) []T { return append(slices.Clone(l), more) }

func spareSet(z rows) rows {
	out := make(rows, 0, len(z)+1)
	for _, r := range z {
		out = append(out, row(r.W, behind(r.Row, text("behind"))[:len(r.Row)]...))
	}
	return append(out, row(9, text("behind")))
}

// roomy is something right to be given, its lists with spare room in use; all are its lists to their ends.
func roomy() (g given, all []any) {
	junk := func(n int64) api.Val { return api.Val{Kind: api.VInt, N: n, Text: "junk"} }
	cols, right := behind([]int{integer, texts}, 99), behind([]int{integer}, 99)
	kids := behind(these(col(0), col(2)), api.Expr{Kind: 99})
	sum := behind(these(col(0), lit(junk(1))), api.Expr{Kind: 99})
	xs := behind(these(col(1), api.Expr{Kind: api.XAdd, Kids: sum[:2]}), api.Expr{Kind: 99})
	gs := behind(aggs(agg(api.AgRows, api.Expr{}), agg(api.AgMax, api.Expr{Kind: api.XAdd, Kids: sum[:2]})), agg(99, api.Expr{}))
	a := spareSet(rows{row(1, null, text("a")), row(2, junk(1), text("b")), row(-1, num(2), text("a")), row(3, num(2), text("b"))})
	b := spareSet(rows{row(2, num(1)), row(-1, num(2)), row(1, num(3))})
	g = given{cols: cols[:2], right: right[:1], x: api.Expr{Kind: api.XLe, Kids: kids[:2]}, xs: xs[:2], aggs: gs[:2], k: 3, a: a[:4], b: b[:3]}
	return g, []any{cols, right, kids, sum, xs, gs, whole(a), whole(b)}
}

// whole is a copy of z's rows, to the ends of their rooms.
func whole(z rows) rows {
	var out rows
	for _, r := range z {
		out = append(out, row(r.W, slices.Clone(r.Row[:cap(r.Row)])...))
	}
	return out
}

// oneSided is g for the calls that have one set: a condition may ask of its columns alone.
func oneSided(name string, g given) given {
	if name == "Filter" {
		g.x = node(api.XLe, col(0), lit(num(2)))
	}
	return g
}

func TestZ2ArgumentsAreOnlyRead(t *testing.T) {
	for name, f := range everyCall() {
		g, all := roomy()
		got, err := f(oneSided(name, g))
		must(t, got, err)
		if len(got) == 0 {
			t.Errorf("%s: nothing comes", name)
		}
		_, want := roomy()
		all[6], all[7] = whole(g.a[:cap(g.a)][:5]), whole(g.b[:cap(g.b)][:4])
		if !reflect.DeepEqual(all, want) {
			t.Errorf("%s changes what it is given: %#v", name, all)
		}
		for _, r := range got {
			for _, v := range r.Row {
				if v.Kind != api.VText && v.Text != "" {
					t.Errorf("%s: a value isn't bare: %#v", name, v)
				}
			}
		}
	}
}

// scribble writes into all that z has, its spare room too.
func scribble(z rows) {
	for i, r := range z[:cap(z)] {
		for j := range r.Row[:cap(r.Row)] {
			r.Row[:cap(r.Row)][j] = text("scribble")
		}
		z[:cap(z)][i].W = 77
	}
}

func TestZ2AnswersAreTheCallers(t *testing.T) {
	for name, f := range everyCall() {
		g, _ := roomy()
		g = oneSided(name, g)
		first, _ := f(g)
		want := told(first)
		scribble(first)
		second, err := f(g)
		if err != api.OK || told(second) != want {
			t.Errorf("%s: %s comes the second time, not %s", name, told(second), want)
		}
		for i := range second {
			l := second[i].Row
			for j := range l[:cap(l)] {
				l[:cap(l)][j] = text("scribble")
			}
			if strings.Contains(told(second[i+1:]), "scribble") {
				t.Fatalf("%s: two rows of an answer share memory", name)
			}
		}
	}
}

// What is given may change as soon as a call has answered.
func TestZ2NothingIsKept(t *testing.T) {
	for name, f := range everyCall() {
		g, _ := roomy()
		got, _ := f(oneSided(name, g))
		want := told(got)
		scribble(g.a)
		scribble(g.b)
		if told(got) != want {
			t.Errorf("%s: who writes into what was given changes the answer", name)
		}
	}
}

func TestZ3NilAndEmptyAreTheSame(t *testing.T) {
	for name, f := range everyCall() {
		for _, x := range these(lit(yes), lit(num(1))) {
			one, err := f(given{x: x})
			other, err2 := f(given{cols: []int{}, right: []int{}, x: x, xs: these(), aggs: aggs(), a: rows{}, b: rows{}})
			if err != err2 || told(one) != told(other) {
				t.Errorf("%s: %s and error %d, %s and error %d come of nothing", name, told(one), err, told(other), err2)
			}
		}
		one, err := f(given{x: lit(yes), k: 1, a: rows{{W: 2}}, b: rows{{W: 3}}})
		other, err2 := f(given{x: lit(yes), k: 1, a: rows{{Row: []api.Val{}, W: 2}}, b: rows{{Row: []api.Val{}, W: 3}}})
		if err != api.OK || err2 != api.OK || told(one) != told(other) {
			t.Errorf("%s: %s and error %d, %s and error %d come of rows of nothing", name, told(one), err, told(other), err2)
		}
	}
}

// odd makes something to be given in which much may be wrong.
func (m *maker) odd() given {
	numbers := []int{math.MinInt, -1, 0, 1, 2, 3, 4, 5, 6, 12, 17, 19, 51, math.MaxInt}
	pick := func() int { return numbers[m.upTo(len(numbers))] }
	expr := func() api.Expr {
		return []api.Expr{lit(yes), col(0), col(1), col(pick()), same(0, 1), {Kind: pick()}, node(pick(), col(0)), lit(api.Val{Kind: pick(), N: int64(pick())}), node(api.XAdd, col(0), lit(num(1)))}[m.upTo(9)]
	}
	set := func() (z rows) {
		if m.upTo(2) == 0 {
			return m.set([]int{integer, texts}, 6)
		}
		for range m.upTo(3) {
			r := row(int64(pick()))
			for range m.upTo(4) {
				r.Row = append(r.Row, api.Val{Kind: pick(), N: int64(pick())})
			}
			z = append(z, r)
		}
		return z
	}
	g := given{cols: []int{integer, texts}, x: expr(), k: pick(), a: set(), b: set()}
	for range m.upTo(3) {
		g.right = append(g.right, pick())
		g.xs = append(g.xs, expr())
		g.aggs = append(g.aggs, agg(pick(), expr()))
	}
	if m.upTo(3) == 0 {
		g.cols = append(g.cols, pick())
	}
	return g
}

func TestZ1NothingPanics(t *testing.T) {
	m := maker{state: 77}
	for range 20000 {
		g := m.odd()
		for name, f := range everyCall() {
			got, err := f(g)
			if err != api.OK && got != nil {
				t.Errorf("%s: %s comes beside error %d", name, told(got), err)
			}
			if err == api.OK && zsets.Wrong(got) != api.OK {
				t.Errorf("%s: what comes is no set: %s", name, told(got))
			}
		}
	}
}

// anyOf is whether one of n that are alike holds; it has four nodes for each of them, less one in all.
func anyOf(n int) api.Expr {
	if n == 1 {
		return same(0, 4)
	}
	return node(api.XOr, anyOf(n/2), anyOf(n-n/2))
}

// Whatever fits comes to its end: as many pairs, and as much to ask of each of them, as may be.
func TestZ1TheGreatestEnd(t *testing.T) {
	wideSet := func(w int64) rows {
		z := upTo(api.MaxRows, w)
		for i := range z {
			z[i].Row = append(z[i].Row, num(int64(i)), text(strings.Repeat("x", api.MaxText)), null)
		}
		return z
	}
	cols := []int{integer, integer, texts, none}
	a, b := wideSet(1), wideSet(2)
	for name, f := range ofPairsAll() {
		got, err := f(cols, cols, anyOf(api.MaxNodes/4), a, b)
		if name == "Anti" {
			check(t, name, got, err, nil)
		} else if must(t, got, err); len(got) != api.MaxRows {
			t.Errorf("%s: %d rows come", name, len(got))
		}
	}
}
