package window

import (
	"math"
	"reflect"
	"slices"
	"strings"
	"testing"

	"tidemark/api"
	"tidemark/zsets"
)

// behind is l with more of its room used, so that what stands behind its end can be watched.
func behind[T any](l []T, more T) []T { return append(slices.Clone(l), more)[:len(l)] }

// toEnd is a copy of l and of the room behind it that is in use.
func toEnd[T any](l []T) []T { return slices.Clone(l[:len(l)+1]) }

// roomy is something right to be asked, its lists with spare room in use; watch is a copy of its lists to their ends.
func roomy() (a asked, watch func() []any) {
	junk := func(n int64) api.Val { return api.Val{Kind: api.VInt, N: n, Text: "junk"} }
	wrong := api.Expr{Kind: 99}
	kids := behind(these(col(0), lit(junk(1))), wrong)
	x := node(api.XAdd)
	x.Kids = kids
	var z rows
	for _, r := range []api.ZRow{
		row(2, api.Val{Kind: api.VNull, N: 8, Text: "junk"}, text("a")),
		row(1, junk(1), api.Val{Kind: api.VText, N: 9, Text: "a"}),
		row(-1, num(2), text("a")),
		row(3, junk(2), text("b")),
		row(1, num(4), text("a")),
	} {
		z = append(z, row(r.W, behind(r.Row, text("behind"))...))
	}
	a = asked{
		cols:  behind([]int{integer, texts}, 99),
		part:  behind(these(col(1)), wrong),
		order: behind(these(x, col(1)), wrong),
		wins:  behind(append(places(), win(api.WinSum, x), win(api.WinLag, x), win(api.WinLag, col(1))), api.Win{}),
		z:     behind(z, row(9, text("behind"))),
	}
	return a, func() []any {
		out := []any{toEnd(a.cols), toEnd(a.part), toEnd(a.order), toEnd(a.wins), toEnd(a.z), toEnd(kids)}
		for _, r := range a.z {
			out = append(out, toEnd(r.Row))
		}
		return out
	}
}

func TestZ2ArgumentsAreOnlyRead(t *testing.T) {
	a, watch := roomy()
	want := watch()
	got := a.ask(t)
	if len(got) != 7 {
		t.Errorf("%s comes", shown(got))
	}
	if !reflect.DeepEqual(watch(), want) {
		t.Error("what was given is changed")
	}
	for _, r := range got {
		for _, v := range r.Row {
			if v.Kind != api.VText && v.Text != "" || v.Kind != api.VInt && v.N != 0 {
				t.Errorf("a value isn't bare: %#v", v)
			}
		}
	}
}

// scribble writes into all that z has, its spare room too.
func scribble(z rows) {
	for i, r := range z[:cap(z)] {
		for j := range r.Row[:cap(r.Row)] {
			r.Row[:cap(r.Row)][j] = text("scribble")
		}
		z[:cap(z)][i].W = 77
	}
}

func TestZ2AnswersAreTheCallers(t *testing.T) {
	for _, withWins := range []bool{true, false} {
		a, _ := roomy()
		if !withWins {
			a.wins = nil
		}
		first := a.ask(t)
		want := shown(first)
		scribble(first)
		second := a.ask(t)
		if shown(second) != want {
			t.Errorf("%s comes the second time, not %s", shown(second), want)
		}
		for i := range second {
			l := second[i].Row
			for j := range l[:cap(l)] {
				l[:cap(l)][j] = text("scribble")
			}
			if strings.Contains(shown(second[i+1:]), "scribble") {
				t.Fatal("two rows of an answer share memory")
			}
		}
		third := a.ask(t)
		scribble(a.z)
		if shown(third) != want {
			t.Error("who writes into what was given changes the answer")
		}
	}
}

func TestZ3NilAndEmptyAreTheSame(t *testing.T) {
	for _, z := range [][2]rows{{nil, {}}, {{{W: 2}}, {{Row: []api.Val{}, W: 2}}}} {
		one, err := Window(nil, nil, nil, nil, z[0])
		other, err2 := Window([]int{}, these(), these(), wins(), z[1])
		if err != api.OK || err2 != api.OK || shown(one) != shown(other) {
			t.Errorf("%s and error %d, %s and error %d come", shown(one), err, shown(other), err2)
		}
	}
	one, err := Window([]int{integer}, nil, nil, wins(api.Win{Kind: api.WinSum, X: api.Expr{Kind: api.XCol}}), upTo(3, 1))
	other, err2 := Window([]int{integer}, these(), these(), wins(api.Win{Kind: api.WinSum, X: api.Expr{Kind: api.XCol, Kids: these()}}), upTo(3, 1))
	if err != api.OK || err2 != api.OK || shown(one) != shown(other) {
		t.Errorf("%s and error %d, %s and error %d come", shown(one), err, shown(other), err2)
	}
}

// spoil puts something odd into one place of what is asked.
func (m *maker) spoil(a asked) asked {
	number := pick(m, math.MinInt, -1, 0, 1, 3, 5, 6, 9, 99, math.MaxInt)
	odd := pick(m, api.Expr{Kind: number}, col(number), lit(api.Val{Kind: number}), lit(num(int64(number))), node(api.XNot, col(0)), node(number, col(0), col(3)))
	switch m.upTo(8) {
	case 0:
		a.cols = append(slices.Clone(a.cols), number)
	case 1:
		a.cols = append(slices.Clone(a.cols[1:]), number)
	case 2:
		a.part = append(a.part, odd)
	case 3:
		a.order = append(a.order, odd)
	case 4:
		a.wins = append(a.wins, win(number, col(0)))
	case 5:
		a.wins = append(a.wins, win(pick(m, api.WinSum, api.WinLag), odd))
	case 6:
		a.z = append(a.z, row(int64(number), api.Val{Kind: number, N: int64(number)}))
	case 7:
		a.z = append(a.z, row(int64(number), text("z"), text("z"), no, num(1)))
	}
	return a
}

func TestZ1NothingPanics(t *testing.T) {
	m := &maker{state: 12}
	times := map[api.Errno]int{}
	for range 8000 {
		a := m.asked()
		for range m.upTo(4) {
			a = m.spoil(a)
		}
		got, err := Window(a.cols, a.part, a.order, a.wins, a.z)
		times[err]++
		if err != api.OK && got != nil {
			t.Errorf("error %d and %s come", err, shown(got))
		}
		if err == api.OK && zsets.Wrong(got) != api.OK {
			t.Errorf("what comes is no set: %s", shown(got))
		}
		if again, err2 := Window(a.cols, a.part, a.order, a.wins, a.z); err2 != err || shown(again) != shown(got) {
			t.Errorf("%s, then %s come", shown(got), shown(again))
		}
	}
	for _, err := range []api.Errno{api.OK, api.ErrKind, api.ErrRange, api.ErrMany, api.ErrName, api.ErrFit, api.ErrType} {
		if times[err] == 0 {
			t.Errorf("error %d never comes", err)
		}
	}
}

// Whatever fits comes to its end: as many rows, as many expressions, and these as large as may be.
func TestZ1TheGreatestEnd(t *testing.T) {
	cols := []int{integer, texts}
	var z rows
	for i := range int64(api.MaxRows) {
		z = append(z, row(1, num(i), text(strings.Repeat("x", api.MaxText))))
	}
	large := slices.Repeat(these(added(api.MaxNodes/2)), api.MaxCols)
	got, err := Window(cols, large, large, slices.Repeat(wins(win(api.WinSum, large[0])), api.MaxCols-2), z)
	if err != api.OK || len(got) != api.MaxRows {
		t.Errorf("error %d and %d rows come", err, len(got))
	}
}

// added is column 0 so many times; it has twice as many nodes, less one.
func added(n int) api.Expr {
	if n == 1 {
		return col(0)
	}
	return node(api.XAdd, added(n/2), added(n-n/2))
}
