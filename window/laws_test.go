package window

import (
	"cmp"
	"math/big"
	"slices"
	"testing"

	"tidemark/api"
	"tidemark/exprs"
	"tidemark/ops"
	"tidemark/vals"
	"tidemark/zsets"
)

// maker makes things that hang on its state alone.
type maker struct{ state uint64 }

// upTo is a number from 0 on, and less than n.
func (m *maker) upTo(n int) int {
	m.state = m.state*6364136223846793005 + 1442695040888963407
	return int(m.state>>33) % n
}

func pick[T any](m *maker, l ...T) T { return l[m.upTo(len(l))] }

func some[T any](m *maker, most int, l ...T) []T {
	var out []T
	for range m.upTo(most + 1) {
		out = append(out, pick(m, l...))
	}
	return out
}

func (m *maker) val(kind int) api.Val {
	switch {
	case kind == none || m.upTo(5) == 0:
		return null
	case kind == boolean:
		return pick(m, yes, no)
	case kind == texts:
		return text(pick(m, "", "a", "b"))
	}
	return num(pick[int64](m, -2, 0, 1, 3, top, -top, top-1))
}

// set makes one of some rows; few values, so that they meet.
func (m *maker) set(cols []int, most int) rows {
	var l rows
	for range m.upTo(most + 1) {
		r := row(pick[int64](m, -3, -1, 1, 1, 1, 2, 3, 5))
		for _, kind := range cols {
			r.Row = append(r.Row, m.val(kind))
		}
		l = append(l, r)
	}
	return of(l...)
}

// asked is what a window is asked, all of it right.
type asked struct {
	cols        []int
	part, order []api.Expr
	wins        []api.Win
	z           rows
}

func (m *maker) asked() asked {
	cols := []int{integer, texts, boolean, integer}
	keys := these(col(0), col(1), col(2), down(col(3)), node(api.XNot, col(2)), node(api.XIsNull, col(0)), lit(num(1)), lit(null), node(api.XCat, col(1), lit(text("x"))))
	numbers := these(col(0), col(3), down(col(0)), node(api.XAdd, col(0), col(3)), lit(num(2)), lit(null))
	a := asked{cols: cols, part: some(m, 2, keys...), order: some(m, 3, keys...), z: m.set(cols, 30)}
	for range m.upTo(5) {
		kind := 1 + m.upTo(5)
		x := pick(m, numbers...)
		if kind == api.WinLag {
			x = pick(m, append(keys, numbers...)...)
		}
		a.wins = append(a.wins, win(kind, x))
	}
	return a
}

func (a asked) ask(t *testing.T) rows {
	t.Helper()
	z, err := Window(a.cols, a.part, a.order, a.wins, a.z)
	if err != api.OK || zsets.Wrong(z) != api.OK {
		t.Fatalf("error %d, or no set, comes: %s", err, shown(z))
	}
	return z
}

func plain(t *testing.T, cols []int, x api.Expr, r []api.Val) api.Val {
	t.Helper()
	v, err := exprs.Eval(cols, x, r)
	if err != api.OK {
		t.Fatalf("error %d", err)
	}
	return v
}

// one is a row that is there, one of as many as its weight says.
type one struct {
	part, order, row []api.Val
	copy             int
}

func plainOnes(t *testing.T, a asked) []one {
	t.Helper()
	list := func(xs []api.Expr, r []api.Val) (out []api.Val) {
		for _, x := range xs {
			out = append(out, plain(t, a.cols, x, r))
		}
		return out
	}
	var out []one
	for _, r := range a.z {
		for i := range max(r.W, 0) {
			out = append(out, one{list(a.part, r.Row), list(a.order, r.Row), r.Row, int(i)})
		}
	}
	return out
}

func isAhead(a, b one) bool {
	return cmp.Or(vals.Rows(a.order, b.order), vals.Rows(a.row, b.row), cmp.Compare(a.copy, b.copy)) < 0
}

// plainWin counts in the whole part, for each row anew.
func plainWin(t *testing.T, cols []int, w api.Win, part []one, o one) api.Val {
	t.Helper()
	ahead := 0
	var less [][]api.Val
	lag := null
	var sum *big.Int
	for _, p := range part {
		if vals.Rows(p.order, o.order) < 0 {
			less = append(less, p.order)
		}
		if isAhead(p, o) {
			ahead++
		}
		if w.Kind == api.WinSum && !isAhead(o, p) {
			if v := plain(t, cols, w.X, p.row); v.Kind == api.VInt {
				if sum == nil {
					sum = big.NewInt(0)
				}
				sum.Add(sum, big.NewInt(v.N))
			}
		}
		isLast := isAhead(p, o) && !slices.ContainsFunc(part, func(q one) bool { return isAhead(p, q) && isAhead(q, o) })
		if w.Kind == api.WinLag && isLast {
			lag = plain(t, cols, w.X, p.row)
		}
	}
	switch w.Kind {
	case api.WinRow:
		return num(int64(ahead) + 1)
	case api.WinRank:
		return num(int64(len(less)) + 1)
	case api.WinDense:
		slices.SortFunc(less, vals.Rows)
		less = slices.CompactFunc(less, func(a, b []api.Val) bool { return vals.Rows(a, b) == 0 })
		return num(int64(len(less)) + 1)
	case api.WinLag:
		return lag
	}
	if sum == nil || sum.CmpAbs(big.NewInt(top)) > 0 {
		return null
	}
	return num(sum.Int64())
}

func plainWindow(t *testing.T, a asked) rows {
	t.Helper()
	all := plainOnes(t, a)
	var out rows
	for _, o := range all {
		part := slices.DeleteFunc(slices.Clone(all), func(p one) bool { return vals.Rows(p.part, o.part) != 0 })
		r := row(1, slices.Clone(o.row)...)
		for _, w := range a.wins {
			r.Row = append(r.Row, plainWin(t, a.cols, w, part, o))
		}
		out = append(out, r)
	}
	return of(out...)
}

func TestLawPlainly(t *testing.T) {
	m := &maker{state: 1}
	for range 300 {
		a := m.asked()
		check(t, "window", a.ask(t), api.OK, plainWindow(t, a))
	}
}

// What is told takes nothing away, and adds nothing: without it, the rows that are there are left.
func TestLawRowsStay(t *testing.T) {
	m := &maker{state: 2}
	for range 300 {
		a := m.asked()
		var own []api.Expr
		for i := range a.cols {
			own = append(own, col(i))
		}
		types := append(slices.Clone(a.cols), typesOf(t, a)...)
		got, err := ops.Map(types, own, a.ask(t))
		want, _ := zsets.Positive(a.z)
		check(t, "the rows' own values", got, err, want)
		a.z, a.wins = want, a.wins[:0]
		check(t, "without wins", a.ask(t), api.OK, want)
	}
}

// typesOf are those of what wins tell.
func typesOf(t *testing.T, a asked) []int {
	t.Helper()
	var out []int
	for _, w := range a.wins {
		kind := integer
		if w.Kind == api.WinLag {
			kind, _ = exprs.Type(a.cols, w.X)
		}
		out = append(out, kind)
	}
	return out
}

// Rows that go are as if they were not there; and each part is as if it were alone.
func TestLawPartsStandAlone(t *testing.T) {
	m := &maker{state: 3}
	for range 200 {
		a := m.asked()
		keysOf, _ := ops.List(a.cols, a.part)
		rest, _ := zsets.Positive(a.z)
		var all rows
		for len(rest) > 0 {
			keys := keysOf(rest[0].Row)
			isOther := func(r api.ZRow) bool { return vals.Rows(keysOf(r.Row), keys) != 0 }
			alone := asked{cols: a.cols, order: a.order, wins: a.wins, z: slices.DeleteFunc(slices.Clone(rest), isOther)}
			all = append(all, alone.ask(t)...)
			rest = slices.DeleteFunc(rest, func(r api.ZRow) bool { return !isOther(r) })
		}
		check(t, "all parts", a.ask(t), api.OK, of(all...))
	}
}

// The first rows are those with the least numbers.
func TestLawTop(t *testing.T) {
	m := &maker{state: 4}
	for range 300 {
		a := m.asked()
		a.part, a.wins = nil, places()[:1]
		k := m.upTo(api.MaxTop + 1)
		types := append(slices.Clone(a.cols), integer)
		first, _ := ops.Filter(types, node(api.XLe, col(len(a.cols)), lit(num(int64(k)))), a.ask(t))
		got, err := ops.Map(types, these(col(0), col(1), col(2), col(3)), first)
		want, _ := ops.Top(a.cols, a.order, k, a.z)
		check(t, "the first ones", got, err, want)
	}
}

// The greatest number in a part is how many there are, and what is told of the last row is the whole sum.
func TestLawGroup(t *testing.T) {
	m := &maker{state: 5}
	for range 300 {
		a := m.asked()
		a.wins = wins(win(api.WinRow, api.Expr{}), win(api.WinSum, col(3)))
		got := a.ask(t)
		want, err := ops.Group(a.cols, a.part, []api.Agg{{Kind: api.AgRows}, {Kind: api.AgSum, X: col(3)}}, a.z)
		if err != api.OK {
			t.Fatalf("error %d", err)
		}
		keysOf, _ := ops.List(a.cols, a.part)
		var last rows
		for _, w := range want {
			keys, n := w.Row[:len(a.part)], w.Row[len(a.part)]
			at := slices.IndexFunc(got, func(r api.ZRow) bool {
				return vals.Rows(keysOf(r.Row[:4]), keys) == 0 && r.Row[4] == n
			})
			if at >= 0 {
				last = append(last, row(1, slices.Concat(keys, got[at].Row[4:])...))
			} else if n != num(0) {
				t.Errorf("no row has the number %d", n.N)
			} else {
				last = append(last, w) // without keys there is a group even of no rows
			}
		}
		check(t, "the last rows", of(last...), api.OK, want)
	}
}

// A number is no less than a rank, that is no less than a dense one; by all columns, only rows that are the same have one rank.
func TestLawPlaces(t *testing.T) {
	m := &maker{state: 6}
	for range 200 {
		a := m.asked()
		a.wins = places()
		for _, r := range a.ask(t) {
			n, rank, dense := r.Row[4].N, r.Row[5].N, r.Row[6].N
			if r.W != 1 || n < rank || rank < dense || dense < 1 {
				t.Errorf("number %d, rank %d and dense rank %d come", n, rank, dense)
			}
		}
		a.part, a.order, a.wins = nil, these(col(0), col(1), col(2), col(3)), places()[2:]
		var want rows
		there, _ := zsets.Positive(a.z)
		for i, r := range there {
			want = append(want, row(r.W, append(slices.Clone(r.Row), num(int64(i)+1))...))
		}
		check(t, "by all columns", a.ask(t), api.OK, want)
	}
}
