package ops

import (
	"math"
	"math/big"
	"slices"
	"strings"
	"testing"

	"tidemark/api"
	"tidemark/vals"
)

func agg(kind int, x api.Expr) api.Agg { return api.Agg{Kind: kind, X: x} }

func aggs(l ...api.Agg) []api.Agg { return l }

func TestD4Wrong(t *testing.T) {
	cols := []int{integer, texts, boolean, none}
	bad := rows{row(0, api.Val{})}
	tooLong := lit(text(strings.Repeat("x", api.MaxText+1)))
	for _, c := range []struct {
		keys []api.Expr
		aggs []api.Agg
		want api.Errno
	}{
		{make([]api.Expr, 5), make([]api.Agg, 4), api.ErrMany},
		{nil, make([]api.Agg, api.MaxCols+1), api.ErrMany},
		{make([]api.Expr, api.MaxCols), make([]api.Agg, 1), api.ErrMany},
		{make([]api.Expr, 4), make([]api.Agg, 4), api.ErrKind},
		{these(col(9)), aggs(agg(0, col(0))), api.ErrName},
		{these(node(api.XNot, col(0))), aggs(agg(0, col(0))), api.ErrType},
		{nil, aggs(agg(0, col(0))), api.ErrKind},
		{nil, aggs(agg(6, col(0))), api.ErrKind},
		{nil, aggs(agg(-1, col(0))), api.ErrKind},
		{nil, aggs(agg(math.MaxInt, col(9))), api.ErrKind},
		{nil, aggs(agg(api.AgCount, col(4))), api.ErrName},
		{nil, aggs(agg(api.AgSum, col(4))), api.ErrName},
		{nil, aggs(agg(api.AgMin, node(api.XNot))), api.ErrMany},
		{nil, aggs(agg(api.AgMax, tooLong)), api.ErrMuch},
		{nil, aggs(agg(api.AgCount, node(api.XNot, col(0)))), api.ErrType},
		{nil, aggs(agg(api.AgSum, col(1))), api.ErrType},
		{nil, aggs(agg(api.AgSum, col(2))), api.ErrType},
		{nil, aggs(agg(api.AgSum, col(1)), agg(0, col(0))), api.ErrType},
		{nil, aggs(agg(0, col(0)), agg(api.AgSum, col(1))), api.ErrKind},
		{nil, aggs(agg(api.AgRows, tooLong), agg(api.AgMin, col(7)), agg(0, col(0))), api.ErrName},
		{these(col(0)), aggs(agg(api.AgSum, col(0)), agg(api.AgSum, lit(yes))), api.ErrType},
	} {
		for _, z := range []rows{nil, bad} {
			got, err := Group(cols, c.keys, c.aggs, z)
			checkError(t, "Group", got, err, c.want)
		}
	}
	got, err := Group(cols, these(col(0)), aggs(agg(api.AgRows, col(0))), bad)
	checkError(t, "Group of what is no set", got, err, api.ErrKind)
	got, err = Group(cols, nil, aggs(agg(api.AgRows, tooLong)), nil)
	check(t, "what AgRows has not", got, err, rows{row(1, num(0))})
	got, err = Group([]int{7}, nil, aggs(agg(api.AgCount, lit(yes))), nil)
	checkError(t, "Group of a column that is none", got, err, api.ErrKind)
}

func TestD4Group(t *testing.T) {
	cols := []int{integer, texts, boolean, none}
	z := rows{
		row(2, null, text("b"), no, null),
		row(3, num(-5), text("a"), null, null),
		row(-9, num(-5), text("c"), yes, null),
		row(1, num(1), null, yes, null),
		row(4, num(1), api.Val{Kind: api.VText, N: 4, Text: "a"}, no, null),
		row(-1, num(8), text("z"), yes, null),
	}
	all := aggs(agg(api.AgRows, api.Expr{}), agg(api.AgCount, col(0)), agg(api.AgSum, col(0)), agg(api.AgMin, col(0)), agg(api.AgMax, col(0)))
	got, err := Group(cols, nil, all, z)
	check(t, "numbers in all", got, err, rows{row(1, num(10), num(8), num(-10), num(-5), num(1))})
	got, err = Group(cols, these(col(1)), all, z)
	check(t, "numbers by text", got, err, rows{row(1, null, num(1), num(1), num(1), num(1), num(1)), row(1, text("a"), num(7), num(7), num(-11), num(-5), num(1)), row(1, text("b"), num(2), num(0), null, null, null)})
	got, err = Group(cols, these(node(api.XIsNull, col(0)), lit(null)), all, z)
	check(t, "numbers by two", got, err, rows{row(1, no, null, num(8), num(8), num(-10), num(-5), num(1)), row(1, yes, null, num(2), num(0), null, null, null)})
	got, err = Group(cols, nil, aggs(agg(api.AgCount, col(1)), agg(api.AgMin, col(1)), agg(api.AgMax, col(1)), agg(api.AgCount, col(2)), agg(api.AgMin, col(2)), agg(api.AgMax, col(2))), z)
	check(t, "texts and truths", got, err, rows{row(1, num(9), text("a"), text("b"), num(7), no, yes)})
	got, err = Group(cols, nil, aggs(agg(api.AgCount, col(3)), agg(api.AgSum, col(3)), agg(api.AgMin, col(3)), agg(api.AgMax, lit(null))), z)
	check(t, "what is never known", got, err, rows{row(1, num(0), null, null, null)})
	got, err = Group(cols, these(col(2), col(0)), nil, z)
	check(t, "keys alone", got, err, rows{row(1, null, num(-5)), row(1, no, null), row(1, no, num(1)), row(1, yes, num(1))})
	got, err = Group(cols, nil, aggs(agg(api.AgSum, lit(num(1))), agg(api.AgSum, node(api.XMul, col(0), col(0)))), z)
	check(t, "what is reckoned", got, err, rows{row(1, num(10), num(80))})
	got, err = Group([]int{integer}, these(col(0)), aggs(agg(api.AgRows, col(0))), upTo(api.MaxRows, most))
	if must(t, got, err); len(got) != api.MaxRows || got[7].W != 1 || got[7].Row[1] != num(most) {
		t.Errorf("%d parts come of %d, one of them %#v", len(got), api.MaxRows, got[7])
	}
}

func TestD4OfNothing(t *testing.T) {
	cols := []int{integer}
	all := aggs(agg(api.AgRows, api.Expr{}), agg(api.AgCount, col(0)), agg(api.AgSum, col(0)), agg(api.AgMin, col(0)), agg(api.AgMax, col(0)))
	for _, z := range []rows{nil, {}, {row(-3, num(1))}} {
		for _, keys := range [][]api.Expr{nil, {}} {
			got, err := Group(cols, keys, all, z)
			check(t, "all of nothing", got, err, rows{row(1, num(0), num(0), null, null, null)})
			got, err = Group(cols, keys, nil, z)
			check(t, "nothing of nothing", got, err, rows{row(1)})
		}
		got, err := Group(cols, these(lit(num(1))), all, z)
		check(t, "parts of nothing", got, err, nil)
	}
	got, err := Group(cols, nil, nil, rows{row(5, num(1)), row(2, num(2))})
	check(t, "one part", got, err, rows{row(1)})
}

// A sum is as great as it is, however great its parts are.
func TestD4Sums(t *testing.T) {
	const top = api.MaxInt
	for _, c := range []struct {
		z    rows
		want api.Val
	}{
		{rows{row(1, num(top))}, num(top)},
		{rows{row(1, num(-top))}, num(-top)},
		{rows{row(2, num(top))}, null},
		{rows{row(1, num(1)), row(1, num(top))}, null},
		{rows{row(1, num(-top)), row(1, num(-1))}, null},
		{rows{row(1, num(1)), row(1, num(top-1))}, num(top)},
		{rows{row(most, num(-top)), row(most, num(top))}, num(0)},
		{rows{row(most, num(-top)), row(most, num(top-1))}, num(-most)},
		{rows{row(most, num(1-top)), row(most, num(top))}, num(most)},
		{rows{row(most, num(-top)), row(most-1, num(top))}, num(-top)},
		{rows{row(most, num(-top)), row(most-1, num(1)), row(most-1, num(top))}, num(-top + most - 1)},
		{rows{row(most, num(-top)), row(1, num(-1)), row(most-1, num(top))}, null},
		{rows{row(most, num(-1)), row(1, num(top))}, num(top - most)},
		{rows{row(most, num(top/most))}, num(top)},
		{rows{row(most, num(-top/most))}, num(-top)},
		{rows{row(1, num(1)), row(most, num(top/most))}, null},
		{rows{row(most, num(top))}, null},
		{rows{row(most, num(-top))}, null},
		{rows{row(184467, num(100000000000000)), row(1, num(44073709551616))}, null}, // 2 to the power of 64
		{rows{row(9223, num(top)), row(1, num(372036854775808))}, null},
	} {
		slices.SortFunc(c.z, func(a, b api.ZRow) int { return vals.Rows(a.Row, b.Row) })
		got, err := Group([]int{integer}, nil, aggs(agg(api.AgSum, col(0))), c.z)
		check(t, "the sum of "+told(c.z), got, err, rows{row(1, c.want)})
	}
	got, err := Group([]int{integer}, nil, aggs(agg(api.AgSum, lit(num(top))), agg(api.AgRows, col(0)), agg(api.AgSum, lit(num(-top)))), upTo(api.MaxRows, most))
	check(t, "the greatest sums", got, err, rows{row(1, null, num(api.MaxRows*most), null)})
}

// plainAgg reckons with numbers of any size.
func plainAgg(t *testing.T, cols []int, g api.Agg, z rows) api.Val {
	t.Helper()
	count, sum := big.NewInt(0), big.NewInt(0)
	best := null
	for _, r := range z {
		v := yes
		if g.Kind != api.AgRows {
			v = plain(t, cols, g.X, r.Row)
		}
		if v.Kind == api.VNull {
			continue
		}
		count.Add(count, big.NewInt(r.W))
		sum.Add(sum, new(big.Int).Mul(big.NewInt(r.W), big.NewInt(v.N)))
		if best == null || g.Kind == api.AgMin && vals.Compare(v, best) < 0 || g.Kind == api.AgMax && vals.Compare(v, best) > 0 {
			best = v
		}
	}
	switch {
	case g.Kind == api.AgRows || g.Kind == api.AgCount:
		return num(count.Int64())
	case g.Kind != api.AgSum:
		return best
	case count.Sign() == 0 || sum.CmpAbs(big.NewInt(api.MaxInt)) > 0:
		return null
	}
	return num(sum.Int64())
}

// plainKeys are the keys of a row, one by one.
func plainKeys(t *testing.T, cols []int, keys []api.Expr, r api.ZRow) []api.Val {
	t.Helper()
	var out []api.Val
	for _, x := range keys {
		out = append(out, plain(t, cols, x, r.Row))
	}
	return out
}

func plainGroup(t *testing.T, cols []int, keys []api.Expr, aggs []api.Agg, z rows) rows {
	t.Helper()
	var all [][]api.Val
	parts := map[int]rows{}
	if len(keys) == 0 {
		all = append(all, nil)
	}
	for _, r := range z {
		if r.W <= 0 {
			continue
		}
		k := plainKeys(t, cols, keys, r)
		at := slices.IndexFunc(all, func(o []api.Val) bool { return vals.Rows(o, k) == 0 })
		if at < 0 {
			at = len(all)
			all = append(all, k)
		}
		parts[at] = append(parts[at], r)
	}
	var out rows
	for i, k := range all {
		r := row(1, k...)
		for _, g := range aggs {
			r.Row = append(r.Row, plainAgg(t, cols, g, parts[i]))
		}
		out = append(out, r)
	}
	slices.SortFunc(out, func(a, b api.ZRow) int { return vals.Rows(a.Row, b.Row) })
	return out
}

func TestD4PlainlyTheSame(t *testing.T) {
	m := maker{state: 8}
	cols := []int{texts, integer, boolean, integer}
	keys := these(col(0), col(2), node(api.XLt, col(1), lit(num(2))), node(api.XAdd, col(1), col(3)))
	some := aggs(agg(api.AgRows, api.Expr{}), agg(api.AgCount, col(0)), agg(api.AgSum, col(1)), agg(api.AgSum, node(api.XSub, col(3), lit(num(1)))), agg(api.AgMin, col(3)), agg(api.AgMax, col(2)), agg(api.AgMax, col(0)), agg(api.AgMin, lit(null)))
	for range 400 {
		z := m.set(cols, 40)
		var k []api.Expr
		var g []api.Agg
		for range m.upTo(3) {
			k = append(k, keys[m.upTo(len(keys))])
		}
		for range m.upTo(6) {
			g = append(g, some[m.upTo(len(some))])
		}
		got, err := Group(cols, k, g, z)
		check(t, "Group", must(t, got, err), err, plainGroup(t, cols, k, g, z))
	}
}

func TestD5Wrong(t *testing.T) {
	cols := []int{integer}
	bad := rows{row(0, api.Val{})}
	for _, k := range []int{-1, api.MaxTop + 1, math.MinInt, math.MaxInt} {
		got, err := Top(cols, these(col(1)), k, bad)
		checkError(t, "Top by what isn't there", got, err, api.ErrName)
		got, err = Top(cols, make([]api.Expr, api.MaxCols+1), k, bad)
		checkError(t, "Top by too many", got, err, api.ErrMany)
		got, err = Top(cols, these(col(0)), k, bad)
		checkError(t, "Top of so many", got, err, api.ErrRange)
		got, err = Top(cols, nil, k, nil)
		checkError(t, "Top of so many of nothing", got, err, api.ErrRange)
	}
	got, err := Top(cols, these(col(0)), 0, bad)
	checkError(t, "Top of what is no set", got, err, api.ErrKind)
}

func TestD5Top(t *testing.T) {
	cols := []int{integer, texts}
	z := rows{
		row(2, null, text("b")),
		row(-4, num(1), text("a")),
		row(1, num(2), null),
		row(3, num(2), api.Val{Kind: api.VText, N: 7, Text: "c"}),
		row(2, num(3), text("c")),
		row(1, num(4), text("a")),
	}
	bare := slices.Clone(z)
	bare[3] = row(3, num(2), text("c"))
	there := rows{bare[0], bare[2], bare[3], bare[4], bare[5]}
	with := func(w int64, r api.ZRow) api.ZRow { return row(w, r.Row...) }
	byText, down := these(col(1)), these(node(api.XSub, lit(num(0)), col(0)))
	for _, c := range []struct {
		keys []api.Expr
		k    int
		want rows
	}{
		{nil, 0, nil},
		{nil, 1, rows{with(1, bare[0])}},
		{nil, 2, there[:1]},
		{nil, 3, there[:2]},
		{nil, 5, rows{bare[0], bare[2], with(2, bare[3])}},
		{nil, 9, there},
		{nil, api.MaxTop, there},
		{these(lit(yes)), 5, rows{bare[0], bare[2], with(2, bare[3])}},
		{byText, 0, nil},
		{byText, 1, rows{bare[2]}},
		{byText, 2, rows{bare[2], bare[5]}},
		{byText, 3, rows{with(1, bare[0]), bare[2], bare[5]}},
		{byText, 6, rows{bare[0], bare[2], with(2, bare[3]), bare[5]}},
		{byText, 8, rows{bare[0], bare[2], bare[3], with(1, bare[4]), bare[5]}},
		{down, 3, rows{bare[0], bare[5]}},
		{down, 4, rows{bare[0], with(1, bare[4]), bare[5]}},
		{these(col(1), down[0]), 5, rows{bare[0], bare[2], with(1, bare[4]), bare[5]}},
		{these(col(1), down[0]), 7, rows{bare[0], bare[2], with(1, bare[3]), bare[4], bare[5]}},
	} {
		got, err := Top(cols, c.keys, c.k, z)
		check(t, "Top", got, err, c.want)
	}
	got, err := Top([]int{integer}, nil, api.MaxTop, rows{row(most, num(1)), row(1, num(2))})
	check(t, "Top of one that is there often", got, err, rows{row(api.MaxTop, num(1))})
	got, err = Top([]int{integer}, nil, 5, rows{row(-1, num(1))})
	check(t, "Top of what goes", got, err, nil)
	got, err = Top([]int{integer}, these(node(api.XMul, col(0), lit(num(-1)))), api.MaxTop, upTo(api.MaxRows, 1))
	check(t, "the last ones of a full set", got, err, upTo(api.MaxRows, 1)[api.MaxRows-api.MaxTop:])
}

// plainTop lays each row as often as it is there, and takes the first ones.
func plainTop(t *testing.T, cols []int, keys []api.Expr, k int, z rows) rows {
	t.Helper()
	var each rows
	for _, r := range z {
		for range min(r.W, api.MaxTop) {
			each = append(each, row(1, r.Row...))
		}
	}
	slices.SortStableFunc(each, func(a, b api.ZRow) int {
		if c := vals.Rows(plainKeys(t, cols, keys, a), plainKeys(t, cols, keys, b)); c != 0 {
			return c
		}
		return vals.Rows(a.Row, b.Row)
	})
	first := each[:min(k, len(each))]
	slices.SortFunc(first, func(a, b api.ZRow) int { return vals.Rows(a.Row, b.Row) })
	var out rows
	for _, r := range first {
		if last := len(out) - 1; last >= 0 && vals.Rows(out[last].Row, r.Row) == 0 {
			out[last].W++
		} else {
			out = append(out, r)
		}
	}
	return out
}

func TestD5PlainlyTheSame(t *testing.T) {
	m := maker{state: 21}
	cols := []int{texts, integer, boolean}
	keys := these(col(0), col(2), col(1), node(api.XSub, lit(num(0)), col(1)), node(api.XNot, col(2)))
	for range 150 {
		z := m.set(cols, 20)
		var l []api.Expr
		for range m.upTo(3) {
			l = append(l, keys[m.upTo(len(keys))])
		}
		k := m.upTo(api.MaxTop + 1)
		if m.upTo(2) == 0 {
			k = m.upTo(8)
		}
		got, err := Top(cols, l, k, z)
		check(t, "Top", must(t, got, err), err, plainTop(t, cols, l, k, z))
	}
}
