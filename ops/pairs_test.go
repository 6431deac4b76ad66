package ops

import (
	"slices"
	"testing"

	"tidemark/api"
	"tidemark/vals"
	"tidemark/zsets"
)

func TestD3Wrong(t *testing.T) {
	bad, unfit := rows{row(0, api.Val{})}, rows{row(1)}
	left, right := []int{integer, texts}, []int{integer}
	good := rows{row(1, num(1), text("a"))}
	for name, f := range ofPairsAll() {
		got, err := f(ints(5), ints(4), api.Expr{}, bad, bad)
		checkError(t, name+" of too many columns together", got, err, api.ErrMany)
		got, err = f(ints(api.MaxCols+1), nil, lit(yes), nil, nil)
		checkError(t, name+" of too many columns on the left", got, err, api.ErrMany)
		got, err = f(nil, ints(api.MaxCols+1), lit(yes), nil, nil)
		checkError(t, name+" of too many columns on the right", got, err, api.ErrMany)
		got, err = f(ints(2), make([]int, 7), lit(yes), nil, nil)
		checkError(t, name+" of too many columns that are none", got, err, api.ErrMany)
		got, err = f(ints(2), []int{0}, lit(yes), bad, bad)
		checkError(t, name+" of a column that is none", got, err, api.ErrKind)
		got, err = f(left, right, col(3), bad, bad)
		checkError(t, name+" by what isn't there", got, err, api.ErrName)
		got, err = f(left, right, same(0, 1), bad, bad)
		checkError(t, name+" by what doesn't go together", got, err, api.ErrType)
		got, err = f(left, right, col(2), bad, bad)
		checkError(t, name+" by a number", got, err, api.ErrType)
		got, err = f(left, right, same(0, 2), bad, unfit)
		checkError(t, name+" of two that are wrong", got, err, api.ErrKind)
		got, err = f(left, right, same(0, 2), unfit, bad)
		checkError(t, name+" of two that are wrong", got, err, api.ErrFit)
		got, err = f(left, right, same(0, 2), good, bad)
		checkError(t, name+" with what is wrong", got, err, api.ErrKind)
		got, err = f(left, right, same(0, 2), nil, unfit)
		checkError(t, name+" with what doesn't fit", got, err, api.ErrFit)
		got, err = f(left, right, lit(no), good, good)
		checkError(t, name+" with what has the other side's columns", got, err, api.ErrFit)
		got, err = f(left, right, lit(no), good, rows{row(1, text("a"))})
		checkError(t, name+" with what is of another type", got, err, api.ErrType)
		if _, err = f(ints(4), ints(4), same(0, 7), rows{wide(1, 4)}, rows{wide(1, 4)}); err != api.OK {
			t.Errorf("%s of as many columns as may be: error %d", name, err)
		}
	}
}

func TestD3Pairs(t *testing.T) {
	left, right := []int{integer, texts}, []int{integer}
	a := rows{row(5, null, text("n")), row(2, num(1), api.Val{Kind: api.VText, N: 3, Text: "a"}), row(-3, num(2), text("b")), row(4, num(3), text("c")), row(7, num(4), null)}
	b := rows{row(9, null), row(10, api.Val{Kind: api.VInt, N: 1, Text: "junk"}), row(2, num(2)), row(-1, num(3))}
	bare := slices.Clone(a)
	bare[1] = row(2, num(1), text("a"))
	joins := rows{row(20, num(1), text("a"), num(1)), row(-6, num(2), text("b"), num(2)), row(-4, num(3), text("c"), num(3))}
	got, err := Join(left, right, same(0, 2), a, b)
	check(t, "Join", got, err, joins)
	got, err = Semi(left, right, same(0, 2), a, b)
	check(t, "Semi", got, err, bare[1:3])
	got, err = Anti(left, right, same(0, 2), a, b)
	check(t, "Anti", got, err, rows{bare[0], bare[3], bare[4]})
	got, err = Left(left, right, same(0, 2), a, b)
	check(t, "Left", got, err, rows{row(5, null, text("n"), null), joins[0], joins[1], row(4, num(3), text("c"), null), joins[2], row(7, num(4), null, null)})
	// A row holds with as many as it holds with, and is there once all the same.
	less := node(api.XGt, col(0), col(2))
	got, err = Join(left, right, less, a, b)
	check(t, "Join by less", got, err, rows{row(-30, num(2), text("b"), num(1)), row(40, num(3), text("c"), num(1)), row(8, num(3), text("c"), num(2)), row(70, num(4), null, num(1)), row(14, num(4), null, num(2)), row(-7, num(4), null, num(3))})
	got, err = Semi(left, right, less, a, b)
	check(t, "Semi by less", got, err, bare[2:])
	got, err = Anti(left, right, less, a, b)
	check(t, "Anti by less", got, err, bare[:2])
}

// Where nothing is there on the right, all of the left is left.
func TestD3Nothing(t *testing.T) {
	left, right := []int{integer}, []int{integer, texts}
	a := rows{row(1, null), row(-2, num(1))}
	gone := rows{row(-1, num(1), text("a"))}
	widened := rows{row(1, null, null, null), row(-2, num(1), null, null)}
	for _, b := range []rows{nil, {}} {
		got, err := Join(left, right, lit(yes), a, b)
		check(t, "Join with nothing", got, err, nil)
		got, err = Semi(left, right, lit(yes), a, b)
		check(t, "Semi with nothing", got, err, nil)
		got, err = Anti(left, right, lit(yes), a, b)
		check(t, "Anti with nothing", got, err, a)
		got, err = Left(left, right, lit(yes), a, b)
		check(t, "Left with nothing", got, err, widened)
		for name, f := range ofPairsAll() {
			got, err = f(left, right, lit(yes), b, gone)
			check(t, name+" of nothing", got, err, nil)
		}
	}
	got, err := Join(left, right, lit(yes), a, gone)
	check(t, "Join with what goes", got, err, rows{row(-1, null, num(1), text("a")), row(2, num(1), num(1), text("a"))})
	got, err = Semi(left, right, lit(yes), a, gone)
	check(t, "Semi with what goes", got, err, nil)
	got, err = Anti(left, right, lit(yes), a, gone)
	check(t, "Anti with what goes", got, err, a)
	got, err = Left(left, right, lit(yes), a, gone)
	check(t, "Left with what goes", got, err, rows{row(1, null, null, null), row(-1, null, num(1), text("a")), row(-2, num(1), null, null), row(2, num(1), num(1), text("a"))})
	got, err = Left(left, right, lit(null), a, rows{row(1, num(1), null)})
	check(t, "Left by what is never known", got, err, widened)
	got, err = Join(nil, nil, lit(yes), rows{row(3)}, rows{row(-4)})
	check(t, "Join without columns", got, err, rows{row(-12)})
}

func TestD3Sums(t *testing.T) {
	one := []int{integer}
	got, err := Join(one, one, lit(yes), rows{row(1000, num(1))}, rows{row(-1000, num(2))})
	check(t, "Join up to the limit", got, err, rows{row(lowest, num(1), num(2))})
	got, err = Join(one, one, lit(yes), rows{row(1001, num(1))}, rows{row(1000, num(2))})
	checkError(t, "Join too heavy", got, err, api.ErrRange)
	got, err = Join(one, one, lit(yes), rows{row(most, num(1))}, rows{row(lowest, num(2))})
	checkError(t, "Join far too light", got, err, api.ErrRange)
	got, err = Join(one, one, lit(no), rows{row(most, num(1))}, rows{row(lowest, num(2))})
	check(t, "Join of what doesn't hold", got, err, nil)
	got, err = Semi(one, one, lit(yes), rows{row(most, num(1))}, rows{row(most, num(2))})
	check(t, "Semi has no products", got, err, rows{row(most, num(1))})
	got, err = Join(one, one, lit(yes), upTo(20, 1), upTo(20, 1))
	if must(t, got, err); len(got) != api.MaxRows {
		t.Errorf("%d rows come of 20 times 20", len(got))
	}
	for _, f := range []ofTwo{Join, Left} {
		got, err = f(one, one, lit(yes), upTo(api.MaxRows, 1), upTo(2, 1))
		checkError(t, "too many rows", got, err, api.ErrMany)
		got, err = f(one, one, lit(yes), upTo(api.MaxRows, 1), upTo(api.MaxRows, -1))
		checkError(t, "as many rows as can come", got, err, api.ErrMany)
		heavy := upTo(api.MaxRows, 1)
		heavy[api.MaxRows-1].W = most
		got, err = f(one, one, lit(yes), heavy, upTo(2, 2))
		checkError(t, "too many rows, and too heavy", got, err, api.ErrRange)
	}
	got, err = Left(one, one, lit(no), upTo(api.MaxRows, 1), upTo(api.MaxRows, 1))
	if must(t, got, err); len(got) != api.MaxRows {
		t.Errorf("%d rows come of %d on the left", len(got), api.MaxRows)
	}
	got, err = Left(one, one, lit(yes), upTo(300, 1), upTo(1, -1))
	checkError(t, "too many rows by what goes", got, err, api.ErrMany)
}

// A pair with what goes may be the same as a row without a partner: they are one, and their sum is asked, not they themselves.
func TestD3LeftSums(t *testing.T) {
	one := []int{integer}
	for _, c := range []struct {
		a, b int64
		want rows
		err  api.Errno
	}{
		{3, -3, rows{row(-6, num(1), null)}, api.OK},
		{3, -1, nil, api.OK},
		{most, -1, nil, api.OK},
		{most, -2, rows{row(lowest, num(1), null)}, api.OK},
		{lowest, -2, rows{row(most, num(1), null)}, api.OK},
		{most, -3, nil, api.ErrRange},
		{most, lowest, nil, api.ErrRange},
		{3, 2, rows{row(6, num(1), null)}, api.OK},
	} {
		a := rows{row(c.a, num(1))}
		got, err := Left(one, []int{none}, lit(yes), a, rows{row(c.b, null)})
		narrow, errNarrow := Left(one, nil, lit(yes), a, rows{row(c.b)})
		if c.err != api.OK {
			checkError(t, "Left", got, err, c.err)
			checkError(t, "Left without columns on the right", narrow, errNarrow, c.err)
			continue
		}
		check(t, "Left", got, err, c.want)
		var want rows
		for _, r := range c.want {
			want = append(want, row(r.W, r.Row[0]))
		}
		check(t, "Left without columns on the right", narrow, errNarrow, want)
	}
}

// plainPairs tells what Join, Semi and Anti name, pair by pair.
func plainPairs(t *testing.T, left, right []int, x api.Expr, a, b rows) (joins, semis, antis rows) {
	t.Helper()
	cols := slices.Concat(left, right)
	for _, l := range a {
		matched := false
		for _, r := range b {
			both := slices.Concat(l.Row, r.Row)
			if vals.True(plain(t, cols, x, both)) {
				joins = append(joins, row(l.W*r.W, both...))
				matched = matched || r.W > 0
			}
		}
		if matched {
			semis = append(semis, l)
		} else {
			antis = append(antis, l)
		}
	}
	return joins, semis, antis
}

func TestD3PlainlyTheSame(t *testing.T) {
	m := maker{state: 3}
	left, right := []int{integer, texts}, []int{texts, boolean, integer}
	conditions := these(same(0, 4), same(1, 2), col(3), node(api.XAnd, col(3), node(api.XLt, col(0), col(4))), node(api.XIsNull, col(2)), lit(yes), node(api.XNe, node(api.XCat, col(1), col(2)), lit(text("aa"))))
	heavy := 0
	for range 300 {
		a, b := m.set(left, 12), m.set(right, 12)
		x := conditions[m.upTo(len(conditions))]
		joins, semis, antis := plainPairs(t, left, right, x, a, b)
		got, err := Semi(left, right, x, a, b)
		check(t, "Semi", must(t, got, err), err, semis)
		got, err = Anti(left, right, x, a, b)
		check(t, "Anti", must(t, got, err), err, antis)
		lefts := slices.Clone(joins)
		for _, r := range antis {
			lefts = append(lefts, row(r.W, slices.Concat(r.Row, []api.Val{null, null, null})...))
		}
		for _, c := range []struct {
			f     ofTwo
			named rows
		}{{Join, joins}, {Left, lefts}} {
			want, wantErr := zsets.Gather(c.named)
			got, err := c.f(left, right, x, a, b)
			if wantErr != api.OK {
				heavy++
				checkError(t, "what is too heavy", got, err, wantErr)
			} else {
				check(t, "Join or Left", must(t, got, err), err, want)
			}
		}
	}
	if heavy == 0 || heavy > 400 {
		t.Errorf("%d of 600 are too heavy", heavy)
	}
}
