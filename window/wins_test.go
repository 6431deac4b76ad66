package window

import (
	"slices"
	"testing"

	"tidemark/api"
)

// Of two alike the second one has number 2 and rank 1.
func TestO2TwoAlike(t *testing.T) {
	got, err := Window([]int{integer}, nil, these(col(0)), places(), rows{row(2, num(7))})
	check(t, "two alike", got, err, rows{row(1, num(7), num(1), num(1), num(1)), row(1, num(7), num(2), num(1), num(1))})
}

func TestO2Places(t *testing.T) {
	cols := []int{integer, integer}
	z := of(
		row(2, num(1), num(5)),
		row(1, num(2), num(5)),
		row(1, num(3), null),
		row(3, num(4), num(9)),
		row(1, num(5), num(7)),
		row(-4, num(6), num(6)),
	)
	got, err := Window(cols, nil, these(col(1)), places(), z)
	check(t, "by column 1", got, err, of(
		row(1, num(3), null, num(1), num(1), num(1)),
		row(1, num(1), num(5), num(2), num(2), num(2)),
		row(1, num(1), num(5), num(3), num(2), num(2)),
		row(1, num(2), num(5), num(4), num(2), num(2)),
		row(1, num(5), num(7), num(5), num(5), num(3)),
		row(1, num(4), num(9), num(6), num(6), num(4)),
		row(1, num(4), num(9), num(7), num(6), num(4)),
		row(1, num(4), num(9), num(8), num(6), num(4)),
	))
	got, err = Window(cols, nil, these(down(col(1))), places(), z)
	check(t, "by column 1, the other way round", got, err, of(
		row(1, num(3), null, num(1), num(1), num(1)),
		row(1, num(4), num(9), num(2), num(2), num(2)),
		row(1, num(4), num(9), num(3), num(2), num(2)),
		row(1, num(4), num(9), num(4), num(2), num(2)),
		row(1, num(5), num(7), num(5), num(5), num(3)),
		row(1, num(1), num(5), num(6), num(6), num(4)),
		row(1, num(1), num(5), num(7), num(6), num(4)),
		row(1, num(2), num(5), num(8), num(6), num(4)),
	))
	even := these(node(api.XLt, col(0), lit(num(4))))
	got, err = Window(cols, even, these(col(1)), places(), z)
	check(t, "in two parts", got, err, of(
		row(1, num(3), null, num(1), num(1), num(1)),
		row(1, num(1), num(5), num(2), num(2), num(2)),
		row(1, num(1), num(5), num(3), num(2), num(2)),
		row(1, num(2), num(5), num(4), num(2), num(2)),
		row(1, num(5), num(7), num(1), num(1), num(1)),
		row(1, num(4), num(9), num(2), num(2), num(2)),
		row(1, num(4), num(9), num(3), num(2), num(2)),
		row(1, num(4), num(9), num(4), num(2), num(2)),
	))
}

// Without an order nobody is less, however the rows differ; by two, both count.
func TestO2PlacesByNoneAndByTwo(t *testing.T) {
	cols := []int{integer, texts}
	z := rows{row(1, num(1), text("a")), row(1, num(1), text("b")), row(2, num(2), text("a"))}
	got, err := Window(cols, nil, nil, places(), z)
	check(t, "by none", got, err, rows{
		row(1, num(1), text("a"), num(1), num(1), num(1)),
		row(1, num(1), text("b"), num(2), num(1), num(1)),
		row(1, num(2), text("a"), num(3), num(1), num(1)),
		row(1, num(2), text("a"), num(4), num(1), num(1)),
	})
	got, err = Window(cols, nil, these(col(1), col(0)), places(), z)
	check(t, "by two", got, err, rows{
		row(1, num(1), text("a"), num(1), num(1), num(1)),
		row(1, num(1), text("b"), num(4), num(4), num(3)),
		row(1, num(2), text("a"), num(2), num(2), num(2)),
		row(1, num(2), text("a"), num(3), num(2), num(2)),
	})
	// The same thing in two parts is different in each of them.
	got, err = Window(cols, these(col(1)), these(lit(num(1))), places(), z)
	check(t, "in parts, by what is always the same", got, err, rows{
		row(1, num(1), text("a"), num(1), num(1), num(1)),
		row(1, num(1), text("b"), num(1), num(1), num(1)),
		row(1, num(2), text("a"), num(2), num(1), num(1)),
		row(1, num(2), text("a"), num(3), num(1), num(1)),
	})
}

func TestO2Sum(t *testing.T) {
	cols := []int{integer, integer, none}
	z := rows{
		row(1, num(1), null, null),
		row(2, num(2), num(5), null),
		row(1, num(3), null, null),
		row(1, num(4), num(-3), null),
		row(-1, num(5), num(100), null),
		row(1, num(6), num(0), null),
	}
	sum := wins(win(api.WinSum, col(1)))
	got, err := Window(cols, nil, these(col(0)), sum, z)
	check(t, "up to it", got, err, rows{
		row(1, num(1), null, null, null),
		row(1, num(2), num(5), null, num(5)),
		row(1, num(2), num(5), null, num(10)),
		row(1, num(3), null, null, num(10)),
		row(1, num(4), num(-3), null, num(7)),
		row(1, num(6), num(0), null, num(7)),
	})
	got, err = Window(cols, nil, these(down(col(0))), sum, z)
	check(t, "up to it, the other way round", got, err, rows{
		row(1, num(1), null, null, num(7)),
		row(1, num(2), num(5), null, num(2)),
		row(1, num(2), num(5), null, num(7)),
		row(1, num(3), null, null, num(-3)),
		row(1, num(4), num(-3), null, num(-3)),
		row(1, num(6), num(0), null, num(0)),
	})
	// Those of which order comes to the same, but which stand behind, don't count.
	got, err = Window(cols, nil, nil, sum, z[1:3])
	check(t, "of rows in no order", got, err, rows{row(1, num(2), num(5), null, num(5)), row(1, num(2), num(5), null, num(10)), row(1, num(3), null, null, num(10))})
	got, err = Window(cols, these(node(api.XLt, col(0), lit(num(4)))), nil, sum, z)
	check(t, "in parts", got, err, rows{
		row(1, num(1), null, null, null),
		row(1, num(2), num(5), null, num(5)),
		row(1, num(2), num(5), null, num(10)),
		row(1, num(3), null, null, num(10)),
		row(1, num(4), num(-3), null, num(-3)),
		row(1, num(6), num(0), null, num(-3)),
	})
	never := wins(win(api.WinSum, col(2)), win(api.WinSum, lit(null)), win(api.WinSum, lit(num(2))), win(api.WinSum, node(api.XCoal, lit(null), col(1))))
	got, err = Window(cols, nil, nil, never, z[:2])
	check(t, "what is never known, and what always is", got, err, rows{
		row(1, num(1), null, null, null, null, num(2), null),
		row(1, num(2), num(5), null, null, null, num(4), num(5)),
		row(1, num(2), num(5), null, null, null, num(6), num(10)),
	})
}

// A sum that is too large is not known; behind it, it may be known again.
func TestO2SumsTooLarge(t *testing.T) {
	cols := []int{integer, integer}
	for _, c := range []struct{ x, want []api.Val }{
		{[]api.Val{num(top), num(0), num(1), num(-1)}, []api.Val{num(top), num(top), null, num(top)}},
		{[]api.Val{num(-top), num(-1), null, num(1)}, []api.Val{num(-top), null, null, num(-top)}},
		{[]api.Val{num(top), num(top), num(-top), num(-top), num(-top), num(-top), num(top)}, []api.Val{num(top), null, num(top), num(0), num(-top), null, num(-top)}},
		{[]api.Val{num(top - 1), num(1), null, num(1)}, []api.Val{num(top - 1), num(top), num(top), null}},
		{[]api.Val{num(1 - top), num(-1), num(-1)}, []api.Val{num(1 - top), num(-top), null}},
	} {
		var z, want rows
		for i, v := range c.x {
			z = append(z, row(1, num(int64(i)), v))
			want = append(want, row(1, num(int64(i)), v, c.want[i]))
		}
		got, err := Window(cols, nil, nil, wins(win(api.WinSum, col(1))), z)
		check(t, "sums", got, err, want)
	}
	for _, n := range []int64{top, -top} {
		got, err := Window([]int{integer}, nil, nil, wins(win(api.WinRow, api.Expr{}), win(api.WinSum, col(0))), rows{row(api.MaxRows, num(n))})
		want := rows{row(1, num(n), num(1), num(n))}
		for i := range int64(api.MaxRows - 1) {
			want = append(want, row(1, num(n), num(i+2), null))
		}
		check(t, "the greatest number as often as may be", got, err, want)
	}
	// What X itself comes to beyond the bound is not known, and does not count.
	twice := wins(win(api.WinSum, node(api.XAdd, col(0), col(0))))
	got, err := Window([]int{integer}, nil, nil, twice, rows{row(1, num(1)), row(1, num(top))})
	check(t, "what is beyond the bound by itself", got, err, rows{row(1, num(1), num(2)), row(1, num(top), num(2))})
}

func TestO2Lag(t *testing.T) {
	cols := []int{integer, texts}
	z := rows{row(1, null, text("c")), row(2, num(1), text("b")), row(-1, num(2), text("z")), row(1, num(3), null), row(1, num(4), text("a"))}
	lag := wins(win(api.WinLag, col(1)))
	got, err := Window(cols, nil, nil, lag, z)
	check(t, "of texts", got, err, of(
		row(1, null, text("c"), null),
		row(1, num(1), text("b"), text("c")),
		row(1, num(1), text("b"), text("b")),
		row(1, num(3), null, text("b")),
		row(1, num(4), text("a"), null),
	))
	got, err = Window(cols, nil, these(col(1)), wins(win(api.WinLag, col(0)), win(api.WinLag, col(1))), z)
	check(t, "of both, by texts", got, err, of(
		row(1, num(3), null, null, null),
		row(1, num(4), text("a"), num(3), null),
		row(1, num(1), text("b"), num(4), text("a")),
		row(1, num(1), text("b"), num(1), text("b")),
		row(1, null, text("c"), num(1), text("b")),
	))
	got, err = Window(cols, these(node(api.XIsNull, col(1))), nil, lag, z)
	check(t, "in parts", got, err, of(
		row(1, null, text("c"), null),
		row(1, num(1), text("b"), text("c")),
		row(1, num(1), text("b"), text("b")),
		row(1, num(3), null, null),
		row(1, num(4), text("a"), text("b")),
	))
	known := wins(win(api.WinLag, node(api.XIsNull, col(0))), win(api.WinLag, lit(null)), win(api.WinLag, lit(num(1))))
	got, err = Window(cols, nil, nil, known, z[:2])
	check(t, "of what is reckoned", got, err, of(
		row(1, null, text("c"), null, null, null),
		row(1, num(1), text("b"), yes, null, num(1)),
		row(1, num(1), text("b"), no, null, num(1)),
	))
}

// All wins of one call are told side by side, in their order, also one that is there twice.
func TestO2SideBySide(t *testing.T) {
	cols := []int{integer}
	all := wins(win(api.WinLag, col(0)), win(api.WinSum, col(0)), win(api.WinRow, col(0)), win(api.WinSum, down(col(0))), win(api.WinDense, col(0)), win(api.WinRow, col(0)), win(api.WinRank, col(0)))
	got, err := Window(cols, nil, these(col(0)), all, rows{row(2, num(4)), row(1, num(6))})
	want := rows{
		row(1, num(4), null, num(4), num(1), num(-4), num(1), num(1), num(1)),
		row(1, num(4), num(4), num(8), num(2), num(-8), num(1), num(2), num(1)),
		row(1, num(6), num(4), num(14), num(3), num(-14), num(2), num(3), num(3)),
	}
	check(t, "all", got, err, want)
	for i := range all {
		turned := slices.Clone(all)
		turned[0], turned[i] = turned[i], turned[0]
		swapped := make(rows, len(want))
		for k, r := range want {
			swapped[k] = row(1, slices.Clone(r.Row)...)
			swapped[k].Row[1], swapped[k].Row[i+1] = r.Row[i+1], r.Row[1]
		}
		got, err := Window(cols, nil, these(col(0)), turned, rows{row(2, num(4)), row(1, num(6))})
		check(t, "two of them changed about", got, err, of(swapped...))
	}
}
