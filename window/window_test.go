package window

import (
	"fmt"
	"math"
	"slices"
	"strings"
	"testing"

	"tidemark/api"
	"tidemark/zsets"
)

type rows = []api.ZRow

const (
	none    = api.VNull
	boolean = api.VBool
	integer = api.VInt
	texts   = api.VText
	top     = api.MaxInt
)

var (
	null = api.Val{Kind: api.VNull}
	yes  = api.Val{Kind: api.VBool, N: 1}
	no   = api.Val{Kind: api.VBool}
)

func num(n int64) api.Val   { return api.Val{Kind: api.VInt, N: n} }
func text(s string) api.Val { return api.Val{Kind: api.VText, Text: s} }

func row(w int64, l ...api.Val) api.ZRow { return api.ZRow{Row: l, W: w} }

func col(n int) api.Expr                       { return api.Expr{Kind: api.XCol, Col: n} }
func lit(v api.Val) api.Expr                   { return api.Expr{Kind: api.XLit, Val: v} }
func node(kind int, kids ...api.Expr) api.Expr { return api.Expr{Kind: kind, Kids: kids} }
func these(l ...api.Expr) []api.Expr           { return l }
func down(x api.Expr) api.Expr                 { return node(api.XSub, lit(num(0)), x) }

func win(kind int, x api.Expr) api.Win { return api.Win{Kind: kind, X: x} }
func wins(l ...api.Win) []api.Win      { return l }

// places are the wins that ask nothing of a row; what stands in X means nothing then.
func places() []api.Win {
	return wins(win(api.WinRow, api.Expr{}), win(api.WinRank, col(99)), win(api.WinDense, api.Expr{Kind: -1}))
}

// shown is z as a text, in which nil and a list without entries are the same.
func shown(z rows) string {
	var out strings.Builder
	for _, r := range z {
		for _, v := range r.Row {
			fmt.Fprintf(&out, "{%d %d %q} ", v.Kind, v.N, v.Text)
		}
		fmt.Fprintf(&out, "times %d; ", r.W)
	}
	return out.String()
}

func check(t *testing.T, what string, got rows, err api.Errno, want rows) {
	t.Helper()
	if err != api.OK {
		t.Errorf("%s: error %d comes, not %s", what, err, shown(want))
	} else if shown(got) != shown(want) {
		t.Errorf("%s: %s comes, not %s", what, shown(got), shown(want))
	}
}

func checkError(t *testing.T, what string, got rows, err, want api.Errno) {
	t.Helper()
	if err != want || got != nil {
		t.Errorf("%s: error %d and %s come, not error %d alone", what, err, shown(got), want)
	}
}

// of is the set of rows in any order.
func of(l ...api.ZRow) rows {
	z, err := zsets.Of(l)
	if err != api.OK {
		panic(err)
	}
	return z
}

// upTo has one row for each number from 0 on, n of them.
func upTo(n int, w int64) rows {
	z := make(rows, n)
	for i := range z {
		z[i] = row(w, num(int64(i)))
	}
	return z
}

func ints(n int) []int { return slices.Repeat([]int{integer}, n) }

func TestO1TooManyColumns(t *testing.T) {
	bad := rows{row(0, api.Val{})}
	wrong := make([]api.Expr, api.MaxCols+1)
	for _, n := range []int{0, 1, 5, api.MaxCols} {
		got, err := Window(ints(n), wrong, wrong, make([]api.Win, api.MaxCols+1-n), bad)
		checkError(t, "one more than may be", got, err, api.ErrMany)
		got, err = Window(ints(n), these(api.Expr{}), nil, make([]api.Win, api.MaxCols+1-n), bad)
		checkError(t, "one more than may be, ahead of part", got, err, api.ErrMany)
		wide := row(1, slices.Repeat([]api.Val{null}, n)...)
		got, err = Window(ints(n), nil, nil, slices.Repeat(places()[:1], api.MaxCols-n), rows{wide})
		if err != api.OK || len(got) != 1 || len(got[0].Row) != api.MaxCols {
			t.Errorf("as many as may be: error %d and %s", err, shown(got))
		}
	}
	got, err := Window(ints(api.MaxCols+1), nil, nil, nil, nil)
	checkError(t, "too many columns alone", got, err, api.ErrMany)
	got, err = Window(nil, nil, nil, make([]api.Win, api.MaxCols+1), nil)
	checkError(t, "too many wins alone", got, err, api.ErrMany)
	got, err = Window(ints(2*api.MaxCols+1), these(api.Expr{}), nil, nil, nil)
	checkError(t, "far too many columns", got, err, api.ErrMany)
}

// What is wrong with part is told ahead of order, that ahead of wins, that ahead of the set.
func TestO1Lists(t *testing.T) {
	cols := []int{integer, texts}
	bad := rows{row(0, api.Val{})}
	tooLong := lit(text(strings.Repeat("x", api.MaxText+1)))
	for _, c := range []struct {
		xs   []api.Expr
		want api.Errno
	}{
		{slices.Repeat(these(col(0)), api.MaxCols+1), api.ErrMany},
		{make([]api.Expr, api.MaxCols+1), api.ErrMany},
		{make([]api.Expr, api.MaxCols), api.ErrKind},
		{these(col(0), col(2), api.Expr{}), api.ErrName},
		{these(api.Expr{}, col(2)), api.ErrKind},
		{these(col(-1)), api.ErrName},
		{these(col(0), node(api.XNot, col(0))), api.ErrType},
		{these(node(api.XNot), node(api.XNot, col(0))), api.ErrMany},
		{these(lit(num(-top - 1))), api.ErrRange},
		{these(col(1), tooLong), api.ErrMuch},
		{these(api.Expr{Kind: api.XRows}), api.ErrKind},
	} {
		for _, z := range []rows{nil, bad} {
			for _, l := range [][]api.Win{nil, wins(api.Win{}), wins(win(api.WinSum, col(1)))} {
				got, err := Window(cols, c.xs, nil, l, z)
				checkError(t, "part", got, err, c.want)
				got, err = Window(cols, these(col(1)), c.xs, l, z)
				checkError(t, "order", got, err, c.want)
				got, err = Window(cols, c.xs, these(lit(api.Val{Kind: 9, N: 9}), col(7)), l, z)
				checkError(t, "part ahead of order", got, err, c.want)
			}
		}
	}
	most := slices.Repeat(these(col(0)), api.MaxCols)
	got, err := Window(cols, most, most, places(), rows{row(1, num(1), null)})
	check(t, "as many as may be", got, err, rows{row(1, num(1), null, num(1), num(1), num(1))})
	got, err = Window([]int{integer, 0}, these(col(0)), nil, nil, bad)
	checkError(t, "part of a column that is none", got, err, api.ErrKind)
	got, err = Window([]int{5}, nil, these(lit(yes)), nil, bad)
	checkError(t, "order of a column that is none", got, err, api.ErrKind)
}

func TestO1Wins(t *testing.T) {
	cols := []int{integer, texts, boolean, none}
	bad := rows{row(0, api.Val{})}
	tooLong := lit(text(strings.Repeat("x", api.MaxText+1)))
	for _, c := range []struct {
		wins []api.Win
		want api.Errno
	}{
		{wins(win(0, col(0))), api.ErrKind},
		{wins(win(6, col(0))), api.ErrKind},
		{wins(win(-1, col(9))), api.ErrKind},
		{wins(win(math.MaxInt, col(9))), api.ErrKind},
		{wins(win(math.MinInt, col(0))), api.ErrKind},
		{wins(win(api.WinSum, col(4))), api.ErrName},
		{wins(win(api.WinLag, col(4))), api.ErrName},
		{wins(win(api.WinSum, col(-1))), api.ErrName},
		{wins(win(api.WinSum, api.Expr{})), api.ErrKind},
		{wins(win(api.WinLag, api.Expr{})), api.ErrKind},
		{wins(win(api.WinSum, node(api.XNot))), api.ErrMany},
		{wins(win(api.WinLag, tooLong)), api.ErrMuch},
		{wins(win(api.WinLag, lit(num(top+1)))), api.ErrRange},
		{wins(win(api.WinLag, node(api.XNot, col(0)))), api.ErrType},
		{wins(win(api.WinSum, node(api.XAdd, col(1), col(0)))), api.ErrType},
		{wins(win(api.WinSum, col(1))), api.ErrType},
		{wins(win(api.WinSum, col(2))), api.ErrType},
		{wins(win(api.WinSum, node(api.XIsNull, col(0)))), api.ErrType},
		{wins(win(api.WinSum, node(api.XCoal, col(3), col(1)))), api.ErrType},
		{wins(win(api.WinSum, col(1)), win(0, col(0))), api.ErrType},
		{wins(win(api.WinLag, col(1)), win(0, col(0))), api.ErrKind},
		{wins(win(0, col(0)), win(api.WinSum, col(1))), api.ErrKind},
		{wins(win(api.WinRow, tooLong), win(api.WinLag, col(7)), win(0, col(0))), api.ErrName},
		{wins(win(api.WinSum, col(0)), win(api.WinSum, lit(yes))), api.ErrType},
	} {
		for _, z := range []rows{nil, bad} {
			got, err := Window(cols, these(col(1)), these(col(0)), c.wins, z)
			checkError(t, "wins", got, err, c.want)
		}
	}
	fine := append(places(), win(api.WinLag, col(1)))
	got, err := Window(cols, nil, nil, fine, bad)
	checkError(t, "wins of what is no set", got, err, api.ErrKind)
	got, err = Window([]int{7}, nil, nil, wins(win(api.WinSum, lit(num(1)))), nil)
	checkError(t, "a win of a column that is none", got, err, api.ErrKind)
	got, err = Window([]int{7}, nil, nil, wins(win(api.WinLag, lit(yes))), nil)
	checkError(t, "a win of a column that is none", got, err, api.ErrKind)
	got, err = Window([]int{7}, nil, nil, places(), rows{row(1, null)})
	check(t, "what no expression says is wrong", got, err, rows{row(1, null, num(1), num(1), num(1))})
	got, err = Window([]int{7}, nil, nil, places(), rows{row(1, num(1))})
	checkError(t, "what doesn't fit a column that is none", got, err, api.ErrType)
}

func TestO1Set(t *testing.T) {
	cols := []int{integer, texts}
	for _, c := range []struct {
		z    rows
		want api.Errno
	}{
		{append(upTo(api.MaxRows+1, 1), row(0, api.Val{})), api.ErrMany},
		{rows{row(1, slices.Repeat([]api.Val{null}, api.MaxCols+1)...)}, api.ErrMany},
		{rows{row(1, num(1), api.Val{})}, api.ErrKind},
		{rows{row(1, num(1), text(strings.Repeat("x", api.MaxText+1)))}, api.ErrMuch},
		{rows{row(1, num(top+1), null)}, api.ErrRange},
		{rows{row(0, num(1), null)}, api.ErrRange},
		{rows{row(api.MaxWeight+1, num(1), null)}, api.ErrRange},
		{rows{row(-api.MaxWeight-1, num(1), null)}, api.ErrRange},
		{rows{row(1, num(1), null), row(1, num(1), null)}, api.ErrForm},
		{rows{row(1, num(2), null), row(1, num(1), null)}, api.ErrForm},
		{rows{row(1)}, api.ErrFit},
		{rows{row(1, num(1))}, api.ErrFit},
		{rows{row(1, num(1), null, null)}, api.ErrFit},
		{rows{row(-1, num(1))}, api.ErrFit},
		{rows{row(1, text("a"), num(1))}, api.ErrType},
		{rows{row(-1, num(1), yes)}, api.ErrType},
		// What is wrong with the set is told ahead of how many rows are there.
		{rows{row(api.MaxRows+1, num(1), null), row(1, num(1), null)}, api.ErrForm},
		{rows{row(api.MaxRows+1, num(1), null), row(1, num(2))}, api.ErrFit},
		{rows{row(api.MaxRows+1, num(1), null), row(1, yes, yes)}, api.ErrForm},
		{rows{row(api.MaxRows+1, num(1), null), row(1, num(2), yes)}, api.ErrType},
	} {
		for _, l := range [][]api.Win{nil, places(), wins(win(api.WinSum, col(0)), win(api.WinLag, col(1)))} {
			got, err := Window(cols, these(col(1)), these(col(0)), l, c.z)
			checkError(t, shown(c.z), got, err, c.want)
		}
	}
}

func TestO1TooManyRows(t *testing.T) {
	cols := []int{integer}
	one := []int64{1, 2, 3, api.MaxRows - 1, api.MaxRows}
	for _, w := range one {
		fits := rows{row(w, num(1))}
		if w < api.MaxRows {
			fits = append(fits, row(api.MaxRows-w, num(2)))
		}
		got, err := Window(cols, nil, nil, places()[:1], fits)
		if err != api.OK || len(got) != api.MaxRows {
			t.Errorf("%s: error %d and %d rows come", shown(fits), err, len(got))
		}
		over := append(slices.Clone(fits), row(1, num(3)))
		for _, part := range [][]api.Expr{nil, these(col(0))} {
			for _, l := range [][]api.Win{nil, places()} {
				got, err = Window(cols, part, nil, l, over)
				checkError(t, shown(over), got, err, api.ErrMany)
			}
		}
		gone := append(slices.Clone(fits), row(-api.MaxWeight, num(3)), row(-1, num(4)))
		got, err = Window(cols, nil, nil, places()[:1], gone)
		if err != api.OK || len(got) != api.MaxRows {
			t.Errorf("%s: error %d and %d rows come", shown(gone), err, len(got))
		}
	}
	// Rows that go take nothing away from how many are there.
	got, err := Window(cols, nil, nil, nil, rows{row(-5, num(0)), row(api.MaxRows+1, num(1))})
	checkError(t, "one more, and some that go", got, err, api.ErrMany)
	got, err = Window(cols, nil, nil, nil, rows{row(api.MaxRows, num(1))})
	check(t, "one row as often as may be", got, err, rows{row(api.MaxRows, num(1))})
	got, err = Window(cols, nil, nil, nil, upTo(api.MaxRows, api.MaxWeight))
	checkError(t, "the greatest set", got, err, api.ErrMany)
	got, err = Window(cols, nil, nil, nil, upTo(api.MaxRows, -api.MaxWeight))
	check(t, "the least set", got, err, nil)
}

func TestO1OfNothing(t *testing.T) {
	for _, z := range []rows{nil, {}, {row(-3, num(1))}} {
		for _, part := range [][]api.Expr{nil, these(col(0))} {
			got, err := Window([]int{integer}, part, nil, places(), z)
			check(t, "nothing", got, err, nil)
		}
	}
	got, err := Window(nil, nil, nil, places(), rows{row(2)})
	check(t, "a row without values twice", got, err, rows{row(1, num(1), num(1), num(1)), row(1, num(2), num(1), num(1))})
	got, err = Window(nil, nil, nil, nil, rows{row(2)})
	check(t, "a row without values, and nothing told", got, err, rows{row(2)})
}

// shop has who, what and how many; who and how many are not always known.
func shop() ([]int, rows) {
	return []int{texts, integer, integer}, of(
		row(1, null, num(1), num(4)),
		row(1, text("ann"), num(1), num(7)),
		row(2, text("ann"), num(2), num(5)),
		row(1, text("ann"), num(3), null),
		row(-1, text("ann"), num(9), num(1)),
		row(1, text("bob"), num(1), null),
		row(1, text("bob"), num(2), num(5)),
		row(1, text("bob"), num(3), num(5)),
		row(-7, text("eve"), num(1), num(1)),
	)
}

func TestO1Parts(t *testing.T) {
	cols, z := shop()
	number := places()[:1]
	got, err := Window(cols, these(col(0)), these(col(2)), number, z)
	check(t, "by who, in the order of how many", got, err, of(
		row(1, null, num(1), num(4), num(1)),
		row(1, text("ann"), num(3), null, num(1)),
		row(1, text("ann"), num(2), num(5), num(2)),
		row(1, text("ann"), num(2), num(5), num(3)),
		row(1, text("ann"), num(1), num(7), num(4)),
		row(1, text("bob"), num(1), null, num(1)),
		row(1, text("bob"), num(2), num(5), num(2)),
		row(1, text("bob"), num(3), num(5), num(3)),
	))
	got, err = Window(cols, these(node(api.XIsNull, col(2))), these(down(col(1)), col(0)), number, z)
	check(t, "by whether it is known, in two orders", got, err, of(
		row(1, text("bob"), num(3), num(5), num(1)),
		row(1, text("ann"), num(2), num(5), num(2)),
		row(1, text("ann"), num(2), num(5), num(3)),
		row(1, text("bob"), num(2), num(5), num(4)),
		row(1, null, num(1), num(4), num(5)),
		row(1, text("ann"), num(1), num(7), num(6)),
		row(1, text("ann"), num(3), null, num(1)),
		row(1, text("bob"), num(1), null, num(2)),
	))
	got, err = Window(cols, these(col(2), col(0)), nil, number, z)
	check(t, "by two", got, err, of(
		row(1, null, num(1), num(4), num(1)),
		row(1, text("ann"), num(1), num(7), num(1)),
		row(1, text("ann"), num(2), num(5), num(1)),
		row(1, text("ann"), num(2), num(5), num(2)),
		row(1, text("ann"), num(3), null, num(1)),
		row(1, text("bob"), num(1), null, num(1)),
		row(1, text("bob"), num(2), num(5), num(1)),
		row(1, text("bob"), num(3), num(5), num(2)),
	))
}

// Where order comes to the same, the rows themselves stand in order, whatever part they are of.
func TestO1OrderOfTheRows(t *testing.T) {
	cols, z := shop()
	for _, order := range [][]api.Expr{nil, {}, these(lit(num(1))), these(lit(null), col(0))} {
		got, err := Window(cols, nil, order, places()[:1], z)
		check(t, "in one part", got, err, rows{
			row(1, null, num(1), num(4), num(1)),
			row(1, text("ann"), num(1), num(7), num(2)),
			row(1, text("ann"), num(2), num(5), num(3)),
			row(1, text("ann"), num(2), num(5), num(4)),
			row(1, text("ann"), num(3), null, num(5)),
			row(1, text("bob"), num(1), null, num(6)),
			row(1, text("bob"), num(2), num(5), num(7)),
			row(1, text("bob"), num(3), num(5), num(8)),
		})
	}
	kinds := []int{boolean}
	truths := rows{row(1, null), row(2, no), row(1, yes)}
	got, err := Window(kinds, nil, these(node(api.XNot, col(0))), places(), truths)
	check(t, "what is not known is less", got, err, of(
		row(1, null, num(1), num(1), num(1)),
		row(1, yes, num(2), num(2), num(2)),
		row(1, no, num(3), num(3), num(3)),
		row(1, no, num(4), num(3), num(3)),
	))
}

// Rows of which the same is told are there once, with their weights added.
func TestO1TheSameOnce(t *testing.T) {
	cols, z := shop()
	got, err := Window(cols, nil, nil, nil, z)
	there, _ := zsets.Positive(z)
	check(t, "nothing told", got, err, there)
	got, err = Window([]int{integer}, nil, nil, places()[1:], rows{row(3, num(5)), row(2, num(6))})
	check(t, "what is the same of all", got, err, rows{row(3, num(5), num(1), num(1)), row(2, num(6), num(1), num(1))})
	got, err = Window([]int{integer}, these(col(0)), nil, wins(win(api.WinLag, col(0))), rows{row(3, num(5)), row(1, num(6))})
	check(t, "all but the first", got, err, rows{row(1, num(5), null), row(2, num(5), num(5)), row(1, num(6), null)})
}
