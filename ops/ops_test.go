package ops

import (
	"fmt"
	"slices"
	"strings"
	"testing"

	"tidemark/api"
	"tidemark/exprs"
	"tidemark/vals"
	"tidemark/zsets"
)

type rows = []api.ZRow

const (
	none    = api.VNull
	boolean = api.VBool
	integer = api.VInt
	texts   = api.VText
	most    = api.MaxWeight
	lowest  = -api.MaxWeight
)

var (
	null = api.Val{Kind: api.VNull}
	yes  = api.Val{Kind: api.VBool, N: 1}
	no   = api.Val{Kind: api.VBool}
)

func num(n int64) api.Val   { return api.Val{Kind: api.VInt, N: n} }
func text(s string) api.Val { return api.Val{Kind: api.VText, Text: s} }

func row(w int64, l ...api.Val) api.ZRow { return api.ZRow{Row: l, W: w} }

func col(n int) api.Expr                       { return api.Expr{Kind: api.XCol, Col: n} }
func lit(v api.Val) api.Expr                   { return api.Expr{Kind: api.XLit, Val: v} }
func node(kind int, kids ...api.Expr) api.Expr { return api.Expr{Kind: kind, Kids: kids} }
func these(l ...api.Expr) []api.Expr           { return l }
func same(a, b int) api.Expr                   { return node(api.XEq, col(a), col(b)) }

// upTo has one row for each number from 0 on, n of them.
func upTo(n int, w int64) rows {
	z := make(rows, n)
	for i := range z {
		z[i] = row(w, num(int64(i)))
	}
	return z
}

func wide(w int64, n int) api.ZRow { return row(w, slices.Repeat([]api.Val{null}, n)...) }

func ints(n int) []int { return slices.Repeat([]int{integer}, n) }

// told is z as a text, in which nil and a list without entries are the same.
func told(z rows) string {
	var out strings.Builder
	for _, r := range z {
		for _, v := range r.Row {
			fmt.Fprintf(&out, "{%d %d %q} ", v.Kind, v.N, v.Text)
		}
		fmt.Fprintf(&out, "times %d; ", r.W)
	}
	return out.String()
}

func check(t *testing.T, what string, got rows, err api.Errno, want rows) {
	t.Helper()
	if err != api.OK {
		t.Errorf("%s: error %d comes, not %s", what, err, told(want))
	} else if told(got) != told(want) {
		t.Errorf("%s: %s comes, not %s", what, told(got), told(want))
	}
}

func checkError(t *testing.T, what string, got rows, err, want api.Errno) {
	t.Helper()
	if err != want || got != nil {
		t.Errorf("%s: error %d and %s come, not error %d alone", what, err, told(got), want)
	}
}

// must is a set that came, without an error.
func must(t *testing.T, z rows, err api.Errno) rows {
	t.Helper()
	if err != api.OK || zsets.Wrong(z) != api.OK {
		t.Fatalf("error %d, or no set, comes: %s", err, told(z))
	}
	return z
}

type (
	byCondition = func(cols []int, x api.Expr, z rows) (rows, api.Errno)
	byList      = func(cols []int, xs []api.Expr, z rows) (rows, api.Errno)
	ofTwo       = func(left, right []int, x api.Expr, a, b rows) (rows, api.Errno)
)

func ofPairsAll() map[string]ofTwo {
	return map[string]ofTwo{"Join": Join, "Semi": Semi, "Anti": Anti, "Left": Left}
}

// conditions are the calls that have a condition, with nothing else that could be wrong.
func conditions() map[string]byCondition {
	out := map[string]byCondition{"Filter": Filter}
	for name, f := range ofPairsAll() {
		out[name+", left"] = func(cols []int, x api.Expr, z rows) (rows, api.Errno) { return f(cols, nil, x, z, nil) }
		out[name+", right"] = func(cols []int, x api.Expr, z rows) (rows, api.Errno) { return f(nil, cols, x, nil, z) }
	}
	return out
}

// lists are the calls that have a list, with nothing else that could be wrong.
func lists() map[string]byList {
	return map[string]byList{
		"Map":   Map,
		"Group": func(cols []int, xs []api.Expr, z rows) (rows, api.Errno) { return Group(cols, xs, nil, z) },
		"Top":   func(cols []int, xs []api.Expr, z rows) (rows, api.Errno) { return Top(cols, xs, 5, z) },
	}
}

// ofSets are all calls, with nothing that could be wrong but the set and its columns.
func ofSets() map[string]func(cols []int, z rows) (rows, api.Errno) {
	out := map[string]func(cols []int, z rows) (rows, api.Errno){}
	for name, f := range conditions() {
		out[name] = func(cols []int, z rows) (rows, api.Errno) { return f(cols, lit(yes), z) }
	}
	for name, f := range lists() {
		out[name] = func(cols []int, z rows) (rows, api.Errno) { return f(cols, nil, z) }
		out[name+" of a literal"] = func(cols []int, z rows) (rows, api.Errno) { return f(cols, these(lit(yes)), z) }
	}
	out["Wrong"] = func(cols []int, z rows) (rows, api.Errno) { return nil, Wrong(cols, z) }
	out["Group with aggregates"] = func(cols []int, z rows) (rows, api.Errno) {
		return Group(cols, nil, []api.Agg{{Kind: api.AgRows}, {Kind: api.AgSum, X: lit(num(1))}}, z)
	}
	return out
}

func TestD1Condition(t *testing.T) {
	cols := []int{integer, texts, boolean, none}
	bad := rows{row(0, api.Val{})}
	for name, f := range conditions() {
		for _, c := range []struct {
			x    api.Expr
			want api.Errno
		}{
			{api.Expr{}, api.ErrKind},
			{api.Expr{Kind: api.XMax}, api.ErrKind},
			{node(api.XNot), api.ErrMany},
			{col(4), api.ErrName},
			{col(-1), api.ErrName},
			{lit(num(api.MaxInt + 1)), api.ErrRange},
			{lit(text(strings.Repeat("x", api.MaxText+1))), api.ErrMuch},
			{node(api.XNot, col(0)), api.ErrType},
			{col(0), api.ErrType},
			{col(1), api.ErrType},
			{lit(num(1)), api.ErrType},
			{node(api.XAdd, col(0), col(3)), api.ErrType},
			{node(api.XCoal, col(3), col(1)), api.ErrType},
		} {
			got, err := f(cols, c.x, nil)
			checkError(t, name, got, err, c.want)
			got, err = f(cols, c.x, bad) // what is wrong with a set is told behind
			checkError(t, name, got, err, c.want)
		}
		got, err := f([]int{0}, lit(yes), nil)
		checkError(t, name+" of a column that is none", got, err, api.ErrKind)
		got, err = f([]int{5}, col(0), bad)
		checkError(t, name+" of a column that is none", got, err, api.ErrKind)
		for _, x := range these(col(2), col(3), lit(null), lit(no), node(api.XCoal, col(3), lit(null))) {
			got, err = f(cols, x, nil)
			check(t, name+" of nothing", got, err, nil)
		}
	}
	z := rows{row(1, num(1), null, yes, null), row(2, num(2), null, null, null)}
	for _, x := range these(lit(null), col(3), lit(no), node(api.XNot, col(2))) {
		got, err := Filter(cols, x, z)
		check(t, "what is true of no row", got, err, nil)
	}
}

func TestD1List(t *testing.T) {
	cols := []int{integer, texts}
	bad := rows{row(0, api.Val{})}
	for name, f := range lists() {
		for _, c := range []struct {
			xs   []api.Expr
			want api.Errno
		}{
			{slices.Repeat(these(col(0)), api.MaxCols+1), api.ErrMany},
			{make([]api.Expr, api.MaxCols+1), api.ErrMany},
			{make([]api.Expr, api.MaxCols), api.ErrKind},
			{these(api.Expr{}), api.ErrKind},
			{these(col(0), col(2), api.Expr{}), api.ErrName},
			{these(api.Expr{}, col(2)), api.ErrKind},
			{these(col(0), node(api.XNot, col(0))), api.ErrType},
			{these(node(api.XNot), node(api.XNot, col(0))), api.ErrMany},
			{these(lit(num(-api.MaxInt - 1))), api.ErrRange},
			{these(col(1), lit(text(strings.Repeat("x", api.MaxText+1)))), api.ErrMuch},
		} {
			got, err := f(cols, c.xs, nil)
			checkError(t, name, got, err, c.want)
			got, err = f(cols, c.xs, bad)
			checkError(t, name, got, err, c.want)
		}
		got, err := f([]int{integer, 0}, these(col(0)), bad)
		checkError(t, name+" of a column that is none", got, err, api.ErrKind)
		got, err = f(ints(2*api.MaxCols+1), these(api.Expr{}), nil)
		checkError(t, name+" of too many columns", got, err, api.ErrMany)
		z := rows{row(1, num(1), text("a"))}
		got, err = f(cols, slices.Repeat(these(col(0)), api.MaxCols), z)
		if err != api.OK || len(got) != 1 {
			t.Errorf("%s of as many as may be: error %d", name, err)
		}
	}
}

// What List answers may be asked again and again: each time it is new memory, and of a row that doesn't fit nothing panics.
func TestD1ListOfRows(t *testing.T) {
	kids := these(col(0), lit(num(1)))
	xs := these(node(api.XAdd, kids...), col(1))
	of, err := List([]int{integer, texts}, xs)
	if err != api.OK {
		t.Fatalf("error %d", err)
	}
	xs[1], kids[1] = col(0), col(0) // nothing of them is kept
	first := of([]api.Val{num(4), text("a")})
	second := of([]api.Val{num(7), null})
	if vals.Rows(first, []api.Val{num(5), text("a")}) != 0 || vals.Rows(second, []api.Val{num(8), null}) != 0 {
		t.Errorf("%v and %v come", first, second)
	}
	if got := of(nil); vals.Rows(got, []api.Val{null, null}) != 0 {
		t.Errorf("of no values %v come", got)
	}
	of, err = List([]int{integer}, make([]api.Expr, api.MaxCols+1))
	if of != nil || err != api.ErrMany {
		t.Errorf("of too many error %d comes", err)
	}
	of, err = List([]int{integer}, these(col(0), col(1)))
	if of != nil || err != api.ErrName {
		t.Errorf("of a column that isn't there error %d comes", err)
	}
}

// What is wrong with a set of two columns, a number and a text; where more than one thing is, the first one counts.
func wrongSets() []struct {
	z    rows
	want api.Errno
} {
	tooLong := text(strings.Repeat("x", api.MaxText+1))
	return []struct {
		z    rows
		want api.Errno
	}{
		{append(upTo(api.MaxRows+1, 1), row(0, api.Val{})), api.ErrMany},
		{rows{wide(1, api.MaxCols+1)}, api.ErrMany},
		{rows{row(1, num(1), api.Val{})}, api.ErrKind},
		{rows{row(1, num(1), tooLong)}, api.ErrMuch},
		{rows{row(1, num(api.MaxInt+1), text("a"))}, api.ErrRange},
		{rows{row(0, num(1), text("a"))}, api.ErrRange},
		{rows{row(most+1, num(1), text("a"))}, api.ErrRange},
		{rows{row(lowest-1, num(1), text("a"))}, api.ErrRange},
		{rows{row(1, num(1), text("a")), row(1, num(1), text("a"))}, api.ErrForm},
		{rows{row(1, num(2), text("a")), row(1, num(1), text("a"))}, api.ErrForm},
		{rows{row(1)}, api.ErrFit},
		{rows{row(1, num(1))}, api.ErrFit},
		{rows{row(1, num(1), text("a"), null)}, api.ErrFit},
		{rows{row(1, text("a"), num(1))}, api.ErrType},
		{rows{row(1, num(1), yes)}, api.ErrType},
		{rows{row(1, num(1), text("a")), row(-1, num(1), text("b"), num(3))}, api.ErrFit},
		{rows{row(1, num(1), text("a")), row(-1, yes, text("b"))}, api.ErrForm},
		{rows{row(1, yes, text("a")), row(-1, num(1))}, api.ErrType},
		{rows{row(1, yes), row(-1, num(1), num(1))}, api.ErrFit},
		// All rows must be those of a set ahead of whether the first one fits.
		{rows{row(1, yes), row(0, num(1), text("a"))}, api.ErrRange},
		{rows{row(1, num(1)), row(1, num(1))}, api.ErrForm},
		{rows{row(1, num(1)), row(1, num(1), api.Val{})}, api.ErrKind},
	}
}

func TestD1Set(t *testing.T) {
	cols := []int{integer, texts}
	for name, f := range ofSets() {
		for _, c := range wrongSets() {
			got, err := f(cols, c.z)
			checkError(t, name+" of "+told(c.z), got, err, c.want)
		}
		got, err := f(ints(api.MaxCols+1), rows{row(0, api.Val{})})
		checkError(t, name+" of too many columns", got, err, api.ErrMany)
		got, err = f(ints(api.MaxCols+1), nil)
		checkError(t, name+" of too many columns, and nothing", got, err, api.ErrMany)
		for _, z := range []rows{nil, {}, {wide(1, api.MaxCols)}, {row(1, num(1), null, null, num(-api.MaxInt), null, null, null, num(4))}} {
			if _, err = f(ints(api.MaxCols), z); err != api.OK {
				t.Errorf("%s of as many columns as may be: error %d", name, err)
			}
		}
		if _, err = f(nil, rows{row(3)}); err != api.OK {
			t.Errorf("%s of no columns: error %d", name, err)
		}
		if _, err = f([]int{integer}, upTo(api.MaxRows, 1)); err != api.OK {
			t.Errorf("%s of a full set: error %d", name, err)
		}
	}
}

// Columns that are no types are told by expressions alone: without one nothing says what they are.
func TestD1ColumnsWithoutExpressions(t *testing.T) {
	cols := []int{0}
	z := rows{row(2, null)}
	got, err := Map(cols, nil, z)
	check(t, "Map", got, err, rows{row(2)})
	got, err = Top(cols, nil, 1, z)
	check(t, "Top", got, err, rows{row(1, null)})
	got, err = Group(cols, nil, []api.Agg{{Kind: api.AgRows}}, z)
	check(t, "Group", got, err, rows{row(1, num(2))})
	got, err = Map(cols, nil, rows{row(2, num(1))})
	checkError(t, "Map of what doesn't fit", got, err, api.ErrType)
}

func TestD2Filter(t *testing.T) {
	cols := []int{integer, texts}
	z := rows{
		row(1, null, text("a")),
		row(-2, num(1), null),
		row(3, api.Val{Kind: api.VInt, N: 1, Text: "junk"}, api.Val{Kind: api.VText, N: 9, Text: "b"}),
		row(most, num(2), text("a")),
		row(lowest, num(3), text("c")),
	}
	bare := rows{z[0], z[1], row(3, num(1), text("b")), z[3], z[4]}
	for _, c := range []struct {
		x    api.Expr
		want rows
	}{
		{lit(yes), bare},
		{lit(no), nil},
		{lit(null), nil},
		{node(api.XLt, col(0), lit(num(2))), bare[1:3]},
		{node(api.XGe, col(0), lit(num(2))), bare[3:]},
		{node(api.XIsNull, col(0)), bare[:1]},
		{node(api.XNot, node(api.XLt, col(0), lit(num(2)))), bare[3:]},
		{node(api.XEq, col(1), lit(text("a"))), rows{bare[0], bare[3]}},
		{node(api.XOr, node(api.XIsNull, col(1)), node(api.XEq, col(1), lit(text("c")))), rows{bare[1], bare[4]}},
	} {
		got, err := Filter(cols, c.x, z)
		check(t, "Filter", got, err, c.want)
	}
	got, err := Filter([]int{integer}, node(api.XLt, col(0), lit(num(2))), rows{row(1, num(1)), row(1, num(2))})
	check(t, "of the rows 1 and 2 those below 2", got, err, rows{row(1, num(1))})
	got, err = Filter([]int{integer}, lit(yes), upTo(api.MaxRows, most))
	check(t, "a full set", got, err, upTo(api.MaxRows, most))
	got, err = Filter([]int{none}, col(0), rows{row(1, null)})
	check(t, "a column that is never known", got, err, nil)
	got, err = Filter([]int{boolean}, col(0), rows{row(1, null), row(2, no), row(3, api.Val{Kind: api.VBool, N: 1, Text: "junk"})})
	check(t, "a column itself", got, err, rows{row(3, yes)})
	got, err = Filter(nil, lit(yes), rows{row(4)})
	check(t, "a row of nothing", got, err, rows{row(4)})
}

func TestD2Map(t *testing.T) {
	cols := []int{integer, texts}
	z := rows{row(1, null, text("a")), row(-2, num(1), null), row(3, num(1), api.Val{Kind: api.VText, N: 9, Text: "b"}), row(5, num(2), text("a")), row(-1, num(4), text("a"))}
	for _, c := range []struct {
		xs   []api.Expr
		want rows
	}{
		{nil, rows{row(6)}},
		{these(), rows{row(6)}},
		{these(col(0)), rows{row(1, null), row(1, num(1)), row(5, num(2)), row(-1, num(4))}},
		{these(col(1)), rows{row(-2, null), row(5, text("a")), row(3, text("b"))}},
		{these(node(api.XMul, col(0), lit(num(-1)))), rows{row(1, null), row(-1, num(-4)), row(5, num(-2)), row(1, num(-1))}},
		{these(lit(num(7)), lit(null)), rows{row(6, num(7), null)}},
		{these(col(1), col(0)), rows{row(-2, null, num(1)), row(1, text("a"), null), row(5, text("a"), num(2)), row(-1, text("a"), num(4)), row(3, text("b"), num(1))}},
		{these(node(api.XIsNull, col(1)), node(api.XIsNull, col(0))), rows{row(7, no, no), row(1, no, yes), row(-2, yes, no)}},
	} {
		got, err := Map(cols, c.xs, z)
		check(t, "Map", got, err, c.want)
	}
	got, err := Map([]int{integer}, these(lit(yes)), rows{row(2, num(1)), row(-2, num(2))})
	check(t, "rows that are gone together", got, err, nil)
	got, err = Map([]int{integer}, nil, nil)
	check(t, "Map of nothing", got, err, nil)
}

func TestD2MapSums(t *testing.T) {
	cols := []int{integer}
	got, err := Map(cols, nil, rows{row(most, num(1)), row(1, num(2))})
	checkError(t, "too heavy", got, err, api.ErrRange)
	got, err = Map(cols, nil, rows{row(lowest, num(1)), row(-1, num(2))})
	checkError(t, "too light", got, err, api.ErrRange)
	got, err = Map(cols, nil, upTo(api.MaxRows, most))
	checkError(t, "far too heavy", got, err, api.ErrRange)
	got, err = Map(cols, nil, rows{row(most-1, num(1)), row(1, num(2))})
	check(t, "just not too heavy", got, err, rows{row(most)})
	got, err = Map(cols, nil, rows{row(most, num(1)), row(most, num(2)), row(lowest, num(3))})
	check(t, "too heavy on the way", got, err, rows{row(most)})
	got, err = Map(cols, these(node(api.XMul, col(0), lit(num(0)))), rows{row(1, null), row(most, num(1)), row(1, num(2))})
	checkError(t, "one of two too heavy", got, err, api.ErrRange)
	got, err = Map(cols, these(col(0), col(0)), upTo(api.MaxRows, 1))
	if must(t, got, err); len(got) != api.MaxRows {
		t.Errorf("%d rows come of %d", len(got), api.MaxRows)
	}
}

// small are all sets of three rows with weights from -1 to 2, so that laws can be asked of all of them.
func small() []rows {
	var out []rows
	for _, u := range []int64{-1, 0, 2} {
		for _, v := range []int64{-1, 0, 1} {
			for _, w := range []int64{-1, 0, 2} {
				out = append(out, without0(rows{row(u, null), row(v, num(1)), row(w, num(2))}))
			}
		}
	}
	return out
}

func without0(z rows) rows { return slices.DeleteFunc(z, func(r api.ZRow) bool { return r.W == 0 }) }

// Filters and maps are linear, joins in both.
func TestD2D3Linear(t *testing.T) {
	cols := []int{integer}
	add := func(a, b rows) rows { z, err := zsets.Add(a, b); return must(t, z, err) }
	filter := func(z rows) rows {
		z, err := Filter(cols, node(api.XGt, col(0), lit(num(1))), z)
		return must(t, z, err)
	}
	mapped := func(z rows) rows { z, err := Map(cols, these(node(api.XIsNull, col(0))), z); return must(t, z, err) }
	join := func(a, b rows) rows {
		z, err := Join(cols, cols, node(api.XLe, col(0), col(1)), a, b)
		return must(t, z, err)
	}
	fixed := rows{row(2, num(1)), row(-3, num(2))}
	for _, a := range small() {
		for _, b := range small() {
			check(t, "Filter", filter(add(a, b)), api.OK, add(filter(a), filter(b)))
			check(t, "Map", mapped(add(a, b)), api.OK, add(mapped(a), mapped(b)))
			check(t, "Join on the left", join(add(a, b), fixed), api.OK, add(join(a, fixed), join(b, fixed)))
			check(t, "Join on the right", join(fixed, add(a, b)), api.OK, add(join(fixed, a), join(fixed, b)))
		}
	}
}

// plain is what x comes to of a row, asked by its own chapter's call.
func plain(t *testing.T, cols []int, x api.Expr, row []api.Val) api.Val {
	t.Helper()
	v, err := exprs.Eval(cols, x, row)
	if err != api.OK {
		t.Fatalf("error %d comes of %#v", err, x)
	}
	return v
}

// maker makes sets, the same ones in each run.
type maker struct{ state uint32 }

func (m *maker) upTo(n int) int {
	m.state = m.state*1664525 + 1013904223
	return int(m.state>>16) % n
}

func (m *maker) val(kind int) api.Val {
	switch {
	case m.upTo(4) == 0:
		return null
	case kind == boolean:
		return vals.Bool(m.upTo(2) == 0)
	case kind == integer:
		return num([]int64{-2, 0, 1, 3, api.MaxInt, -api.MaxInt, 999999999999999}[m.upTo(7)])
	case kind == texts:
		return text([]string{"", "a", "b"}[m.upTo(3)])
	}
	return null
}

func (m *maker) set(cols []int, n int) rows {
	var l rows
	for range m.upTo(n) {
		r := row([]int64{-2, -1, 1, 1, 2, 3, 1000, most / 50}[m.upTo(8)])
		for _, kind := range cols {
			r.Row = append(r.Row, m.val(kind))
		}
		l = append(l, r)
	}
	z, _ := zsets.Of(l)
	return z
}
