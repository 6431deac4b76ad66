package zsets

import (
	"fmt"
	"math"
	"reflect"
	"slices"
	"strings"
	"testing"

	"tidemark/api"
	"tidemark/vals"
)

type (
	rows  = []api.ZRow
	unary = func(z rows) (rows, api.Errno)
	both  = func(a, b rows) (rows, api.Errno)
)

const (
	most  = api.MaxWeight
	least = -api.MaxWeight
)

var null = api.Val{Kind: api.VNull}

func num(n int64) api.Val   { return api.Val{Kind: api.VInt, N: n} }
func text(s string) api.Val { return api.Val{Kind: api.VText, Text: s} }

func row(w int64, l ...api.Val) api.ZRow { return api.ZRow{Row: l, W: w} }

// upTo has one row for each number from 0 on, n of them.
func upTo(n int, w int64) rows {
	z := make(rows, n)
	for i := range z {
		z[i] = row(w, num(int64(i)))
	}
	return z
}

func wide(w int64, n int) api.ZRow { return row(w, slices.Repeat([]api.Val{null}, n)...) }

func unaries() map[string]unary {
	return map[string]unary{"Neg": Neg, "Positive": Positive, "Distinct": Distinct}
}

func boths() map[string]both { return map[string]both{"Add": Add, "Sub": Sub} }

// sets are sets, with all kinds of values, and at the limits.
func sets() []rows {
	return []rows{
		nil,
		{},
		{row(1)},
		{row(-1, num(1))},
		{row(2), row(1, null), row(-3, api.Val{Kind: api.VBool}), row(4, num(1)), row(5, num(1), null), row(-6, num(2)), row(7, text("a"))},
		{row(most, num(1)), row(least, num(2))},
		{row(1, api.Val{Kind: api.VNull, N: 7, Text: "junk"}, api.Val{Kind: api.VText, N: 3, Text: "a"}), row(-2, api.Val{Kind: api.VInt, N: 5, Text: "junk"})},
		{wide(1, api.MaxCols-1), wide(1, api.MaxCols)},
		{row(1, text(strings.Repeat("x", api.MaxText)))},
		upTo(api.MaxRows, 1),
		upTo(api.MaxRows, -1),
	}
}

type fault struct {
	z    rows
	want api.Errno
}

// noSets are lists that are no sets; where more than one thing is wrong, the first one counts.
func noSets() []fault {
	tooLong, noBool := text(strings.Repeat("x", api.MaxText+1)), api.Val{Kind: api.VBool, N: 2}
	return []fault{
		{upTo(api.MaxRows+1, 1), api.ErrMany},
		{append(rows{row(0, api.Val{})}, upTo(api.MaxRows, 1)...), api.ErrMany},
		{rows{wide(1, api.MaxCols+1)}, api.ErrMany},
		{rows{row(0, slices.Repeat([]api.Val{{}}, api.MaxCols+1)...)}, api.ErrMany},
		{rows{row(1, api.Val{})}, api.ErrKind},
		{rows{row(1, num(1), api.Val{Kind: 5})}, api.ErrKind},
		{rows{row(1, noBool)}, api.ErrRange},
		{rows{row(1, num(api.MaxInt+1))}, api.ErrRange},
		{rows{row(1, tooLong)}, api.ErrMuch},
		{rows{row(0, tooLong)}, api.ErrMuch},
		{rows{row(1, api.Val{}, tooLong)}, api.ErrKind},
		{rows{row(1, tooLong, api.Val{})}, api.ErrMuch},
		{rows{row(0, num(1))}, api.ErrRange},
		{rows{row(0)}, api.ErrRange},
		{rows{row(most+1, num(1))}, api.ErrRange},
		{rows{row(least-1, num(1))}, api.ErrRange},
		{rows{row(math.MaxInt64, num(1))}, api.ErrRange},
		{rows{row(math.MinInt64, num(1))}, api.ErrRange},
		{rows{row(1, num(2)), row(1, num(1))}, api.ErrForm},
		{rows{row(1, num(1)), row(1, num(1))}, api.ErrForm},
		{rows{row(1), row(1)}, api.ErrForm},
		{rows{row(1, num(1)), row(1)}, api.ErrForm},
		{rows{row(1, num(1)), row(-1, api.Val{Kind: api.VInt, N: 1, Text: "junk"})}, api.ErrForm},
		{rows{row(1, num(1), null), row(1, num(1))}, api.ErrForm},
		{rows{row(1, num(1)), row(1, null)}, api.ErrForm},
		{rows{row(1, num(2)), row(0, num(1))}, api.ErrRange},
		{rows{row(1, num(2)), row(1, num(1)), row(0, num(3))}, api.ErrForm},
		{rows{row(0, num(2)), row(1, api.Val{})}, api.ErrRange},
		{rows{row(1, num(2)), row(1, num(1), api.Val{})}, api.ErrKind},
		{rows{row(1, num(2)), row(1, num(1)), row(1, api.Val{})}, api.ErrForm},
	}
}

// told is z as a text, in which nil and a list without entries are the same.
func told(z rows) string {
	var out strings.Builder
	for _, r := range z {
		for _, v := range r.Row {
			fmt.Fprintf(&out, "%#v ", v)
		}
		fmt.Fprintf(&out, "times %d\n", r.W)
	}
	return out.String()
}

func check(t *testing.T, what string, got rows, err api.Errno, want rows) {
	t.Helper()
	if err != api.OK {
		t.Errorf("%s: error %d comes, not %s", what, err, told(want))
	} else if told(got) != told(want) {
		t.Errorf("%s: %s comes, not %s", what, told(got), told(want))
	}
}

func checkError(t *testing.T, what string, got rows, err, want api.Errno) {
	t.Helper()
	if err != want || got != nil {
		t.Errorf("%s: error %d and %s come, not error %d alone", what, err, told(got), want)
	}
}

// bare is z in memory of its own, its values bare.
func bare(z rows) rows {
	var out rows
	for _, r := range z {
		l := []api.Val{}
		for _, v := range r.Row {
			l = append(l, vals.Bare(v))
		}
		out = append(out, row(r.W, l...))
	}
	return out
}

// plainly is what of l is left, reckoned by going through all of it again and again.
func plainly(l rows) rows {
	var out rows
	for _, r := range bare(l) {
		at := slices.IndexFunc(out, func(o api.ZRow) bool { return vals.Rows(o.Row, r.Row) == 0 })
		if at >= 0 {
			out[at].W += r.W
			continue
		}
		at = 0
		for at < len(out) && vals.Rows(out[at].Row, r.Row) < 0 {
			at++
		}
		out = slices.Insert(out, at, r)
	}
	return slices.DeleteFunc(out, func(r api.ZRow) bool { return r.W == 0 })
}

func TestB1Wrong(t *testing.T) {
	for _, z := range sets() {
		if err := Wrong(z); err != api.OK {
			t.Errorf("%sis a set, and error %d is told", told(z), err)
		}
	}
	for _, c := range noSets() {
		if err := Wrong(c.z); err != c.want {
			t.Errorf("of %serror %d is told, not %d", told(c.z), err, c.want)
		}
	}
}

func TestB2Of(t *testing.T) {
	for _, c := range []struct{ l, want rows }{
		{nil, nil},
		{rows{}, nil},
		{rows{row(0)}, nil},
		{rows{row(1)}, rows{row(1)}},
		{rows{row(1, num(2)), row(2, num(1))}, rows{row(2, num(1)), row(1, num(2))}},
		{rows{row(1, num(1)), row(1, num(1))}, rows{row(2, num(1))}},
		{rows{row(2, num(1)), row(-1, num(1))}, rows{row(1, num(1))}},
		{rows{row(2, num(1)), row(-2, num(1))}, nil},
		{rows{row(2, num(1)), row(3, num(2)), row(-2, num(1))}, rows{row(3, num(2))}},
		{rows{row(0, num(1)), row(-1, null)}, rows{row(-1, null)}},
		{rows{row(1, num(1), null), row(1, num(1)), row(1)}, rows{row(1), row(1, num(1)), row(1, num(1), null)}},
		{rows{row(1, text("b")), row(1, num(9)), row(1, api.Val{Kind: api.VBool, N: 1}), row(1, null)}, rows{row(1, null), row(1, api.Val{Kind: api.VBool, N: 1}), row(1, num(9)), row(1, text("b"))}},
		{rows{row(1, api.Val{Kind: api.VInt, N: 1, Text: "junk"}), row(1, num(1))}, rows{row(2, num(1))}},
		{rows{row(most, num(1)), row(most, num(1)), row(least, num(1))}, rows{row(most, num(1))}},
		{rows{row(most-1, num(1)), row(1, num(1))}, rows{row(most, num(1))}},
		{rows{row(least+1, num(1)), row(-1, num(1))}, rows{row(least, num(1))}},
		{upTo(api.MaxRows, 1), upTo(api.MaxRows, 1)},
		{slices.Repeat(upTo(api.MaxRows, 1), 4), upTo(api.MaxRows, 4)},
		{append(upTo(api.MaxRows+1, 1), row(-1, num(7))), slices.Delete(upTo(api.MaxRows+1, 1), 7, 8)},
		{upTo(4*api.MaxRows, 0), nil},
	} {
		got, err := Of(c.l)
		check(t, "Of "+told(c.l), got, err, c.want)
	}
	for _, z := range sets() {
		got, err := Of(z)
		check(t, "Of a set", got, err, bare(z))
		turned := slices.Clone(z)
		slices.Reverse(turned)
		got, err = Of(turned)
		check(t, "Of a set turned round", got, err, bare(z))
	}
}

func TestB2OfWrong(t *testing.T) {
	tooMany := upTo(api.MaxRows+1, 1)
	for _, c := range []fault{
		{upTo(4*api.MaxRows+1, 0), api.ErrMany},
		{append(upTo(4*api.MaxRows, 0), row(0, api.Val{})), api.ErrMany},
		{rows{wide(1, api.MaxCols+1)}, api.ErrMany},
		{rows{wide(0, api.MaxCols+1)}, api.ErrMany},
		{rows{row(most+1, api.Val{})}, api.ErrKind},
		{rows{row(0, api.Val{Kind: 5})}, api.ErrKind},
		{rows{row(1, text(strings.Repeat("x", api.MaxText+1)))}, api.ErrMuch},
		{rows{row(1, num(-api.MaxInt-1))}, api.ErrRange},
		{rows{row(most+1, num(1))}, api.ErrRange},
		{rows{row(least-1, num(1))}, api.ErrRange},
		{rows{row(math.MinInt64, num(1))}, api.ErrRange},
		{rows{row(most+1, num(1)), row(-1, num(1))}, api.ErrRange},
		{rows{row(most+1, num(1)), row(1, api.Val{})}, api.ErrRange},
		{rows{row(1, api.Val{}), row(most+1, num(1))}, api.ErrKind},
		{rows{row(most, num(1)), row(1, num(1))}, api.ErrRange},
		{rows{row(most, num(1)), row(5, num(2)), row(1, api.Val{Kind: api.VInt, N: 1, Text: "junk"})}, api.ErrRange},
		{rows{row(least, num(1)), row(-1, num(1))}, api.ErrRange},
		{slices.Repeat(rows{row(least, num(1))}, 4*api.MaxRows), api.ErrRange},
		{tooMany, api.ErrMany},
		{upTo(4*api.MaxRows, -1), api.ErrMany},
		{append(upTo(api.MaxRows+1, 1), row(most, num(api.MaxRows))), api.ErrRange}, // the sums come first
		{append(upTo(api.MaxRows+2, 1), row(-1, num(0))), api.ErrMany},
	} {
		got, err := Of(c.z)
		checkError(t, "Of "+told(c.z), got, err, c.want)
	}
}

// Of what is gathered only the sums count, and how many rows are left.
func TestB2Gather(t *testing.T) {
	many := slices.Repeat(upTo(api.MaxRows, 1), 10)
	for _, c := range []struct{ l, want rows }{
		{nil, nil},
		{rows{row(0, num(1))}, nil},
		{rows{row(2*most, num(1)), row(1, null), row(least, num(1))}, rows{row(1, null), row(most, num(1))}},
		{rows{row(2*most, num(1)), row(2*least, num(1))}, nil},
		{rows{row(1, api.Val{Kind: api.VInt, N: 1, Text: "junk"}), row(1, num(1))}, rows{row(2, num(1))}},
		{many, upTo(api.MaxRows, 10)},
		{slices.Concat(upTo(20*api.MaxRows, 5), upTo(20*api.MaxRows, -5)), nil},
	} {
		got, err := Gather(c.l)
		check(t, "Gather", got, err, c.want)
	}
	got, err := Gather(rows{row(2*most, num(1)), row(-1, num(1))})
	checkError(t, "too heavy", got, err, api.ErrRange)
	got, err = Gather(upTo(20*api.MaxRows, 1))
	checkError(t, "too many", got, err, api.ErrMany)
	got, err = Gather(append(upTo(20*api.MaxRows, 1), row(most, num(3))))
	checkError(t, "too many, and too heavy", got, err, api.ErrRange)
	for _, z := range sets() {
		got, err = Gather(z)
		check(t, "Gather of a set", got, err, bare(z))
	}
}

func TestB3AddAndSub(t *testing.T) {
	a := rows{row(1, null), row(2, num(1)), row(-1, num(2))}
	b := rows{row(3), row(2, num(1)), row(1, num(2)), row(1, text("a"))}
	got, err := Add(a, b)
	check(t, "Add", got, err, rows{row(3), row(1, null), row(4, num(1)), row(1, text("a"))})
	got, err = Sub(a, b)
	check(t, "Sub", got, err, rows{row(-3), row(1, null), row(-2, num(2)), row(-1, text("a"))})
	for _, z := range sets() {
		got, err = Add(z, nil)
		check(t, "Add nothing", got, err, bare(z))
		got, err = Add(nil, z)
		check(t, "Add to nothing", got, err, bare(z))
		got, err = Sub(z, rows{})
		check(t, "Sub nothing", got, err, bare(z))
		got, err = Sub(z, z)
		check(t, "Sub itself", got, err, nil)
	}
	got, err = Add(rows{row(most-1, num(1))}, rows{row(1, num(1))})
	check(t, "Add up to the limit", got, err, rows{row(most, num(1))})
	got, err = Sub(rows{row(most-1, num(1))}, rows{row(-1, num(1))})
	check(t, "Sub up to the limit", got, err, rows{row(most, num(1))})
	got, err = Sub(nil, rows{row(least, num(1))})
	check(t, "Sub the least weight", got, err, rows{row(most, num(1))})
	got, err = Add(upTo(api.MaxRows, 1), rows{row(-1, num(5))})
	check(t, "Add that takes one away", got, err, slices.Delete(upTo(api.MaxRows, 1), 5, 6))
}

func TestB3AddAndSubWrong(t *testing.T) {
	full, other := upTo(api.MaxRows, 1), rows{row(1, num(api.MaxRows))}
	for name, f := range boths() {
		got, err := f(full, other)
		checkError(t, name+" with too many rows", got, err, api.ErrMany)
		got, err = f(other, full)
		checkError(t, name+" with too many rows behind", got, err, api.ErrMany)
		for _, bad := range noSets() {
			got, err = f(bad.z, nil)
			checkError(t, name+" of "+told(bad.z), got, err, bad.want)
			got, err = f(other, bad.z)
			checkError(t, name+" with "+told(bad.z), got, err, bad.want)
			got, err = f(bad.z, rows{row(0, text(strings.Repeat("x", api.MaxText+1)))})
			checkError(t, name+" of two that are wrong", got, err, bad.want)
		}
	}
	for _, c := range []struct {
		f    both
		a, b int64
	}{
		{Add, most, 1}, {Add, least, -1}, {Add, 1, most}, {Add, most, most}, {Sub, most, -1}, {Sub, least, 1}, {Sub, 1, least}, {Sub, -1, most}, {Sub, most, least},
	} {
		got, err := c.f(rows{row(c.a, num(1))}, rows{row(c.b, num(1))})
		checkError(t, fmt.Sprint("a sum of ", c.a, " and ", c.b), got, err, api.ErrRange)
	}
	heavy := upTo(api.MaxRows, most)
	got, err := Add(heavy, rows{row(1, num(0)), row(1, num(api.MaxRows))})
	checkError(t, "too heavy and too many", got, err, api.ErrRange)
}

func TestB3NegPositiveDistinct(t *testing.T) {
	z := rows{row(2), row(-3, null), row(1, num(1)), row(least, num(2)), row(most, text("a"))}
	got, err := Neg(z)
	check(t, "Neg", got, err, rows{row(-2), row(3, null), row(-1, num(1)), row(most, num(2)), row(least, text("a"))})
	got, err = Positive(z)
	check(t, "Positive", got, err, rows{row(2), row(1, num(1)), row(most, text("a"))})
	got, err = Distinct(z)
	check(t, "Distinct", got, err, rows{row(1), row(1, num(1)), row(1, text("a"))})
	full, gone := upTo(api.MaxRows, 1), upTo(api.MaxRows, -1)
	got, err = Neg(full)
	check(t, "Neg of a full set", got, err, gone)
	got, err = Positive(full)
	check(t, "Positive of a full set", got, err, full)
	for name, f := range unaries() {
		got, err = f(nil)
		check(t, name+" of nothing", got, err, nil)
		for _, bad := range noSets() {
			got, err = f(bad.z)
			checkError(t, name+" of "+told(bad.z), got, err, bad.want)
		}
	}
	for _, f := range []unary{Positive, Distinct} {
		got, err = f(gone)
		check(t, "of what goes", got, err, nil)
	}
}

func TestB3Weight(t *testing.T) {
	for _, z := range sets() {
		for _, r := range z {
			if got := Weight(z, r.Row); got != r.W {
				t.Errorf("%d is told, not %s", got, told(rows{r}))
			}
			if got := Weight(z, bare(rows{r})[0].Row); got != r.W {
				t.Errorf("of what is bare %d is told, not %s", got, told(rows{r}))
			}
		}
		for _, r := range [][]api.Val{{num(-1)}, {num(1), num(1)}, {num(api.MaxRows)}, {text("b")}, {null, null}, {null, null, null, num(1)}} {
			if got := Weight(z, r); got != 0 {
				t.Errorf("%d is told of %#v in %s", got, r, told(z))
			}
		}
	}
	if Weight(nil, nil) != 0 || Weight(rows{row(1, num(1))}, nil) != 0 {
		t.Error("a row without values has a weight, and isn't there")
	}
	if Weight(rows{row(4, nil...)}, []api.Val{}) != 4 || Weight(rows{row(4, []api.Val{}...)}, nil) != 4 {
		t.Error("nil and a row without values are not the same")
	}
	if Weight(rows{row(3, num(1))}, []api.Val{{Kind: api.VInt, N: 1, Text: "junk"}}) != 3 {
		t.Error("a field that a kind has not makes rows differ")
	}
}

// small are all sets of two rows with weights from -2 to 2, so that laws can be asked of all of them.
func small() []rows {
	var out []rows
	for v := int64(-2); v <= 2; v++ {
		for w := int64(-2); w <= 2; w++ {
			out = append(out, plainly(rows{row(v, num(1)), row(w, text("a"), null)}))
		}
	}
	return out
}

func must(t *testing.T, z rows, err api.Errno) rows {
	t.Helper()
	if err != api.OK || Wrong(z) != api.OK {
		t.Fatalf("error %d, or no set, comes: %s", err, told(z))
	}
	return z
}

// Sets with weights are a group.
func TestB3Laws(t *testing.T) {
	add := func(a, b rows) rows { z, err := Add(a, b); return must(t, z, err) }
	sub := func(a, b rows) rows { z, err := Sub(a, b); return must(t, z, err) }
	neg := func(z rows) rows { z, err := Neg(z); return must(t, z, err) }
	for _, a := range small() {
		check(t, "a and its opposite", add(a, neg(a)), api.OK, nil)
		for _, b := range small() {
			check(t, "a and b", add(a, b), api.OK, plainly(slices.Concat(a, b)))
			check(t, "b and a", add(b, a), api.OK, add(a, b))
			check(t, "a without b", sub(a, b), api.OK, add(a, neg(b)))
			check(t, "b taken away and added", add(sub(a, b), b), api.OK, a)
			for _, c := range small() {
				check(t, "one behind the other", add(add(a, b), c), api.OK, add(a, add(b, c)))
			}
		}
	}
}

func TestB2PlainlyTheSame(t *testing.T) {
	kinds := []api.Val{null, {Kind: api.VBool}, {Kind: api.VBool, N: 1}, num(-1), num(3), text(""), text("a"), {Kind: api.VInt, N: 3, Text: "junk"}}
	state := uint32(1)
	next := func(n int) int {
		state = state*1664525 + 1013904223
		return int(state>>16) % n
	}
	for range 300 {
		var l rows
		for range next(40) {
			var r []api.Val
			for range next(3) {
				r = append(r, kinds[next(len(kinds))])
			}
			l = append(l, row(int64(next(7)-3), r...))
		}
		got, err := Of(l)
		check(t, "Of", must(t, got, err), err, plainly(l))
	}
}

// spare lays z into greater lists, so that what stands behind its end can be watched.
func spare(z rows) (rows, func() rows) {
	whole := make(rows, 0, len(z)+1)
	for _, r := range z {
		l := append(slices.Clone(r.Row), text("behind"))
		whole = append(whole, row(r.W, l[:len(r.Row)]...))
	}
	whole = append(whole, row(9, text("behind")))
	all := func() rows {
		out := rows{}
		for _, r := range whole {
			out = append(out, row(r.W, slices.Clone(r.Row[:cap(r.Row)])...))
		}
		return out
	}
	return whole[:len(z)], all
}

func TestArgumentsAreOnlyRead(t *testing.T) {
	lists := append(sets(), rows{row(1, num(2)), row(0, null), row(1, num(1)), row(3, num(2))})
	for _, bad := range noSets() {
		lists = append(lists, bad.z)
	}
	for _, l := range lists {
		a, allA := spare(l)
		b, allB := spare(sets()[4])
		beforeA, beforeB := allA(), allB()
		want, err := Of(l)
		got, again := Of(a)
		if again != err || told(got) != told(want) {
			t.Error("the spare room behind a list is looked at")
		}
		Wrong(a)
		Gather(a)
		Weight(a, b[3].Row)
		for _, f := range unaries() {
			f(a)
		}
		for _, f := range boths() {
			f(a, b)
			f(b, a)
		}
		if !reflect.DeepEqual(beforeA, allA()) || !reflect.DeepEqual(beforeB, allB()) {
			t.Errorf("%sis changed", told(l))
		}
	}
}

// scribble writes into all that z has, its spare room too.
func scribble(z rows) {
	for i, r := range z[:cap(z)] {
		for j := range r.Row[:cap(r.Row)] {
			r.Row[:cap(r.Row)][j] = text("scribble")
		}
		z[:cap(z)][i].W = 77
	}
}

func TestAnswersAreTheCallers(t *testing.T) {
	plain := func(f func() (rows, api.Errno), args ...rows) {
		before := make([]string, len(args))
		for i, a := range args {
			before[i] = told(a)
		}
		first, _ := f()
		want := told(first)
		scribble(first)
		second, _ := f()
		if told(second) != want {
			t.Errorf("%scomes the second time, not %s", told(second), want)
		}
		for i, a := range args {
			if told(a) != before[i] {
				t.Errorf("who writes into an answer changes %s", before[i])
			}
		}
		for i := range second {
			l := second[i].Row
			for j := range l[:cap(l)] {
				l[:cap(l)][j] = text("scribble")
			}
			if i+1 < len(second) && strings.Contains(told(second[i+1:]), "scribble") {
				t.Fatal("two rows of an answer share memory")
			}
		}
	}
	for _, a := range sets() {
		plain(func() (rows, api.Errno) { return Of(a) }, a)
		plain(func() (rows, api.Errno) { return Gather(a) }, a)
		for _, f := range unaries() {
			plain(func() (rows, api.Errno) { return f(a) }, a)
		}
		for _, b := range sets() {
			for _, f := range boths() {
				plain(func() (rows, api.Errno) { return f(a, b) }, a, b)
			}
		}
	}
}

// Of lists that are no sets Weight promises just this, that nothing panics.
func TestNothingPanics(t *testing.T) {
	for _, c := range noSets() {
		Weight(c.z, nil)
		Weight(c.z, []api.Val{{}})
		for _, r := range c.z {
			Weight(c.z, r.Row)
			Weight(sets()[4], r.Row)
		}
	}
}
