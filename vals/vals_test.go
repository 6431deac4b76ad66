package vals

import (
	"cmp"
	"math"
	"slices"
	"strings"
	"testing"

	"tidemark/api"
)

var (
	null = api.Val{Kind: api.VNull}
	no   = api.Val{Kind: api.VBool, N: 0}
	yes  = api.Val{Kind: api.VBool, N: 1}
)

func num(n int64) api.Val   { return api.Val{Kind: api.VInt, N: n} }
func text(s string) api.Val { return api.Val{Kind: api.VText, Text: s} }
func longText(n int) api.Val {
	return text(strings.Repeat("x", n))
}

// rising are right values, each less than the next one.
func rising() []api.Val {
	return []api.Val{
		null, no, yes,
		num(-api.MaxInt), num(-5), num(-1), num(0), num(1), num(5), num(api.MaxInt),
		text(""), text("\x00"), text("B"), text("a"), text("a\x00"), text("ab"), text("b"), longText(api.MaxText), text("\x80"), text("é"), text("\xff"),
	}
}

// littered are right values with something in the fields that their kinds have not.
func littered() []api.Val {
	return []api.Val{
		{Kind: api.VNull, N: 7, Text: "junk"},
		{Kind: api.VBool, N: 0, Text: "junk"},
		{Kind: api.VBool, N: 1, Text: "junk"},
		{Kind: api.VInt, N: 5, Text: "junk"},
		{Kind: api.VText, N: 1, Text: "ab"},
		{Kind: api.VText, N: api.MaxInt + 1, Text: ""},
	}
}

// broken are values that are not right.
func broken() []api.Val {
	return []api.Val{
		{}, {Kind: -1, N: 1, Text: "a"}, {Kind: 5, N: 1, Text: "a"}, {Kind: math.MaxInt}, {Kind: math.MinInt},
		{Kind: api.VBool, N: 2}, {Kind: api.VBool, N: -1}, {Kind: api.VBool, N: math.MinInt64},
		num(api.MaxInt + 1), num(-api.MaxInt - 1), num(math.MaxInt64), num(math.MinInt64),
		longText(api.MaxText + 1), longText(5000),
	}
}

func check(t *testing.T, what string, got, want api.Val) {
	t.Helper()
	if got != want {
		t.Errorf("%s: %#v comes, not %#v", what, got, want)
	}
}

func TestA1Wrong(t *testing.T) {
	for _, v := range slices.Concat(rising(), littered()) {
		if e := Wrong(v); e != api.OK {
			t.Errorf("%#v is right, and %#v is told", v, e)
		}
	}
	for _, c := range []struct {
		v    api.Val
		want api.Errno
	}{
		{api.Val{}, api.ErrKind},
		{api.Val{Kind: -1}, api.ErrKind},
		{api.Val{Kind: 5, N: 9}, api.ErrKind},
		{api.Val{Kind: math.MinInt}, api.ErrKind},
		{api.Val{Kind: api.VBool, N: 2}, api.ErrRange},
		{api.Val{Kind: api.VBool, N: -1}, api.ErrRange},
		{num(api.MaxInt + 1), api.ErrRange},
		{num(-api.MaxInt - 1), api.ErrRange},
		{num(math.MinInt64), api.ErrRange},
		{num(math.MaxInt64), api.ErrRange},
		{longText(api.MaxText + 1), api.ErrMuch},
		{text(strings.Repeat("é", api.MaxText/2) + "x"), api.ErrMuch}, // bytes count, not signs
	} {
		if e := Wrong(c.v); e != c.want {
			t.Errorf("of %#v %#v is told, not %#v", c.v, e, c.want)
		}
	}
}

func TestA1Made(t *testing.T) {
	check(t, "Null", Null(), null)
	check(t, "Bool of false", Bool(false), no)
	check(t, "Bool of true", Bool(true), yes)
	for _, n := range []int64{0, 1, -7, api.MaxInt, -api.MaxInt} {
		check(t, "Int in range", Int(n), num(n))
	}
	for _, n := range []int64{api.MaxInt + 1, -api.MaxInt - 1, math.MaxInt64, math.MinInt64} {
		check(t, "Int out of range", Int(n), null)
	}
}

func TestA1Bare(t *testing.T) {
	for _, v := range rising() {
		check(t, "Bare of what is bare", Bare(v), v)
	}
	want := []api.Val{null, no, yes, num(5), text("ab"), text("")}
	for i, v := range littered() {
		check(t, "Bare", Bare(v), want[i])
	}
}

func TestA2Compare(t *testing.T) {
	l := rising()
	for i, a := range l {
		for j, b := range l {
			want := cmp.Compare(i, j)
			if got := Compare(a, b); got != want {
				t.Errorf("Compare(%#v, %#v): %d comes, not %d", a, b, got, want)
			}
		}
	}
	for _, a := range littered() {
		if Compare(a, Bare(a)) != 0 || Compare(Bare(a), a) != 0 {
			t.Errorf("%#v and its bare one are not the same", a)
		}
	}
}

func TestA2Rows(t *testing.T) {
	row := func(l ...api.Val) []api.Val { return l }
	rows := [][]api.Val{
		nil,
		row(null),
		row(null, null),
		row(null, num(1)),
		row(no),
		row(num(1)),
		row(num(1), null),
		row(num(1), num(2)),
		row(num(1), num(2), num(0)),
		row(num(1), num(3)),
		row(num(2)),
		row(text("a"), num(1)),
		row(text("ab")),
	}
	for i, a := range rows {
		for j, b := range rows {
			want := cmp.Compare(i, j)
			if got := Rows(a, b); got != want {
				t.Errorf("Rows(%#v, %#v): %d comes, not %d", a, b, got, want)
			}
		}
	}
	if Rows(nil, []api.Val{}) != 0 || Rows([]api.Val{}, nil) != 0 {
		t.Error("nil and a row without values are not the same")
	}
	if Rows(row(littered()...), row(null, no, yes, num(5), text("ab"), text(""))) != 0 {
		t.Error("fields that a kind has not make rows differ")
	}
}

func TestA2RowsReadsAlone(t *testing.T) {
	whole := []api.Val{num(1), num(2), num(3)}
	other := []api.Val{num(1), num(2), num(9)}
	keptWhole, keptOther := slices.Clone(whole), slices.Clone(other)
	if Rows(whole[:2], other[:2]) != 0 {
		t.Error("the spare room behind a row is looked at")
	}
	if !slices.Equal(whole, keptWhole) || !slices.Equal(other, keptOther) {
		t.Error("a row that was handed in is changed")
	}
}

func TestA2EqualAndLess(t *testing.T) {
	l := slices.Concat(rising(), littered())
	for _, a := range l {
		for _, b := range l {
			equal, less := null, null
			if a.Kind == b.Kind && a.Kind != api.VNull {
				equal, less = no, no
				if c := Compare(a, b); c == 0 {
					equal = yes
				} else if c < 0 {
					less = yes
				}
			}
			check(t, "Equal", Equal(a, b), equal)
			check(t, "Less", Less(a, b), less)
		}
	}
	check(t, "Equal of 5 and 5", Equal(num(5), num(5)), yes)
	check(t, "Equal of 5 and 6", Equal(num(5), num(6)), no)
	check(t, "Less of 5 and 6", Less(num(5), num(6)), yes)
	check(t, "Less of 6 and 5", Less(num(6), num(5)), no)
	check(t, "Less of 5 and 5", Less(num(5), num(5)), no)
	check(t, "Less of false and true", Less(no, yes), yes)
	check(t, "Less of B and a", Less(text("B"), text("a")), yes)
	check(t, "Equal of two that are not known", Equal(null, null), null)
	check(t, "Less of what is not known and 5", Less(null, num(5)), null)
	check(t, "Equal of true and 1", Equal(yes, num(1)), null)
	check(t, "Less of 5 and a text", Less(num(5), text("6")), null)
}

func TestA3Truths(t *testing.T) {
	for _, c := range []struct{ a, b, and, or api.Val }{
		{no, no, no, no},
		{no, yes, no, yes},
		{yes, yes, yes, yes},
		{no, null, no, null},
		{yes, null, null, yes},
		{null, null, null, null},
		{no, num(1), no, null},
		{yes, num(0), null, yes},
		{num(0), text("x"), null, null},
	} {
		check(t, "And", And(c.a, c.b), c.and)
		check(t, "And turned round", And(c.b, c.a), c.and)
		check(t, "Or", Or(c.a, c.b), c.or)
		check(t, "Or turned round", Or(c.b, c.a), c.or)
	}
}

func TestA3NotAndTrue(t *testing.T) {
	for _, c := range []struct {
		v, not api.Val
		is     bool
	}{
		{yes, no, true},
		{no, yes, false},
		{null, null, false},
		{num(1), null, false},
		{num(0), null, false},
		{text("true"), null, false},
		{api.Val{Kind: api.VNull, N: 1}, null, false},
		{api.Val{Kind: api.VText, N: 1, Text: "a"}, null, false},
		{api.Val{Kind: api.VBool, N: 1, Text: "junk"}, no, true},
	} {
		check(t, "Not", Not(c.v), c.not)
		if True(c.v) != c.is {
			t.Errorf("True(%#v) is %#v", c.v, !c.is)
		}
	}
}

// Who knows more is not contradicted: an answer that is known stays, whatever truth takes the place of what was not.
func TestA3KnowingMore(t *testing.T) {
	for _, b := range []api.Val{no, yes, null} {
		for _, truth := range []api.Val{no, yes} {
			if v := And(null, b); v != null {
				check(t, "And", And(truth, b), v)
			}
			if v := Or(null, b); v != null {
				check(t, "Or", Or(truth, b), v)
			}
		}
	}
}

func TestA3Reckon(t *testing.T) {
	const most = api.MaxInt
	for _, c := range []struct {
		sign       rune
		a, b, want api.Val
	}{
		{'+', num(2), num(3), num(5)},
		{'-', num(2), num(3), num(-1)},
		{'*', num(2), num(3), num(6)},
		{'*', num(-2), num(3), num(-6)},
		{'*', num(-2), num(-3), num(6)},
		{'*', num(0), num(most), num(0)},
		{'*', num(-most), num(0), num(0)},
		{'+', num(most - 1), num(1), num(most)},
		{'+', num(most), num(1), null},
		{'+', num(-most), num(-1), null},
		{'+', num(most), num(-most), num(0)},
		{'-', num(-most + 1), num(1), num(-most)},
		{'-', num(-most), num(1), null},
		{'-', num(most), num(-1), null},
		{'-', num(most), num(most), num(0)},
		{'*', num(most), num(1), num(most)},
		{'*', num(most), num(-1), num(-most)},
		{'*', num(1000000), num(1000000000), num(most)},
		{'*', num(-1000000), num(1000000000), num(-most)},
		{'*', num(1000001), num(1000000000), null},
		{'*', num(most), num(2), null},
		{'*', num(most), num(most), null},
		{'*', num(-most), num(most), null},
		{'*', num(1 << 32), num(1 << 32), null},     // 2^64 wraps round to 0
		{'*', num(1 << 33), num(-(1 << 31)), null},  // -2^64 likewise
		{'*', num(1<<32 + 1), num(1<<32 - 1), null}, // 2^64 - 1 wraps round to -1
		{'*', num(3), num(333333333333333), num(most - 1)},
		{'*', num(3), num(333333333333334), null},
		{'+', num(2), null, null},
		{'+', null, num(2), null},
		{'-', null, null, null},
		{'*', num(0), null, null},
		{'+', yes, num(2), null},
		{'+', text("a"), text("b"), null},
		{'/', num(6), num(3), null},
		{'/', num(6), num(0), null},
		{0, num(6), num(3), null},
		{-1, num(6), num(3), null},
		{'×', num(6), num(3), null},
		{'+' + 256, num(6), num(3), null},
		{'+', api.Val{Kind: api.VInt, N: 5, Text: "junk"}, num(1), num(6)},
	} {
		check(t, "Reckon "+string(c.sign), Reckon(c.sign, c.a, c.b), c.want)
	}
}

func TestA3Join(t *testing.T) {
	for _, c := range []struct{ a, b, want api.Val }{
		{text("a"), text("b"), text("ab")},
		{text("b"), text("a"), text("ba")},
		{text(""), text(""), text("")},
		{text(""), text("a"), text("a")},
		{longText(api.MaxText), text(""), longText(api.MaxText)},
		{longText(25), longText(35), longText(api.MaxText)},
		{longText(26), longText(35), null},
		{text("a"), longText(api.MaxText), null},
		{text("a"), null, null},
		{null, text("a"), null},
		{null, null, null},
		{num(1), text("a"), null},
		{text("a"), yes, null},
		{api.Val{Kind: api.VText, N: 3, Text: "a"}, api.Val{Kind: api.VText, N: 4, Text: "b"}, text("ab")},
	} {
		check(t, "Join", Join(c.a, c.b), c.want)
	}
}

// Of values that are not right just this is promised, that nothing panics.
func TestNothingPanics(t *testing.T) {
	l := slices.Concat(broken(), rising(), littered())
	for _, a := range l {
		Wrong(a)
		Bare(a)
		Not(a)
		True(a)
		for _, b := range l {
			Compare(a, b)
			Equal(a, b)
			Less(a, b)
			And(a, b)
			Or(a, b)
			Join(a, b)
			Rows([]api.Val{a, b}, []api.Val{b, a})
			for _, sign := range []rune{'+', '-', '*', '/', 0, -1, math.MaxInt32} {
				Reckon(sign, a, b)
			}
		}
	}
	for _, v := range broken() {
		if Wrong(v) == api.OK {
			t.Errorf("%#v is not right, and OK is told", v)
		}
	}
}

// What is answered is right and bare, and the same each time.
func TestAnswers(t *testing.T) {
	l := slices.Concat(rising(), littered())
	answers := func(a, b api.Val) []api.Val {
		return []api.Val{
			Bare(a), Equal(a, b), Less(a, b), And(a, b), Or(a, b), Not(a), Join(a, b),
			Reckon('+', a, b), Reckon('-', a, b), Reckon('*', a, b), Reckon('/', a, b),
		}
	}
	for _, a := range l {
		for _, b := range l {
			first := answers(a, b)
			for _, v := range first {
				if Wrong(v) != api.OK || v != Bare(v) {
					t.Errorf("of %#v and %#v %#v comes", a, b, v)
				}
			}
			if !slices.Equal(first, answers(a, b)) {
				t.Errorf("of %#v and %#v something else comes the second time", a, b)
			}
		}
	}
}
