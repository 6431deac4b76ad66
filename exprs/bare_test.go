package exprs

import (
	"reflect"
	"testing"

	"tidemark/api"
)

// junked is x, with something in the fields that its kinds have not.
func junked(x api.Expr) api.Expr {
	out := api.Expr{Kind: x.Kind, Val: api.Val{Kind: 99, N: 7, Text: "junk"}, Col: 99}
	switch x.Kind {
	case api.XLit:
		out.Val = x.Val
		switch x.Val.Kind {
		case api.VText:
			out.Val.N = 7
		case api.VNull:
			out.Val.N, out.Val.Text = 7, "junk"
		default:
			out.Val.Text = "junk"
		}
	case api.XCol:
		out.Col = x.Col
	}
	for _, k := range x.Kids {
		out.Kids = append(out.Kids, junked(k))
	}
	return out
}

// scribble writes into all lists of x.
func scribble(x api.Expr) {
	for i := range x.Kids {
		scribble(x.Kids[i])
		x.Kids[i] = api.Expr{Kind: 99}
	}
}

func TestBareIsWhatKindsHave(t *testing.T) {
	for _, x := range []api.Expr{
		col(0), col(2), lit(null), lit(yes), lit(no), lit(num(-7)), lit(text("")), lit(text("a")),
		node(api.XNot, lit(no)),
		node(api.XCat, col(1), lit(text("b"))),
		node(api.XCase, node(api.XIsNull, col(1)), node(api.XCoal, col(0), lit(num(1))), lit(null)),
		nested(lit(null), 19),
		truths(200),
	} {
		given, again := junked(x), junked(x)
		got := Bare(given)
		if !reflect.DeepEqual(got, x) {
			t.Errorf("%#v comes, not %#v", got, x)
		}
		scribble(got)
		if !reflect.DeepEqual(given, again) {
			t.Errorf("%#v shares memory with what was given", x)
		}
	}
}

func TestMovedPlacesColumns(t *testing.T) {
	given := func() api.Expr {
		return node(api.XCase, node(api.XIsNull, col(0)), node(api.XAdd, col(2), lit(num(5))), col(2))
	}
	x := given()
	got := Moved(junked(x), func(col int) int { return 2*col + 1 })
	want := node(api.XCase, node(api.XIsNull, col(1)), node(api.XAdd, col(5), lit(num(5))), col(5))
	if !reflect.DeepEqual(got, want) {
		t.Errorf("%#v comes, not %#v", got, want)
	}
	scribble(got)
	if !reflect.DeepEqual(x, given()) {
		t.Errorf("what was given is changed: %#v", x)
	}
}
