package query

import (
	"reflect"
	"testing"

	"tidemark/api"
)

// junked is p, with something without an end in the fields that its kind has not.
func junked(p api.Plan) api.Plan {
	endless := these(made(api.XNot))
	endless[0].Kids = endless
	out := api.Plan{Kind: p.Kind, N: 99, X: endless[0], Xs: endless, Aggs: []api.Agg{agg(99, endless[0])}}
	switch p.Kind {
	case api.PTable:
		out.N = p.N
	case api.PFilter, api.PJoin, api.PSemi, api.PAnti, api.PLeft:
		out.X = p.X
	case api.PMap:
		out.Xs = p.Xs
	case api.PGroup:
		out.Xs, out.Aggs = p.Xs, nil
		for _, g := range p.Aggs {
			if g.Kind == api.AgRows {
				g.X = endless[0]
			}
			out.Aggs = append(out.Aggs, g)
		}
	case api.PTop:
		out.Xs, out.N = p.Xs, p.N
	}
	for _, k := range p.Kids {
		out.Kids = append(out.Kids, junked(k))
	}
	return out
}

func TestBareIsWhatKindsHave(t *testing.T) {
	less := made(api.XLt, col(0), lit(num(3)))
	for _, g := range []api.Plan{
		table(1),
		by(api.PFilter, less, table(0)),
		mapped(table(0), col(1), less),
		mapped(table(0)),
		by(api.PJoin, same(0, 2), table(0), table(1)),
		by(api.PSemi, same(0, 2), table(0), table(1)),
		by(api.PAnti, same(0, 2), table(0), table(1)),
		by(api.PLeft, same(0, 2), table(0), by(api.PFilter, less, table(1))),
		plan(api.PAdd, table(0), table(0)),
		plan(api.PSub, table(0), plan(api.PDistinct, table(0))),
		plan(api.PPositive, mapped(table(0), less)),
		grouped(table(0), these(col(1)), agg(api.AgRows, api.Expr{}), agg(api.AgMax, made(api.XAdd, col(0), col(0)))),
		top(3, table(0), col(1), less),
	} {
		if got := Bare(junked(g)); !reflect.DeepEqual(got, g) {
			t.Errorf("%#v comes, not %#v", got, g)
		}
	}
}

// scribblePlan writes into all lists of p.
func scribblePlan(p api.Plan) {
	for i := range p.Xs {
		scribbleExpr(&p.Xs[i])
	}
	for i := range p.Aggs {
		scribbleExpr(&p.Aggs[i].X)
		p.Aggs[i].Kind = 99
	}
	scribbleExpr(&p.X)
	for i := range p.Kids {
		scribblePlan(p.Kids[i])
		p.Kids[i] = api.Plan{Kind: 99}
	}
}

func scribbleExpr(x *api.Expr) {
	for i := range x.Kids {
		scribbleExpr(&x.Kids[i])
	}
	x.Kind = 99
}

func TestZ2BareIsNewMemory(t *testing.T) {
	for _, g := range everyKind() {
		given := sparePlan(g.p)
		before := wholePlan(given)
		scribblePlan(Bare(given))
		if !reflect.DeepEqual(wholePlan(given), before) {
			t.Errorf("%#v shares memory with what was given", g.p)
		}
	}
}
