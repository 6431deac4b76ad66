package query

import (
	"tidemark/api"
	"tidemark/exprs"
)

// Bare is p, of which nothing is wrong, in new memory. What a kind has not is left out, and not even looked at: anything may stand there.
func Bare(p api.Plan) api.Plan {
	out := api.Plan{Kind: p.Kind}
	switch p.Kind {
	case api.PTable:
		out.N = p.N
	case api.PFilter, api.PJoin, api.PSemi, api.PAnti, api.PLeft:
		out.X = exprs.Bare(p.X)
	case api.PMap:
		out.Xs = bareExprs(p.Xs)
	case api.PGroup:
		out.Xs, out.Aggs = bareExprs(p.Xs), bareAggs(p.Aggs)
	case api.PTop:
		out.Xs, out.N = bareExprs(p.Xs), p.N
	}
	for _, k := range p.Kids {
		out.Kids = append(out.Kids, Bare(k))
	}
	return out
}

func bareExprs(xs []api.Expr) []api.Expr {
	var out []api.Expr
	for _, x := range xs {
		out = append(out, exprs.Bare(x))
	}
	return out
}

func bareAggs(aggs []api.Agg) []api.Agg {
	var out []api.Agg
	for _, g := range aggs {
		bare := api.Agg{Kind: g.Kind}
		if g.Kind != api.AgRows {
			bare.X = exprs.Bare(g.X)
		}
		out = append(out, bare)
	}
	return out
}
