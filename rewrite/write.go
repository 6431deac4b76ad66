package rewrite

import (
	"tidemark/api"
	"tidemark/vals"
)

// written is n as a plan in new memory. What a kind has not is left out, and not even looked at: anything may stand there.
func (n node) written() api.Plan {
	out := api.Plan{Kind: n.plan.Kind}
	switch n.plan.Kind {
	case api.PTable:
		out.N = n.plan.N
	case api.PFilter, api.PJoin, api.PSemi, api.PAnti, api.PLeft:
		out.X = copied(n.plan.X, stay)
	case api.PMap:
		out.Xs = copiedAll(n.plan.Xs)
	case api.PGroup:
		out.Xs, out.Aggs = copiedAll(n.plan.Xs), copiedAggs(n.plan.Aggs)
	case api.PTop:
		out.Xs, out.N = copiedAll(n.plan.Xs), n.plan.N
	}
	for _, k := range n.kids {
		out.Kids = append(out.Kids, k.written())
	}
	return out
}

func copiedAll(xs []api.Expr) []api.Expr {
	var out []api.Expr
	for _, x := range xs {
		out = append(out, copied(x, stay))
	}
	return out
}

func copiedAggs(aggs []api.Agg) []api.Agg {
	var out []api.Agg
	for _, g := range aggs {
		bare := api.Agg{Kind: g.Kind}
		if g.Kind != api.AgRows {
			bare.X = copied(g.X, stay)
		}
		out = append(out, bare)
	}
	return out
}

// copied is x in new memory, with what its kinds have alone, and with its columns where place says.
func copied(x api.Expr, place func(col int) int) api.Expr {
	out := api.Expr{Kind: x.Kind}
	switch x.Kind {
	case api.XLit:
		out.Val = vals.Bare(x.Val)
	case api.XCol:
		out.Col = place(x.Col)
	}
	for _, k := range x.Kids {
		out.Kids = append(out.Kids, copied(k, place))
	}
	return out
}

// stay leaves a column where it is.
func stay(col int) int { return col }

// eachCol has each column seen that x speaks of.
func eachCol(x api.Expr, see func(col int)) {
	if x.Kind == api.XCol {
		see(x.Col)
	}
	for _, k := range x.Kids {
		eachCol(k, see)
	}
}
