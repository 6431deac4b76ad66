package rewrite

import (
	"tidemark/api"
	"tidemark/query"
)

// written is n as a plan in new memory, with what its kinds have alone.
func (n node) written() api.Plan { return query.Bare(n.whole()) }

// whole is n as a plan, which shares its expressions with other nodes.
func (n node) whole() api.Plan {
	p := n.plan
	p.Kids = make([]api.Plan, len(n.kids))
	for i, k := range n.kids {
		p.Kids[i] = k.whole()
	}
	return p
}

// eachCol has each column seen that x speaks of.
func eachCol(x api.Expr, see func(col int)) {
	if x.Kind == api.XCol {
		see(x.Col)
	}
	for _, k := range x.Kids {
		eachCol(k, see)
	}
}
