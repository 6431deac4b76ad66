package bind

import (
	"slices"

	"tidemark/api"
	"tidemark/vals"
)

// column is one that can be spoken of: its name, and what its source is called.
type column struct{ of, name string }

// scope is the columns that can be spoken of, by their numbers.
type scope []column

func scopeOf(called string, cols []api.Column) scope {
	var out scope
	for _, c := range cols {
		out = append(out, column{of: called, name: c.Name})
	}
	return out
}

// number is that of the only column that has a name, in a source, if one is given.
func (s scope) number(tab, name string) int {
	found := -1
	for i, c := range s {
		if c.name == name && (tab == "" || c.of == tab) {
			need(found < 0, api.ErrName)
			found = i
		}
	}
	need(found >= 0, api.ErrName)
	return found
}

func numbered(n int) api.Expr { return api.Expr{Kind: api.XCol, Col: n} }

// expr is x as an expression of these columns.
func (s scope) expr(x api.SExpr) api.Expr {
	if x.Kind == api.XCol {
		return numbered(s.number(x.Tab, x.Name))
	}
	need(!isAggregate(x), api.ErrFit)
	return ofKids(x, s.expr)
}

func (s scope) exprs(l []api.SExpr) []api.Expr {
	var out []api.Expr
	for _, x := range l {
		out = append(out, s.expr(x))
	}
	return out
}

// ofKids is x, which is neither a column nor an aggregate, with what its kids are made to.
func ofKids(x api.SExpr, made func(kid api.SExpr) api.Expr) api.Expr {
	out := api.Expr{Kind: x.Kind}
	if x.Kind == api.XLit {
		out.Val = vals.Bare(x.Val)
	}
	for _, k := range x.Kids {
		out.Kids = append(out.Kids, made(k))
	}
	return out
}

// groups are rows that are parted by keys: of these, and of aggregates, expressions can speak, and of nothing else.
type groups struct {
	keys  []api.SExpr
	ahead scope     // the columns ahead of grouping
	aggs  []api.Agg // those that were met so far
}

// expr is x as an expression of groups.
func (g *groups) expr(x api.SExpr) api.Expr {
	if n := g.key(x); n >= 0 {
		return numbered(n)
	}
	need(x.Kind != api.XCol, api.ErrFit)
	if isAggregate(x) {
		return g.aggregate(x)
	}
	return ofKids(x, g.expr)
}

// key is the number of the first key that is the same as x; below 0: there is none.
func (g *groups) key(x api.SExpr) int {
	return slices.IndexFunc(g.keys, func(k api.SExpr) bool { return same(k, x) })
}

// same tells whether two expressions are written alike; whatever stands in fields that their kinds have not, is not looked at.
func same(a, b api.SExpr) bool {
	switch {
	case a.Kind != b.Kind:
		return false
	case a.Kind == api.XLit:
		return vals.Compare(a.Val, b.Val) == 0
	case a.Kind == api.XCol:
		return a.Tab == b.Tab && a.Name == b.Name
	}
	return slices.EqualFunc(a.Kids, b.Kids, same)
}

// aggregate is one more, even if the same one was met before.
func (g *groups) aggregate(x api.SExpr) api.Expr {
	a := api.Agg{Kind: aggregates()[x.Kind]}
	if len(x.Kids) > 0 {
		a.X = g.ahead.expr(x.Kids[0])
	}
	g.aggs = append(g.aggs, a)
	return numbered(len(g.keys) + len(g.aggs) - 1)
}
