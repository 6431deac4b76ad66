package rewrite

import (
	"tidemark/api"
	"tidemark/exprs"
	"tidemark/vals"
)

// sunk is the rows of n of which x is true, asked as early as may be.
func sunk(x api.Expr, n node) node {
	if x.Kind == api.XLit && vals.True(x.Val) {
		return n
	}
	switch n.plan.Kind {
	case api.PFilter:
		return narrowed(x, n)
	case api.PAdd, api.PSub, api.PPositive, api.PDistinct:
		return n.ofKids(sinking(x))
	case api.PSemi, api.PAnti:
		return n.ofKid(0, sinking(x))
	case api.PJoin:
		return sunkJoin(x, n)
	}
	return filtered(x, n)
}

// sinking is what sinks x into a kid.
func sinking(x api.Expr) func(kid node) node {
	return func(kid node) node { return sunk(x, kid) }
}

// sunkJoin is the rows of a PJoin of which x is true: the kid is asked that has all columns x speaks of.
func sunkJoin(x api.Expr, n node) node {
	ahead := len(n.kids[0].cols)
	first, second := sides(x, ahead)
	switch {
	case !second:
		return n.ofKid(0, sinking(x))
	case !first:
		moved := exprs.Moved(x, func(col int) int { return col - ahead })
		return n.ofKid(1, sinking(moved))
	}
	return narrowed(x, n)
}

// sides tells whether x speaks of one of so many columns ahead, and of one behind them.
func sides(x api.Expr, ahead int) (first, second bool) {
	eachCol(x, func(col int) {
		if col < ahead {
			first = true
		} else {
			second = true
		}
	})
	return first, second
}

// narrowed is n with x beside its own condition, or, if both are too large together, behind n.
func narrowed(x api.Expr, n node) node {
	both := api.Expr{Kind: api.XAnd, Kids: []api.Expr{n.plan.X, x}}
	if _, err := exprs.Type(n.cols, both); err != api.OK {
		return filtered(x, n)
	}
	n.plan.X = both
	return n
}

// filtered is a PFilter of n by x.
func filtered(x api.Expr, n node) node {
	return node{plan: api.Plan{Kind: api.PFilter, X: x}, cols: n.cols, kids: []node{n}}
}
