package query

import (
	"slices"

	"tidemark/api"
	"tidemark/exprs"
	"tidemark/ops"
)

// node is a plan that is right, with the types of its columns.
type node struct {
	plan api.Plan
	cols []int
	kids []node
}

// looked is p as a node, if nothing is wrong with it, nor with the tables.
func looked(tables [][]int, p api.Plan) (node, api.Errno) {
	if err := wrongTables(tables); err != api.OK {
		return node{}, err
	}
	l := looker{tables: tables}
	return l.look(p, 1)
}

func wrongTables(tables [][]int) api.Errno {
	if len(tables) > api.MaxTables {
		return api.ErrMany
	}
	for _, cols := range tables {
		if len(cols) > api.MaxCols {
			return api.ErrMany
		}
		for _, c := range cols {
			if c < api.VNull || c > api.VText {
				return api.ErrKind
			}
		}
	}
	return api.OK
}

// looker goes through a plan, and counts its nodes on the way.
type looker struct {
	tables [][]int
	nodes  int
}

func (l *looker) look(p api.Plan, deep int) (node, api.Errno) {
	l.nodes++
	if err := wrongNode(p, l.nodes, deep); err != api.OK {
		return node{}, err
	}
	kids := make([]node, len(p.Kids))
	for i, k := range p.Kids {
		kid, err := l.look(k, deep+1)
		if err != api.OK {
			return node{}, err
		}
		kids[i] = kid
	}
	cols, err := l.colsOf(p, kids)
	if err != api.OK {
		return node{}, err
	}
	return node{plan: p, cols: cols, kids: kids}, api.OK
}

// wrongNode tells what is wrong with a node by itself, so that no kid is looked at that should not be there.
func wrongNode(p api.Plan, nodes, deep int) api.Errno {
	switch {
	case nodes > api.MaxPlan || deep > api.MaxNest:
		return api.ErrMuch
	case p.Kind < api.PTable || p.Kind > api.PTop:
		return api.ErrKind
	case len(p.Kids) != kidsOf(p.Kind):
		return api.ErrMany
	}
	return api.OK
}

// kidsOf is how many kids a kind has.
func kidsOf(kind int) int {
	switch kind {
	case api.PTable:
		return 0
	case api.PJoin, api.PSemi, api.PAnti, api.PLeft, api.PAdd, api.PSub:
		return 2
	}
	return 1
}

// colsOf is the types of a node's columns, if it goes with its kids.
func (l *looker) colsOf(p api.Plan, kids []node) ([]int, api.Errno) {
	switch len(kids) {
	case 0:
		return tableCols(l.tables, p.N)
	case 1:
		return colsOfOne(p, kids[0].cols)
	}
	return colsOfTwo(p, kids[0].cols, kids[1].cols)
}

func tableCols(tables [][]int, n int) ([]int, api.Errno) {
	if n < 0 || n >= len(tables) {
		return nil, api.ErrName
	}
	return tables[n], api.OK
}

// colsOfOne is the types of the columns of a node whose kid has such columns.
func colsOfOne(p api.Plan, cols []int) ([]int, api.Errno) {
	if err := wrongOfOne(p, cols); err != api.OK {
		return nil, err
	}
	switch p.Kind {
	case api.PMap:
		return typesOf(cols, p.Xs), api.OK
	case api.PGroup:
		return slices.Concat(typesOf(cols, p.Xs), totalsOf(cols, p.Aggs)), api.OK
	}
	return cols, api.OK
}

// wrongOfOne tells what is wrong with what a node asks of its kid's columns: where there are no rows, it is all that can be wrong.
func wrongOfOne(p api.Plan, cols []int) (err api.Errno) {
	switch p.Kind {
	case api.PFilter:
		_, err = ops.Filter(cols, p.X, nil)
	case api.PMap:
		_, err = ops.Map(cols, p.Xs, nil)
	case api.PGroup:
		_, err = ops.Group(cols, p.Xs, p.Aggs, nil)
	case api.PTop:
		_, err = ops.Top(cols, p.Xs, p.N, nil)
	}
	return err
}

// typesOf is the types of xs, of which nothing is wrong.
func typesOf(cols []int, xs []api.Expr) []int {
	out := make([]int, len(xs))
	for i, x := range xs {
		out[i], _ = exprs.Type(cols, x)
	}
	return out
}

// totalsOf is the types of what aggregates come to, of which nothing is wrong.
func totalsOf(cols []int, aggs []api.Agg) []int {
	out := make([]int, len(aggs))
	for i, g := range aggs {
		out[i] = api.VInt
		if g.Kind == api.AgMin || g.Kind == api.AgMax {
			out[i], _ = exprs.Type(cols, g.X)
		}
	}
	return out
}

// colsOfTwo is the types of the columns of a node whose kids have such columns.
func colsOfTwo(p api.Plan, left, right []int) ([]int, api.Errno) {
	if p.Kind == api.PAdd || p.Kind == api.PSub {
		return together(left, right)
	}
	// All kinds of pairs ask for the same; without rows, it is all that can be wrong.
	if _, err := ops.Join(left, right, p.X, nil, nil); err != api.OK {
		return nil, err
	}
	if p.Kind == api.PSemi || p.Kind == api.PAnti {
		return left, api.OK
	}
	return slices.Concat(left, right), api.OK
}

// together is the types of what two sets are together, if they go together column by column.
func together(left, right []int) ([]int, api.Errno) {
	if len(left) != len(right) {
		return nil, api.ErrFit
	}
	out := make([]int, len(left))
	for i := range left {
		kind, err := exprs.Together(left[i], right[i])
		if err != api.OK {
			return nil, err
		}
		out[i] = kind
	}
	return out, api.OK
}
