package bind

import (
	"slices"
	"strconv"

	"tidemark/api"
)

// part is a plan, and its columns' names.
type part struct {
	plan  api.Plan
	names []string
}

func (b binder) query(q api.Query) part {
	all := b.selected(q.Parts[0])
	for i, op := range q.Ops {
		all.plan = together(op, all.plan, b.selected(q.Parts[i+1]).plan)
	}
	if q.Limit >= 0 {
		all.plan = over(api.Plan{Kind: api.PTop, N: q.Limit, Xs: ordering(all.names).exprs(q.Order)}, all.plan)
	}
	return all
}

// over is p, with kids.
func over(p api.Plan, kids ...api.Plan) api.Plan {
	p.Kids = kids
	return p
}

func node(kind int, kids ...api.Plan) api.Plan { return over(api.Plan{Kind: kind}, kids...) }

func filtered(x api.Expr, p api.Plan) api.Plan { return over(api.Plan{Kind: api.PFilter, X: x}, p) }

func mapped(xs []api.Expr, p api.Plan) api.Plan { return over(api.Plan{Kind: api.PMap, Xs: xs}, p) }

// together is what is ahead and the next one, by what stands between them.
func together(op int, ahead, next api.Plan) api.Plan {
	switch op {
	case api.SetUnionAll:
		return node(api.PAdd, ahead, next)
	case api.SetUnion:
		return node(api.PDistinct, node(api.PAdd, ahead, next))
	case api.SetExcept:
		ahead, next = node(api.PDistinct, ahead), node(api.PDistinct, next)
	}
	return node(api.PPositive, node(api.PSub, ahead, next))
}

// ordering is what can be spoken of behind all selects: names, which are no source's.
func ordering(names []string) scope {
	var out scope
	for _, n := range names {
		out = append(out, column{name: n})
	}
	return out
}

func (b binder) selected(s api.Select) part {
	plan, known := b.from(s.From)
	if s.HasWhere {
		plan = filtered(known.expr(s.Where), plan)
	}
	switch {
	case isGrouped(s):
		plan = grouped(s, plan, known)
	case !s.Star:
		plan = mapped(itemsOf(s.Items, known.expr), plan)
	}
	if s.Distinct {
		plan = node(api.PDistinct, plan)
	}
	return part{plan: plan, names: namesOf(s, known)}
}

// isGrouped tells whether a select speaks of groups; where there is Star, there are no items.
func isGrouped(s api.Select) bool {
	inItem := func(i api.Item) bool { return hasAggregate(i.X) }
	return len(s.Group) > 0 || s.HasHaving || !s.Star && slices.ContainsFunc(s.Items, inItem)
}

func grouped(s api.Select, plan api.Plan, known scope) api.Plan {
	need(!s.Star, api.ErrFit)
	keys := known.exprs(s.Group)
	g := groups{keys: s.Group, ahead: known}
	// The items' aggregates are numbered ahead of Having's, though their plan stands above it.
	items := itemsOf(s.Items, g.expr)
	var having api.Expr
	if s.HasHaving {
		having = g.expr(s.Having)
	}
	plan = over(api.Plan{Kind: api.PGroup, Xs: keys, Aggs: g.aggs}, plan)
	if s.HasHaving {
		plan = filtered(having, plan)
	}
	return mapped(items, plan)
}

func itemsOf(l []api.Item, made func(x api.SExpr) api.Expr) []api.Expr {
	var out []api.Expr
	for _, i := range l {
		out = append(out, made(i.X))
	}
	return out
}

// namesOf are the names of a select's columns, where these can be spoken of.
func namesOf(s api.Select, known scope) []string {
	var out []string
	if s.Star {
		for _, c := range known {
			out = append(out, c.name)
		}
		return out
	}
	for i, item := range s.Items {
		out = append(out, nameOf(item, i+1))
	}
	return out
}

// nameOf is the name of an item, which is the n-th one.
func nameOf(item api.Item, n int) string {
	switch {
	case item.As != "":
		return item.As
	case item.X.Kind == api.XCol:
		return item.X.Name
	}
	return "c" + strconv.Itoa(n)
}
