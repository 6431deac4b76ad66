package sql

import (
	"tidemark/api"
	"tidemark/exprs"
	"tidemark/vals"
)

// Wrong is what is wrong with statements, and with which one.
func Wrong(l []api.Stmt) api.Fault {
	return caught(func() {
		checker{}.count(len(l), 0, api.MaxStmts)
		for i, s := range l {
			checker{at: i}.statement(s)
		}
	})
}

// checker looks through a statement, and throws what is wrong with it at its number.
type checker struct{ at int }

func (c checker) need(holds bool, err api.Errno) {
	if !holds {
		panic(fault(err, c.at))
	}
}

func (c checker) count(n, least, most int) { c.need(least <= n && n <= most, api.ErrMany) }

func (c checker) name(s string) { c.need(Named(s), api.ErrName) }

// maybeName is a name that need not be there.
func (c checker) maybeName(s string) {
	if s != "" {
		c.name(s)
	}
}

func (c checker) value(v api.Val) {
	err := vals.Wrong(v)
	c.need(err == api.OK, err)
}

func (c checker) statement(s api.Stmt) {
	c.need(api.StTable <= s.Kind && s.Kind <= api.StShow, api.ErrKind)
	if s.Kind != api.StShow {
		c.name(s.Name)
	}
	switch s.Kind {
	case api.StTable:
		c.columns(s.Cols)
	case api.StInsert:
		c.rows(s.Rows)
	case api.StDelete:
		c.exprIf(s.HasWhere, s.Where)
	default:
		c.query(s.Query)
	}
}

func (c checker) columns(l []api.Column) {
	c.count(len(l), 1, api.MaxCols)
	for _, col := range l {
		c.name(col.Name)
		c.need(wordOf(types(), col.Type) != "", api.ErrKind)
	}
}

func (c checker) rows(l [][]api.Val) {
	c.count(len(l), 1, api.MaxRows)
	for _, row := range l {
		c.count(len(row), 1, api.MaxCols)
		for _, v := range row {
			c.value(v)
		}
	}
}

func (c checker) query(q api.Query) {
	c.count(len(q.Parts), 1, api.MaxParts)
	c.count(len(q.Ops), len(q.Parts)-1, len(q.Parts)-1)
	if q.Limit >= 0 {
		c.count(len(q.Order), 1, api.MaxCols)
	}
	c.need(q.Limit <= api.MaxTop, api.ErrRange)
	for i, s := range q.Parts {
		if i > 0 {
			op := q.Ops[i-1]
			c.need(api.SetUnionAll <= op && op <= api.SetExcept, api.ErrKind)
		}
		c.selected(s)
	}
	if q.Limit >= 0 {
		c.exprs(q.Order)
	}
}

func (c checker) selected(s api.Select) {
	c.count(len(s.From), 1, api.MaxFrom)
	c.count(len(s.Group), 0, api.MaxCols)
	if !s.Star {
		c.items(s.Items)
	}
	for i, from := range s.From {
		c.source(from, i == 0)
	}
	c.exprIf(s.HasWhere, s.Where)
	c.exprs(s.Group)
	c.exprIf(s.HasHaving, s.Having)
}

func (c checker) items(l []api.Item) {
	c.count(len(l), 1, api.MaxCols)
	for _, item := range l {
		c.expr(item.X)
		c.maybeName(item.As)
	}
}

func (c checker) source(s api.Source, first bool) {
	if first {
		c.need(s.Kind == api.FromFirst, api.ErrKind)
	} else {
		c.need(api.FromJoin <= s.Kind && s.Kind <= api.FromLeft, api.ErrKind)
	}
	c.name(s.Name)
	c.maybeName(s.As)
	c.exprIf(!first, s.On)
}

func (c checker) exprs(l []api.SExpr) {
	for _, x := range l {
		c.expr(x)
	}
}

func (c checker) exprIf(has bool, x api.SExpr) {
	if has {
		c.expr(x)
	}
}

func (c checker) expr(x api.SExpr) {
	nodes := 0
	c.node(x, 1, &nodes)
}

// node looks at x ahead of its kids, and so deep at most that it ends, whatever it is given; nodes are those so far.
func (c checker) node(x api.SExpr, deep int, nodes *int) {
	*nodes++
	c.need(*nodes <= api.MaxNodes && deep <= api.MaxDeep, api.ErrMuch)
	c.need(api.XLit <= x.Kind && x.Kind <= api.XMax, api.ErrKind)
	c.need(len(x.Kids) == kidsOf(x.Kind), api.ErrMany)
	switch x.Kind {
	case api.XLit:
		c.value(x.Val)
	case api.XCol:
		c.name(x.Name)
		c.maybeName(x.Tab)
	}
	for _, k := range x.Kids {
		c.node(k, deep+1, nodes)
	}
}

// kidsOf is how many kids a kind has, aggregates among them.
func kidsOf(kind int) int {
	switch kind {
	case api.XRows:
		return 0
	case api.XCount, api.XSum, api.XMin, api.XMax:
		return 1
	}
	return exprs.KidsOf(kind)
}
