package engine

import (
	"tidemark/api"
	"tidemark/bind"
	"tidemark/exprs"
	"tidemark/ops"
	"tidemark/zsets"
)

// table is a table, the types of its columns, and its rows.
type table struct {
	rel   api.Rel
	types []int
	rows  []api.ZRow
}

// change gives a table the rows that are made of it.
func (b *base) change(name string, made func(t table) ([]api.ZRow, api.Errno)) api.Errno {
	n := 0
	for _, r := range b.rels {
		if r.View {
			continue
		}
		if r.Name == name {
			rows, err := made(table{rel: r, types: bind.Tables(b.rels)[n], rows: b.data[n]})
			if err == api.OK {
				b.data[n] = rows
			}
			return err
		}
		n++
	}
	return api.ErrName
}

func (b *base) insert(name string, rows [][]api.Val) api.Errno {
	return b.change(name, func(t table) ([]api.ZRow, api.Errno) {
		more, err := t.setOf(rows)
		if err != api.OK {
			return nil, err
		}
		return zsets.Add(t.rows, more)
	})
}

// setOf is the set of rows, each once, if they fit the table.
func (t table) setOf(rows [][]api.Val) ([]api.ZRow, api.Errno) {
	l := make([]api.ZRow, len(rows))
	for i, row := range rows {
		if err := exprs.Fits(t.types, row); err != api.OK {
			return nil, err
		}
		l[i] = api.ZRow{Row: row, W: 1}
	}
	return zsets.Of(l)
}

func (b *base) remove(s api.Stmt) api.Errno {
	return b.change(s.Name, func(t table) ([]api.ZRow, api.Errno) {
		if !s.HasWhere {
			return nil, api.OK
		}
		gone, err := t.where(s.Where)
		if err != api.OK {
			return nil, err
		}
		return zsets.Sub(t.rows, gone)
	})
}

// where is the table's rows of which x is true.
func (t table) where(x api.SExpr) ([]api.ZRow, api.Errno) {
	e, err := bind.Cond(t.rel, x)
	if err != api.OK {
		return nil, err
	}
	return ops.Filter(t.types, e, t.rows)
}
