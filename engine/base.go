package engine

import (
	"slices"

	"tidemark/api"
	"tidemark/bind"
	"tidemark/query"
)

// base is what there is so far. Of a view its plan alone is kept, over the tables; it is asked when it is shown, so that it is never behind them.
type base struct {
	rels  []api.Rel
	data  [][]api.ZRow // the rows of each table, in the order of the tables among rels
	shown []api.Shown
}

func (b *base) addTable(name string, cols []api.Column) api.Errno {
	r := api.Rel{Name: name, Cols: cols}
	if err := b.wrongNew(r); err != api.OK {
		return err
	}
	if len(b.data) >= api.MaxTables {
		return api.ErrMany
	}
	b.rels, b.data = append(b.rels, r), append(b.data, nil)
	return api.OK
}

func (b *base) addView(name string, q api.Query) api.Errno {
	p, cols, err := bind.Query(b.rels, q)
	if err != api.OK {
		return err
	}
	r := api.Rel{Name: name, Cols: cols, View: true, Plan: p}
	if err := b.wrongNew(r); err != api.OK {
		return err
	}
	if _, err := b.eval(p); err != api.OK {
		return err
	}
	b.rels = append(b.rels, r)
	return api.OK
}

// wrongNew tells what is wrong with one more table or view, whichever it is.
func (b *base) wrongNew(r api.Rel) api.Errno {
	taken := slices.ContainsFunc(b.rels, func(o api.Rel) bool { return o.Name == r.Name })
	switch {
	case taken || hasTwins(r.Cols):
		return api.ErrName
	case len(b.rels) >= api.MaxRels:
		return api.ErrMany
	}
	return api.OK
}

// hasTwins tells whether two columns have one name.
func hasTwins(cols []api.Column) bool {
	for i, c := range cols {
		if slices.ContainsFunc(cols[:i], func(o api.Column) bool { return o.Name == c.Name }) {
			return true
		}
	}
	return false
}

// eval is what a plan over the tables comes to now.
func (b *base) eval(p api.Plan) ([]api.ZRow, api.Errno) {
	return query.Eval(bind.Tables(b.rels), p, b.data)
}

func (b *base) show(at int, q api.Query) api.Errno {
	p, cols, err := bind.Query(b.rels, q)
	if err != api.OK {
		return err
	}
	rows, err := b.eval(p)
	if err != api.OK {
		return err
	}
	b.shown = append(b.shown, api.Shown{At: at, Cols: namesOf(cols), Rows: rows})
	return api.OK
}

func namesOf(cols []api.Column) []string {
	out := make([]string, len(cols))
	for i, c := range cols {
		out[i] = c.Name
	}
	return out
}
