package bind

import (
	"slices"

	"tidemark/api"
	"tidemark/query"
)

// binder knows what has a name.
type binder struct {
	rels   []api.Rel
	tables [][]int
}

// source is what of a source counts: its plan, and its columns.
type source struct {
	plan  api.Plan
	known scope
}

// from is all sources as one plan, and the columns that can be spoken of behind them.
func (b binder) from(l []api.Source) (api.Plan, scope) {
	var all source
	var taken []string
	for i, s := range l {
		rel := b.rel(s.Name)
		called := calledBy(s)
		need(!slices.Contains(taken, called), api.ErrName)
		taken = append(taken, called)
		next := source{plan: b.planOf(rel), known: scopeOf(called, b.rels[rel].Cols)}
		if i == 0 {
			all = next
		} else {
			all = joined(all, next, s)
		}
	}
	return all.plan, all.known
}

// rel is the number of the table or view that has a name.
func (b binder) rel(name string) int {
	n := slices.IndexFunc(b.rels, func(r api.Rel) bool { return r.Name == name })
	need(n >= 0, api.ErrName)
	return n
}

func calledBy(s api.Source) string {
	if s.As != "" {
		return s.As
	}
	return s.Name
}

// planOf is the plan of a table, or a view. A view that is not as it should be is thrown out here, since its plan may have no end, and its columns no names.
func (b binder) planOf(rel int) api.Plan {
	r := b.rels[rel]
	if !r.View {
		return api.Plan{Kind: api.PTable, N: len(Tables(b.rels[:rel]))}
	}
	cols, err := query.Cols(b.tables, r.Plan)
	must(err)
	need(len(cols) == len(r.Cols), api.ErrFit)
	return query.Bare(r.Plan)
}

// joined is what is ahead with one more source. Its On can speak of all columns, and what comes behind can't, where the plan has lost some.
func joined(ahead, next source, s api.Source) source {
	all := slices.Concat(ahead.known, next.known)
	plan := over(api.Plan{Kind: joins()[s.Kind], X: all.expr(s.On)}, ahead.plan, next.plan)
	if s.Kind == api.FromSemi || s.Kind == api.FromAnti {
		return source{plan: plan, known: ahead.known}
	}
	return source{plan: plan, known: all}
}
