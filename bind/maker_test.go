package bind

import (
	"slices"
	"strconv"

	"tidemark/api"
)

// maker makes things that hang on its state alone.
type maker struct{ state uint64 }

// upTo is a number from 0 on, and less than n.
func (m *maker) upTo(n int) int {
	m.state = m.state*6364136223846793005 + 1442695040888963407
	return int(m.state>>33) % n
}

func pick[T any](m *maker, l ...T) T { return l[m.upTo(len(l))] }

func node1(kind int, kids ...api.SExpr) api.SExpr { return api.SExpr{Kind: kind, Kids: kids} }

// typed is an expression of a type.
type typed struct {
	x    api.SExpr
	kind int
}

// world is what the expressions that a maker makes can be of.
type world struct {
	leaves []typed // columns, or keys
	ahead  *world  // of groups: what aggregates are of
}

func (m *maker) value(kind int) api.Val {
	switch {
	case m.upTo(8) == 0:
		return null
	case kind == boolean:
		return api.Val{Kind: api.VBool, N: int64(m.upTo(2))}
	case kind == integer:
		return num(int64(m.upTo(5) - 1))
	}
	return text(pick(m, "", "x", "y"))
}

// leaf is a column, a key, an aggregate or a value, if there is one of the type.
func (m *maker) leaf(w world, kind int) api.SExpr {
	var l []api.SExpr
	for _, t := range w.leaves {
		if t.kind == kind {
			l = append(l, t.x, t.x)
		}
	}
	l = append(l, api.SExpr{Kind: api.XLit, Val: m.value(kind)})
	if w.ahead != nil {
		l = append(l, node1(pick(m, api.XMin, api.XMax), m.expr(*w.ahead, kind, 2)))
		if kind == integer {
			l = append(l, node1(api.XRows), node1(api.XCount, m.expr(*w.ahead, m.kind(), 2)), node1(api.XSum, m.expr(*w.ahead, integer, 2)))
		}
	}
	return pick(m, l...)
}

func (m *maker) kind() int { return pick(m, boolean, integer, texts) }

func (m *maker) expr(w world, kind, deep int) api.SExpr {
	if deep <= 1 || m.upTo(3) == 0 {
		return m.leaf(w, kind)
	}
	of := func(kind int) api.SExpr { return m.expr(w, kind, deep-1) }
	switch {
	case m.upTo(5) == 0:
		return node1(api.XCase, of(boolean), of(kind), of(kind))
	case m.upTo(5) == 0:
		return node1(api.XCoal, of(kind), of(kind))
	case kind == integer:
		return node1(pick(m, api.XAdd, api.XSub, api.XMul), of(integer), of(integer))
	case kind == texts:
		return node1(api.XCat, of(texts), of(texts))
	}
	other := m.kind()
	return pick(m,
		node1(api.XNot, of(boolean)),
		node1(pick(m, api.XAnd, api.XOr), of(boolean), of(boolean)),
		node1(api.XEq+m.upTo(6), of(other), of(other)),
		node1(api.XIsNull, of(other)))
}

// named are columns, as they can be spoken of: by their names alone, where no other one has them.
func (m *maker) named(l []column, kinds []int) world {
	times := map[string]int{}
	for _, c := range l {
		times[c.name]++
	}
	var out world
	for i, c := range l {
		x := api.SExpr{Kind: api.XCol, Tab: c.of, Name: c.name}
		if times[c.name] == 1 && m.upTo(2) == 0 {
			x.Tab = ""
		}
		out.leaves = append(out.leaves, typed{x, kinds[i]})
	}
	return out
}

// from makes sources, and tells what can be spoken of behind them.
func (m *maker) from(rels []api.Rel) ([]api.Source, world) {
	var l []api.Source
	var cols []column
	var kinds []int
	for i := range 1 + m.upTo(3) {
		r := rels[m.upTo(len(rels))]
		s := api.Source{Kind: api.FromFirst, Name: r.Name}
		if m.upTo(2) == 0 || hasCalled(l, r.Name) {
			s.As = "s" + strconv.Itoa(i)
		}
		all, types := slices.Concat(cols, scopeOf(calledBy(s), r.Cols)), slices.Concat(kinds, typesOf(r.Cols))
		if i > 0 {
			s.Kind = api.FromJoin + m.upTo(4)
			s.On = m.expr(m.named(all, types), boolean, 3)
		}
		if s.Kind != api.FromSemi && s.Kind != api.FromAnti {
			cols, kinds = all, types
		}
		l = append(l, s)
	}
	return l, m.named(cols, kinds)
}

func hasCalled(l []api.Source, name string) bool {
	for _, s := range l {
		if calledBy(s) == name {
			return true
		}
	}
	return false
}

// selected makes a select of columns of these types; those that have a name are q1, q2 and so on.
func (m *maker) selected(rels []api.Rel, kinds []int) api.Select {
	s := api.Select{Distinct: m.upTo(4) == 0}
	var w world
	s.From, w = m.from(rels)
	if m.upTo(2) == 0 {
		s.HasWhere, s.Where = true, m.expr(w, boolean, 3)
	}
	if m.upTo(2) == 0 {
		w = m.grouped(&s, w)
	}
	for i, k := range kinds {
		s.Items = append(s.Items, api.Item{X: m.expr(w, k, 3), As: pick(m, "", "q"+strconv.Itoa(i+1))})
	}
	if w.ahead != nil && m.upTo(2) == 0 {
		s.HasHaving, s.Having = true, m.expr(w, boolean, 3)
	}
	return s
}

// grouped makes keys, and tells what can be spoken of behind them.
func (m *maker) grouped(s *api.Select, w world) world {
	out := world{ahead: &w}
	for range m.upTo(3) {
		kind := m.kind()
		x := m.expr(w, kind, 2)
		s.Group = append(s.Group, x)
		out.leaves = append(out.leaves, typed{x, kind})
	}
	return out
}

func (m *maker) query(rels []api.Rel) api.Query {
	var kinds []int
	for range 1 + m.upTo(3) {
		kinds = append(kinds, m.kind())
	}
	q := api.Query{Parts: []api.Select{m.selected(rels, kinds)}, Limit: -1}
	for range pick(m, 0, 0, 0, 1, 2) {
		q.Ops = append(q.Ops, api.SetUnionAll+m.upTo(4))
		q.Parts = append(q.Parts, m.selected(rels, kinds))
	}
	if m.upTo(3) == 0 {
		m.limited(&q, kinds)
	}
	return q
}

func (m *maker) limited(q *api.Query, kinds []int) {
	var w world
	for i, item := range q.Parts[0].Items {
		if item.As != "" {
			w.leaves = append(w.leaves, typed{api.SExpr{Kind: api.XCol, Name: item.As}, kinds[i]})
		}
	}
	q.Limit = m.upTo(6)
	for range 1 + m.upTo(2) {
		q.Order = append(q.Order, m.expr(w, m.kind(), 2))
	}
}
