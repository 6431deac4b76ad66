package bind

import (
	"slices"
	"strconv"
	"testing"

	"tidemark/api"
	"tidemark/exprs"
	"tidemark/query"
	"tidemark/sql"
	"tidemark/vals"
	"tidemark/zsets"
)

// cell is a value that has a name, and line a row of them, that is there so often.
type cell struct {
	of, name string
	val      api.Val
}

type line struct {
	cells []cell
	w     int64
}

// plainly is what a query comes to, said once more by names alone, without a plan: lists of lines are gone through.
type plainly struct {
	names map[string][]string
	sets  map[string][]api.ZRow
}

// lines are those of a table or a view, by what it is called.
func (p plainly) lines(s api.Source) []line {
	var out []line
	for _, r := range p.sets[s.Name] {
		l := line{w: r.W}
		for i, v := range r.Row {
			l.cells = append(l.cells, cell{calledBy(s), p.names[s.Name][i], v})
		}
		out = append(out, l)
	}
	return out
}

// unknown is a line without any value that is known.
func (p plainly) unknown(s api.Source) line {
	out := line{w: 1}
	for _, n := range p.names[s.Name] {
		out.cells = append(out.cells, cell{calledBy(s), n, null})
	}
	return out
}

// reckoned is what x comes to, if its kids come to what kid tells.
func reckoned(x api.SExpr, kid func(x api.SExpr) api.Val) api.Val {
	if x.Kind == api.XLit {
		return x.Val
	}
	e := api.Expr{Kind: x.Kind}
	for _, k := range x.Kids {
		e.Kids = append(e.Kids, lit(kid(k)))
	}
	v, err := exprs.Eval(nil, e, nil)
	if err != api.OK {
		panic("it is not well typed: " + strconv.Itoa(int(err)))
	}
	return v
}

func (l line) value(x api.SExpr) api.Val {
	if x.Kind != api.XCol {
		return reckoned(x, l.value)
	}
	for _, c := range l.cells {
		if c.name == x.Name && (x.Tab == "" || x.Tab == c.of) {
			return c.val
		}
	}
	panic("there is no column " + x.Name)
}

func (l line) values(xs []api.SExpr) []api.Val {
	var out []api.Val
	for _, x := range xs {
		out = append(out, l.value(x))
	}
	return out
}

// group is lines of which the keys come to the same: a key comes to what it does of the first one.
type group []line

func (g group) value(x api.SExpr) api.Val {
	switch x.Kind {
	case api.XCol:
		return g[0].value(x)
	case api.XRows:
		return g.count(func(line) bool { return true })
	case api.XCount:
		return g.count(func(l line) bool { return l.value(x.Kids[0]) != null })
	case api.XSum, api.XMin, api.XMax:
		return g.total(x)
	}
	return reckoned(x, g.value)
}

func (g group) count(counts func(l line) bool) api.Val {
	n := int64(0)
	for _, l := range g {
		if counts(l) {
			n += l.w
		}
	}
	return num(n)
}

func (g group) total(x api.SExpr) api.Val {
	out := null
	for _, l := range g {
		v := l.value(x.Kids[0])
		switch {
		case v == null:
		case x.Kind == api.XSum:
			out = num(out.N + l.w*v.N)
		case out == null || x.Kind == api.XMin && vals.Compare(v, out) < 0 || x.Kind == api.XMax && vals.Compare(v, out) > 0:
			out = v
		}
	}
	return out
}

func (p plainly) joined(ahead []line, s api.Source) []line {
	var out []line
	for _, a := range ahead {
		found := false
		for _, b := range p.lines(s) {
			both := line{cells: slices.Concat(a.cells, b.cells), w: a.w * b.w}
			if !vals.True(both.value(s.On)) {
				continue
			}
			found = true
			if s.Kind == api.FromJoin || s.Kind == api.FromLeft {
				out = append(out, both)
			}
		}
		switch {
		case s.Kind == api.FromSemi && found || s.Kind == api.FromAnti && !found:
			out = append(out, a)
		case s.Kind == api.FromLeft && !found:
			out = append(out, line{cells: slices.Concat(a.cells, p.unknown(s).cells), w: a.w})
		}
	}
	return out
}

func (p plainly) groups(s api.Select, l []line) []group {
	var keys [][]api.Val
	var out []group
	for _, a := range l {
		key := a.values(s.Group)
		i := slices.IndexFunc(keys, func(k []api.Val) bool { return vals.Rows(k, key) == 0 })
		if i < 0 {
			i = len(keys)
			keys, out = append(keys, key), append(out, nil)
		}
		out[i] = append(out[i], a)
	}
	if len(s.Group) == 0 && len(out) == 0 {
		out = append(out, nil)
	}
	return out
}

func (p plainly) selected(s api.Select) []api.ZRow {
	l := p.lines(s.From[0])
	for _, f := range s.From[1:] {
		l = p.joined(l, f)
	}
	if s.HasWhere {
		l = slices.DeleteFunc(l, func(a line) bool { return !vals.True(a.value(s.Where)) })
	}
	var out []api.ZRow
	add := func(w int64, value func(x api.SExpr) api.Val) {
		r := api.ZRow{W: w}
		for _, i := range s.Items {
			r.Row = append(r.Row, value(i.X))
		}
		out = append(out, r)
	}
	if len(s.Group) > 0 || s.HasHaving || slices.ContainsFunc(s.Items, func(i api.Item) bool { return hasAggregate(i.X) }) {
		for _, g := range p.groups(s, l) {
			if !s.HasHaving || vals.True(g.value(s.Having)) {
				add(1, g.value)
			}
		}
	} else {
		for _, a := range l {
			add(a.w, a.value)
		}
	}
	z, _ := zsets.Of(out)
	if s.Distinct {
		z, _ = zsets.Distinct(z)
	}
	return z
}

func (p plainly) query(q api.Query) []api.ZRow {
	z := p.selected(q.Parts[0])
	for i, op := range q.Ops {
		next := p.selected(q.Parts[i+1])
		if op == api.SetExcept {
			z, _ = zsets.Distinct(z)
			next, _ = zsets.Distinct(next)
		}
		switch op {
		case api.SetUnionAll:
			z, _ = zsets.Add(z, next)
		case api.SetUnion:
			z, _ = zsets.Add(z, next)
			z, _ = zsets.Distinct(z)
		default:
			z, _ = zsets.Sub(z, next)
			z, _ = zsets.Positive(z)
		}
	}
	if q.Limit >= 0 {
		return firstOf(q, z)
	}
	return z
}

// firstOf are the first rows, each as often as it is there.
func firstOf(q api.Query, z []api.ZRow) []api.ZRow {
	var l []line
	for _, r := range z {
		a := line{w: 1}
		for i, v := range r.Row {
			a.cells = append(a.cells, cell{name: q.Parts[0].Items[i].As, val: v})
		}
		l = append(l, slices.Repeat([]line{a}, int(r.W))...)
	}
	slices.SortStableFunc(l, func(a, b line) int { return vals.Rows(a.values(q.Order), b.values(q.Order)) })
	var out []api.ZRow
	for _, a := range l[:min(q.Limit, len(l))] {
		r := api.ZRow{W: 1}
		for _, c := range a.cells {
			r.Row = append(r.Row, c.val)
		}
		out = append(out, r)
	}
	out, _ = zsets.Of(out)
	return out
}

// market is two tables with rows, and views, by their queries.
func market(t *testing.T, m *maker) ([]api.Rel, [][]api.ZRow, plainly) {
	rels := []api.Rel{rel("t", "a:int b:text c:bool"), rel("u", "a:int d:int")}
	p := plainly{names: map[string][]string{}, sets: map[string][]api.ZRow{}}
	var data [][]api.ZRow
	for _, r := range rels {
		var z []api.ZRow
		for range 5 {
			row := api.ZRow{W: 1 + int64(m.upTo(2))}
			for _, c := range r.Cols {
				row.Row = append(row.Row, m.value(c.Type))
			}
			z = append(z, row)
		}
		z, _ = zsets.Of(z)
		data = append(data, z)
		p.sets[r.Name] = z
	}
	rels = viewed(t, rels, p, "v", asked(t, "select d as p from u union select a from t"))
	rels = viewed(t, rels, p, "w", asked(t, "select c as k , count ( * ) as n from t group by c"))
	for _, r := range rels {
		p.names[r.Name] = nil
		for _, c := range r.Cols {
			p.names[r.Name] = append(p.names[r.Name], c.Name)
		}
	}
	return rels, data, p
}

// viewed is rels with a view of a query.
func viewed(t *testing.T, rels []api.Rel, p plainly, name string, q api.Query) []api.Rel {
	t.Helper()
	plan, cols, err := Query(rels, q)
	if err != api.OK {
		t.Fatalf("a view: error %d comes", err)
	}
	p.names["t"], p.names["u"] = []string{"a", "b", "c"}, []string{"a", "d"}
	p.sets[name] = p.query(q)
	return append(rels, api.Rel{Name: name, Cols: cols, View: true, Plan: plan})
}

// written is a query as a text.
func written(q api.Query) string {
	s, _ := sql.Print([]api.Stmt{{Kind: api.StShow, Query: q}})
	return s
}

// What a query's plan comes to is what the query says.
func TestLawPlansSayWhatQueriesSay(t *testing.T) {
	m := &maker{state: 1}
	rels, data, p := market(t, m)
	times := map[string]int{}
	for i := range 6000 {
		if i%100 == 0 {
			rels, data, p = market(t, m)
		}
		q := m.query(rels)
		got, cols, err := Query(rels, q)
		if err != api.OK {
			if err != api.ErrMany && err != api.ErrMuch {
				t.Errorf("%s: error %d comes", written(q), err)
			}
			continue
		}
		checkTypes(t, rels, q, got, cols)
		z, err := query.Eval(Tables(rels), got, data)
		if err != api.OK {
			continue
		}
		times["all"]++
		if len(z) > 0 {
			times["rows"]++
		}
		if want := p.query(q); told(z) != told(want) {
			t.Errorf("%s:\n%s comes, not\n%s", written(q), told(z), told(want))
		}
	}
	if times["all"] < 4000 || times["rows"] < 2000 {
		t.Errorf("too few come to something: %v", times)
	}
}

// checkTypes tells whether columns have the names that the first select's items have, and the types that Cols says.
func checkTypes(t *testing.T, rels []api.Rel, q api.Query, p api.Plan, cols []api.Column) {
	t.Helper()
	types, err := query.Cols(Tables(rels), p)
	if err != api.OK || told(types) != told(typesOf(cols)) {
		t.Errorf("%s: error %d and %v come of the plan, not %s", written(q), err, types, told(cols))
	}
	for i, item := range q.Parts[0].Items {
		want := item.As
		if want == "" {
			want = "c" + strconv.Itoa(i+1)
		}
		if item.As == "" && item.X.Kind == api.XCol {
			want = item.X.Name
		}
		if cols[i].Name != want {
			t.Errorf("%s: column %d is called %s, not %s", written(q), i, cols[i].Name, want)
		}
	}
}

// A view is its query.
func TestLawViewsAreTheirQueries(t *testing.T) {
	m := &maker{state: 2}
	rels, _, _ := market(t, m)
	for range 2000 {
		q := m.query(rels)
		p, cols, err := Query(rels, q)
		if err != api.OK {
			continue
		}
		more := append(slices.Clone(rels), api.Rel{Name: "new", Cols: cols, View: true, Plan: p})
		got, gotCols, err := Query(more, asked(t, "select * from new"))
		if err != api.OK || told(got) != told(p) || told(gotCols) != told(cols) {
			t.Errorf("%s: error %d,\n%s and\n%s come, not\n%s and\n%s", written(q), err, told(got), told(gotCols), told(p), told(cols))
		}
	}
}

// recalled is x with other names of sources, which all columns are given.
func recalled(x *api.SExpr, l []api.Source, rels []api.Rel, names []string) {
	if x.Kind == api.XCol {
		for i, s := range l {
			r := rels[slices.IndexFunc(rels, func(r api.Rel) bool { return r.Name == s.Name })]
			has := slices.ContainsFunc(r.Cols, func(c api.Column) bool { return c.Name == x.Name })
			if has && (x.Tab == "" && s.Kind != api.FromSemi && s.Kind != api.FromAnti || x.Tab == calledBy(s)) {
				x.Tab = names[i]
				return
			}
		}
	}
	for i := range x.Kids {
		recalled(&x.Kids[i], l, rels, names)
	}
}

// What sources are called changes nothing, nor whether columns are spoken of by it.
func TestLawNamesMeanNothing(t *testing.T) {
	m := &maker{state: 3}
	rels, _, _ := market(t, m)
	names := []string{"new1", "new2", "new3"}
	for range 3000 {
		q := m.query(rels)
		p, _, err := Query(rels, q)
		other := emptied(q, true)
		for i := range other.Parts {
			s := &other.Parts[i]
			old := slices.Clone(s.From)
			for j := range s.From {
				// On speaks of its own source, even if that is gone behind it.
				behind := slices.Clone(old[:j+1])
				behind[j].Kind = api.FromJoin
				recalled(&s.From[j].On, behind, rels, names)
				s.From[j].As = names[j]
			}
			for j := range s.Items {
				recalled(&s.Items[j].X, old, rels, names)
			}
			for j := range s.Group {
				recalled(&s.Group[j], old, rels, names)
			}
			recalled(&s.Where, old, rels, names)
			recalled(&s.Having, old, rels, names)
		}
		got, _, err2 := Query(rels, other)
		if err != err2 || told(got) != told(p) {
			t.Errorf("%s and %s: errors %d and %d and\n%s and\n%s come", written(q), written(other), err, err2, told(p), told(got))
		}
	}
}

// A query is bound as the text is that it is written as.
func TestLawWrittenIsBound(t *testing.T) {
	m := &maker{state: 4}
	rels, _, _ := market(t, m)
	for range 1000 {
		q := m.query(rels)
		s := written(q)
		if s == "" {
			continue
		}
		l, _ := sql.Read(s)
		p, cols, err := Query(rels, q)
		p2, cols2, err2 := Query(rels, l[0].Query)
		if err != err2 || told(p) != told(p2) || told(cols) != told(cols2) {
			t.Errorf("%s: errors %d and %d and\n%s and\n%s come", s, err, err2, told(p), told(p2))
		}
	}
}

// Cond is what Where is bound to, of one table.
func TestLawCondIsWhere(t *testing.T) {
	m := &maker{state: 5}
	r := rel("t", "a:int b:text c:bool")
	w := m.named(scopeOf(r.Name, r.Cols), typesOf(r.Cols))
	for range 2000 {
		x := m.expr(w, boolean, 4)
		s := api.Select{Star: true, From: []api.Source{{Kind: api.FromFirst, Name: "t"}}, HasWhere: true, Where: x}
		p, _, err := Query([]api.Rel{r}, api.Query{Parts: []api.Select{s}, Limit: -1})
		e, err2 := Cond(r, x)
		if err != api.OK || err2 != api.OK || told(p) != told(by(api.PFilter, e, table(0))) {
			t.Errorf("errors %d and %d, %s and %s come", err, err2, told(p), told(e))
		}
	}
}
