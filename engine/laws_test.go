package engine

import (
	"slices"
	"strings"
	"testing"

	"tidemark/api"
	"tidemark/bind"
	"tidemark/exprs"
	"tidemark/keep"
	"tidemark/query"
	"tidemark/sql"
	"tidemark/vals"
	"tidemark/zsets"
)

// plainly is what there is, said once more: rows lie in lists as they came, and views are bound anew from their queries each time.
type plainly struct {
	made []api.Stmt // tables and views
	rows map[string][][]api.Val
}

// rels are those that were made, in their order, and data the rows of the tables.
func (p plainly) rels() (rels []api.Rel, data [][]api.ZRow) {
	for _, s := range p.made {
		if s.Kind == api.StView {
			plan, cols, _ := bind.Query(rels, s.Query)
			rels = append(rels, api.Rel{Name: s.Name, Cols: cols, View: true, Plan: plan})
			continue
		}
		rels = append(rels, api.Rel{Name: s.Name, Cols: s.Cols})
		var z []api.ZRow
		for _, r := range p.rows[s.Name] {
			z = append(z, api.ZRow{Row: r, W: 1})
		}
		z, _ = zsets.Of(z)
		data = append(data, z)
	}
	return rels, data
}

func (p plainly) asked(q api.Query) (cols []api.Column, z []api.ZRow, bound, evaled api.Errno) {
	rels, data := p.rels()
	plan, cols, bound := bind.Query(rels, q)
	if bound == api.OK {
		z, evaled = query.Eval(bind.Tables(rels), plan, data)
	}
	return cols, z, bound, evaled
}

// new1 is what is wrong with one more, of such columns.
func (p plainly) new1(s api.Stmt, cols []api.Column) api.Errno {
	names := map[string]int{}
	for _, c := range cols {
		names[c.Name]++
	}
	tables := 0
	for _, m := range p.made {
		if m.Name == s.Name {
			return api.ErrName
		}
		if m.Kind == api.StTable {
			tables++
		}
	}
	if len(names) < len(cols) {
		return api.ErrName
	}
	if len(p.made) == api.MaxRels || s.Kind == api.StTable && tables == api.MaxTables {
		return api.ErrMany
	}
	return api.OK
}

// play plays a statement, and tells what it shows.
func (p *plainly) play(s api.Stmt) (shown *api.Shown, err api.Errno) {
	switch s.Kind {
	case api.StTable:
		err = p.new1(s, s.Cols)
		p.made = append(p.made, s)
	case api.StView:
		cols, _, bound, evaled := p.asked(s.Query)
		err = firstOf(bound, p.new1(s, cols), evaled)
		p.made = append(p.made, s)
	case api.StInsert, api.StDelete:
		err = p.change(s)
	default:
		cols, z, bound, evaled := p.asked(s.Query)
		shown = &api.Shown{Rows: z}
		for _, c := range cols {
			shown.Cols = append(shown.Cols, c.Name)
		}
		err = firstOf(bound, evaled)
	}
	return shown, err
}

func firstOf(l ...api.Errno) api.Errno {
	for _, err := range l {
		if err != api.OK {
			return err
		}
	}
	return api.OK
}

func (p *plainly) change(s api.Stmt) api.Errno {
	i := slices.IndexFunc(p.made, func(m api.Stmt) bool { return m.Kind == api.StTable && m.Name == s.Name })
	if i < 0 {
		return api.ErrName
	}
	table := api.Rel{Name: s.Name, Cols: p.made[i].Cols}
	cols := bind.Tables([]api.Rel{table})[0]
	if s.Kind == api.StInsert {
		for _, r := range s.Rows {
			if err := exprs.Fits(cols, r); err != api.OK {
				return err
			}
		}
		p.rows[s.Name] = append(p.rows[s.Name], s.Rows...)
		return api.OK
	}
	x := api.Expr{Kind: api.XLit, Val: vals.Bool(true)}
	if s.HasWhere {
		var err api.Errno
		if x, err = bind.Cond(table, s.Where); err != api.OK {
			return err
		}
	}
	if kind, err := exprs.Type(cols, x); err != api.OK || kind != api.VBool && kind != api.VNull {
		return firstOf(err, api.ErrType)
	}
	p.rows[s.Name] = slices.DeleteFunc(p.rows[s.Name], func(r []api.Val) bool {
		v, _ := exprs.Eval(cols, x, r)
		return vals.True(v)
	})
	return api.OK
}

func plainPlay(l []api.Stmt) ([]api.Shown, api.Fault) {
	p := plainly{rows: map[string][][]api.Val{}}
	var out []api.Shown
	for i, s := range l {
		shown, err := p.play(s)
		if err != api.OK {
			return nil, api.Fault{Err: err, At: i}
		}
		if shown != nil {
			shown.At = i
			out = append(out, *shown)
		}
	}
	return out, api.Fault{}
}

// printed is statements as a text.
func printed(l []api.Stmt) string {
	s, _ := sql.Print(l)
	return strings.ReplaceAll(s, "; ", ";\n")
}

// What comes is what comes if nothing is kept but lists of rows and queries, or the same fault.
func TestLawPlayedPlainly(t *testing.T) {
	m := &maker{state: 1}
	faults := map[api.Errno]int{}
	rows, shows := 0, 0
	for range 80 {
		l := read(t, market)
		for len(l) < 30 {
			more := append(slices.Clip(l), read(t, m.statement())...)
			got, f := Play(more)
			want, wantFault := plainPlay(more)
			if f != wantFault || told(got) != told(want) {
				t.Fatalf("%s\nfault %v and\n%s come, not fault %v and\n%s", printed(more), f, toldShown(got), wantFault, toldShown(want))
			}
			faults[f.Err]++
			if f.Err != api.OK {
				continue
			}
			l = more
			if len(got) > 0 {
				shows++
				rows += len(got[len(got)-1].Rows)
			}
		}
	}
	for _, err := range []api.Errno{api.OK, api.ErrName, api.ErrFit, api.ErrType} {
		if faults[err] < 20 {
			t.Errorf("error %d comes %d times", err, faults[err])
		}
	}
	if shows < 300 || rows < 600 {
		t.Errorf("%d shows and %d rows are too few", shows, rows)
	}
}

// What comes behind changes nothing of what was shown, and a fault is told where it is met.
func TestLawWhatWasShownStays(t *testing.T) {
	m := &maker{state: 2}
	for range 60 {
		l := m.program(t, 25)
		all, _ := Play(l)
		for i := range l {
			some, f := Play(l[:i])
			if f != (api.Fault{}) || len(some) > len(all) || told(some) != told(all[:len(some)]) {
				t.Fatalf("%s\nthe first %d: fault %v and %s come", printed(l), i, f, toldShown(some))
			}
			if len(some) < len(all) && all[len(some)].At < i {
				t.Fatalf("%s\nthe first %d don't show what they should", printed(l), i)
			}
			wrong := slices.Insert(slices.Clone(l), i, read(t, "delete from zz;")...)
			checkFaultOf(t, "one of no table", wrong, api.ErrName, i)
		}
	}
}

// lastOf is what is shown last, without its number.
func lastOf(t *testing.T, parts ...any) (string, api.Errno) {
	t.Helper()
	l := joined(t, parts...)
	got, f := Play(l)
	if f.Err != api.OK {
		return "", f.Err
	}
	last := got[len(got)-1]
	if last.At != len(l)-1 {
		t.Errorf("%s\nwhat is shown has the number %d", printed(l), last.At)
	}
	last.At = 0
	return toldShown([]api.Shown{last}), api.OK
}

// A view is its query, whenever it is made.
func TestLawAViewIsItsQuery(t *testing.T) {
	m := &maker{state: 3}
	times := 0
	for range 700 {
		var changes []string
		for range 2 + m.upTo(8) {
			changes = append(changes, m.change("t", "s"))
		}
		q, q2 := m.query("t", "s"), m.query("t", "s", "v")
		want, err := lastOf(t, market, strings.Join(changes, " "), "create view v as "+q+"; show "+q2+";")
		if err != api.OK {
			continue
		}
		times++
		for i := range changes {
			views := []string{"create view v as " + q + ";", "create view w as " + q2 + ";"}
			early := slices.Insert(slices.Clone(changes), i, views...)
			apart := slices.Insert(slices.Insert(slices.Clone(changes), i, views[1]), m.upTo(i+1), views[0])
			for _, l := range [][]string{early, apart} {
				if got, err := lastOf(t, market, strings.Join(l, " "), "show select * from w;"); err != api.OK || got != want {
					t.Fatalf("%s\nerror %d and\n%s come, not\n%s", strings.Join(l, "\n"), err, got, want)
				}
			}
		}
	}
	if times < 400 {
		t.Errorf("%d queries are too few", times)
	}
}

// What is kept of a view is what Keep (chapter 7) tells of its plan.
func TestLawViewsAreKept(t *testing.T) {
	m := &maker{state: 4}
	rels := []api.Rel{}
	for _, s := range read(t, market) {
		rels = append(rels, api.Rel{Name: s.Name, Cols: s.Cols})
	}
	for range 400 {
		q := m.query("t", "s")
		plan, _, _ := bind.Query(rels, read(t, "show "+q+";")[0].Query)
		l := joined(t, market, "create view v as "+q+"; show select * from v;")
		var changes [][][]api.ZRow
		for range 10 {
			insert := read(t, m.insert("t"))[0]
			rows := []api.ZRow{}
			for _, r := range insert.Rows {
				rows = append(rows, api.ZRow{Row: r, W: 1})
			}
			rows, _ = zsets.Of(rows)
			l = joined(t, l, insert, "insert into s values (1, 'x', true); show select * from v;")
			changes = append(changes, [][]api.ZRow{rows, {{Row: read(t, "insert into s values (1, 'x', true);")[0].Rows[0], W: 1}}})
		}
		kept, f := keep.Keep(bind.Tables(rels), plan, make([][]api.ZRow, 2), changes)
		got, f2 := Play(l)
		if f.Err != api.OK || f2.Err != api.OK || len(kept) != len(got) {
			t.Fatalf("%s: faults %v and %v come", q, f, f2)
		}
		for i := range kept {
			if told(kept[i]) != told(got[i].Rows) {
				t.Fatalf("%s, after change %d: %s comes, not %s", q, i, told(got[i].Rows), told(kept[i]))
			}
		}
	}
}

// Rows come in any order, and in as many statements as one likes.
func TestLawInsertsAddUp(t *testing.T) {
	m := &maker{state: 5}
	for range 500 {
		var rows []string
		for range 2 + m.upTo(6) {
			rows = append(rows, m.row())
		}
		show := "show " + m.query("t", "s") + ";"
		want, err := lastOf(t, market, "insert into t values "+strings.Join(rows, ", ")+";", show)
		if err != api.OK {
			t.Fatalf("%s: error %d comes", show, err)
		}
		slices.Reverse(rows)
		at := 1 + m.upTo(len(rows)-1)
		got, err := lastOf(t, market, "insert into t values "+strings.Join(rows[:at], ", ")+"; insert into t values "+strings.Join(rows[at:], ", ")+";", show)
		if err != api.OK || got != want {
			t.Errorf("%v: error %d and %s come, not %s", rows, err, got, want)
		}
	}
}

// Who deletes keeps those of which it is false, or not known; and another table is another one.
func TestLawDeletesAreFilters(t *testing.T) {
	m := &maker{state: 6}
	gone := 0
	for range 1000 {
		rows := m.insert("t") + m.insert("t") + m.insert("s")
		x := m.truth(3)
		want, err := lastOf(t, market, rows, "show select * from t where not "+x+" or "+x+" is null;")
		got, err2 := lastOf(t, market, rows, "delete from t where "+x+"; show select * from t;")
		if err != api.OK || err2 != api.OK || got != want {
			t.Fatalf("%s: errors %d and %d come, and %s, not %s", x, err, err2, got, want)
		}
		before, _ := lastOf(t, market, rows, "show select * from t;")
		if got != before {
			gone++
		}
		other, _ := lastOf(t, market, rows, "show select * from s;")
		if got, _ := lastOf(t, market, rows, "delete from t where "+x+"; show select * from s;"); got != other {
			t.Errorf("%s: of the other table %s comes, not %s", x, got, other)
		}
	}
	if gone < 200 || gone > 900 {
		t.Errorf("%d times something goes", gone)
	}
}

// A list plays as the text does that it is written as.
func TestLawWrittenIsPlayed(t *testing.T) {
	m := &maker{state: 7}
	for range 50 {
		l := m.program(t, 15)
		s, f := sql.Print(l)
		if f.Err != api.OK {
			continue
		}
		got, _ := Play(l)
		checkList(t, s, read(t, s), toldShown(got))
	}
}
