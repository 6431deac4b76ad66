package journal

import (
	"strings"
	"testing"

	"tidemark/api"
	"tidemark/sql"
)

// maker makes things that hang on its state alone.
type maker struct{ state uint64 }

// upTo is a number from 0 on, and less than n.
func (m *maker) upTo(n int) int {
	m.state = m.state*6364136223846793005 + 1442695040888963407
	return int(m.state>>33) % n
}

func pick[T any](m *maker, l ...T) T { return l[m.upTo(len(l))] }

func (m *maker) name() string { return pick(m, "a", "b", "t", "u_1", "_", "abcdefghijkl", "selects") }

func (m *maker) value() string {
	return pick(m, "null", "true", "false", "0", "7", "- 7", "1000000000000000", "''", "'a'", "'it''s'", "'; ('", "'\x00\n\xff\x1d\x0f'", "'"+strings.Repeat("''", api.MaxText)+"'")
}

func (m *maker) expr(deep int) string {
	if deep == 0 {
		return pick(m, m.name(), m.name()+" . "+m.name(), m.value(), "count ( * )")
	}
	x, y := m.expr(deep-1), m.expr(deep-1)
	return pick(m, x,
		"( "+x+" ) "+pick(m, "or", "and", "=", "<>", "<=", "+", "-", "*", "||")+" ( "+y+" )",
		"not ( "+x+" )",
		"( "+x+" ) is null",
		"coalesce ( "+x+" , "+y+" )",
		"case when "+x+" then "+y+" else null end",
		pick(m, "sum", "max", "count")+" ( "+x+" )")
}

// several makes 1 to most parts, with commas between.
func (m *maker) several(most int, part func() string) string {
	out := part()
	for range m.upTo(most) {
		out += " , " + part()
	}
	return out
}

func (m *maker) selected() string {
	item := func() string { return m.expr(2) + pick(m, "", " as "+m.name()) }
	out := "select " + pick(m, "*", "distinct *", m.several(3, item)) + " from " + m.name()
	for range m.upTo(3) {
		out += pick(m, " join ", " semi join ", " anti join ", " left join ") + m.name() + pick(m, "", " as "+m.name()) + " on " + m.expr(1)
	}
	return out + pick(m, "", " where "+m.expr(2)) + pick(m, "", " group by "+m.expr(1)) + pick(m, "", " having "+m.expr(1))
}

func (m *maker) query() string {
	out := m.selected()
	for range m.upTo(3) {
		out += pick(m, " union all ", " union ", " except all ", " except ") + m.selected()
	}
	return out + pick(m, "", " order by "+m.expr(1)+" limit "+pick(m, "0", "50"))
}

// text makes one of a statement, perhaps with more brackets than are needed.
func (m *maker) text() string {
	row := func() string { return "( " + m.several(api.MaxCols, m.value) + " )" }
	column := func() string { return m.name() + pick(m, " int", " text", " bool") }
	return pick(m,
		"create table "+m.name()+" ( "+m.several(api.MaxCols, column)+" ) ;",
		"create view "+m.name()+" as "+m.query()+" ;",
		"insert into "+m.name()+" values "+m.several(3, row)+" ;",
		"delete from "+m.name()+pick(m, "", " where "+m.expr(3))+" ;",
		"show "+m.query()+" ;")
}

// statements makes fewer than most of them.
func (m *maker) statements(t *testing.T, most int) []api.Stmt {
	t.Helper()
	var out []api.Stmt
	for range m.upTo(most) {
		out = append(out, read(t, m.text())...)
	}
	return out
}

// read is the statements of texts, all of which must be right.
func read(t *testing.T, texts ...string) []api.Stmt {
	t.Helper()
	var out []api.Stmt
	for _, s := range texts {
		l, f := sql.Read(s)
		if f != (api.Fault{}) {
			t.Fatalf("%q: %v comes", s, f)
		}
		out = append(out, l...)
	}
	return out
}
