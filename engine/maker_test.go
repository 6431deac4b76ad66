package engine

import (
	"strconv"
	"strings"
	"testing"

	"tidemark/api"
)

// maker makes things that hang on its state alone.
type maker struct{ state uint64 }

// upTo is a number from 0 on, and less than n.
func (m *maker) upTo(n int) int {
	m.state = m.state*6364136223846793005 + 1442695040888963407
	return int(m.state>>33) % n
}

func pick[T any](m *maker, l ...T) T { return l[m.upTo(len(l))] }

// market is two tables; s has columns as t.
const market = "create table t (a int, b text, c bool); create table s (a int, b text, c bool); "

// number, word and truth are expressions of the columns a, b and c.
func (m *maker) number(deep int) string {
	if deep == 0 {
		return pick(m, "a", "a", "null", strconv.Itoa(m.upTo(4)-1))
	}
	x, y := m.number(deep-1), m.number(deep-1)
	return pick(m, x, "("+x+pick(m, " + ", " - ", " * ")+y+")", "coalesce("+x+", "+y+")", "case when "+m.truth(deep-1)+" then "+x+" else "+y+" end")
}

func (m *maker) word(deep int) string {
	if deep == 0 {
		return pick(m, "b", "b", "null", "'x'", "''")
	}
	x, y := m.word(deep-1), m.word(deep-1)
	return pick(m, x, "("+x+" || "+y+")", "coalesce("+x+", "+y+")")
}

func (m *maker) truth(deep int) string {
	if deep == 0 {
		return pick(m, "c", "c", "true", "false", "null")
	}
	sign := pick(m, " = ", " <> ", " < ", " <= ", " > ", " >= ")
	return pick(m,
		"("+m.number(deep-1)+sign+m.number(deep-1)+")",
		"("+m.word(deep-1)+sign+m.word(deep-1)+")",
		"("+m.truth(deep-1)+pick(m, " and ", " or ")+m.truth(deep-1)+")",
		"(not "+m.truth(deep-1)+")",
		"("+m.number(deep-1)+" is null)")
}

// selected makes a select of the columns a, b and c, of something that has them.
func (m *maker) selected(of ...string) string {
	one, other := pick(m, of...), pick(m, of...)
	as := " from " + one
	where := pick(m, "", " where "+m.truth(2))
	items := m.number(1) + " as a, " + m.word(1) + " as b, " + m.truth(1) + " as c"
	on := " on x.a = y.a " + pick(m, "", "and x.b = y.b", "or y.c")
	return "select " + pick(m,
		"*"+as+where,
		pick(m, "", "distinct ")+items+as+where,
		"a, max(b) as b, count(*) > 1 as c"+as+where+" group by a"+pick(m, "", " having sum(a) > 0 or a is null"),
		"sum(a) as a, min(b) as b, count(c) = 2 as c"+as+where,
		"x.a as a, y.b as b, x.c and y.c as c"+as+" as x"+pick(m, " join ", " left join ")+other+" as y"+on,
		"*"+as+" as x"+pick(m, " semi join ", " anti join ")+other+" as y"+on)
}

// query makes a query of such columns.
func (m *maker) query(of ...string) string {
	s := m.selected(of...)
	for range pick(m, 0, 0, 0, 1, 2) {
		s += pick(m, " union all ", " union ", " except all ", " except ") + m.selected(of...)
	}
	return s + pick(m, "", "", " order by a, b limit "+strconv.Itoa(m.upTo(5)))
}

func (m *maker) row() string {
	return "(" + pick(m, "null", "0", "1", "2", "-1") + ", " + pick(m, "null", "''", "'x'", "'y'") + ", " + pick(m, "null", "true", "false") + ")"
}

func (m *maker) insert(into string) string {
	rows := []string{m.row()}
	for range m.upTo(4) {
		rows = append(rows, m.row())
	}
	return "insert into " + into + " values " + strings.Join(rows, ", ") + ";"
}

// change makes an insert, or now and then a delete.
func (m *maker) change(tables ...string) string {
	of := pick(m, tables...)
	if m.upTo(3) > 0 {
		return m.insert(of)
	}
	return pick(m, "delete from "+of+" where "+m.truth(2)+";", "delete from "+of+" where "+m.truth(1)+";", "delete from "+of+";")
}

// statement makes any, which may be wrong: names are few.
func (m *maker) statement() string {
	name := func() string { return pick(m, "t", "t", "s", "s", "v", "w", "x", "q") }
	switch m.upTo(12) {
	case 0:
		return "create table " + name() + " (a int, b text, " + pick(m, "c", "c", "c", "a") + " bool);"
	case 1, 2:
		return "create view " + name() + " as " + m.query(name(), name()) + ";"
	case 3:
		return "insert into " + name() + " values " + pick(m, "(1)", "(1, 2, 3)", m.row()+", (1, 'x', true, 1)") + ";"
	case 4:
		return "delete from " + name() + " where " + pick(m, "b", "z", "a = b", "count(*) = 1", name()+".c") + ";"
	case 5, 6, 7:
		return "show " + m.query(name(), name()) + ";"
	}
	return m.change(name())
}

// program makes statements that play without a fault; some of them show something.
func (m *maker) program(t *testing.T, n int) []api.Stmt {
	t.Helper()
	l := read(t, market)
	for len(l) < n {
		more := append(l, read(t, m.statement())...)
		if _, f := Play(more); f.Err == api.OK {
			l = more
		}
	}
	return l
}
