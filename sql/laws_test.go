package sql

import (
	"slices"
	"strings"
	"testing"

	"tidemark/api"
)

// maker makes things that hang on its state alone.
type maker struct{ state uint64 }

// upTo is a number from 0 on, and less than n.
func (m *maker) upTo(n int) int {
	m.state = m.state*6364136223846793005 + 1442695040888963407
	return int(m.state>>33) % n
}

func pick[T any](m *maker, l ...T) T { return l[m.upTo(len(l))] }

func (m *maker) name() string { return pick(m, "a", "b", "t", "u_1", "_", "abcdefghijkl", "selects") }

// maybe is a name, or none.
func (m *maker) maybe() string { return pick(m, "", m.name()) }

// value is one without blanks, so that a text may be cut at blanks.
func (m *maker) value() api.Val {
	return pick(m, null, yes, no, num(0), num(7), num(-7), num(api.MaxInt), num(-api.MaxInt), text(""), text("a"), text("it's"), text("'"), text(";"), text("("))
}

func (m *maker) leaf() api.SExpr {
	return pick(m, col(m.name()), of(m.name(), m.name()), lit(m.value()), made(api.XRows))
}

func (m *maker) expr(deep int) api.SExpr {
	if deep <= 1 || m.upTo(5) == 0 {
		return m.leaf()
	}
	x := api.SExpr{Kind: api.XNot + m.upTo(api.XMax-api.XNot+1)}
	for range kidsOf(x.Kind) {
		x.Kids = append(x.Kids, m.expr(deep-1))
	}
	return x
}

// many makes 1 to most things.
func many[T any](m *maker, most int, one func() T) []T {
	var out []T
	for range 1 + m.upTo(most) {
		out = append(out, one())
	}
	return out
}

func (m *maker) shallow() api.SExpr { return m.expr(3) }

// maybeExpr is whether there is an expression, and which one.
func (m *maker) maybeExpr() (bool, api.SExpr) {
	if m.upTo(2) == 0 {
		return false, api.SExpr{}
	}
	return true, m.shallow()
}

func (m *maker) selected() api.Select {
	s := api.Select{Distinct: m.upTo(2) == 0, Star: m.upTo(3) == 0, From: []api.Source{{Kind: api.FromFirst, Name: m.name(), As: m.maybe()}}}
	if !s.Star {
		s.Items = many(m, 3, func() api.Item { return api.Item{X: m.shallow(), As: m.maybe()} })
	}
	for range m.upTo(3) {
		s.From = append(s.From, api.Source{Kind: api.FromJoin + m.upTo(4), Name: m.name(), As: m.maybe(), On: m.shallow()})
	}
	s.HasWhere, s.Where = m.maybeExpr()
	if m.upTo(2) == 0 {
		s.Group = many(m, 2, m.shallow)
	}
	s.HasHaving, s.Having = m.maybeExpr()
	return s
}

func (m *maker) query() api.Query {
	q := asked(many(m, 3, m.selected)...)
	for i := range q.Ops {
		q.Ops[i] = 1 + m.upTo(4)
	}
	if m.upTo(2) == 0 {
		q.Order, q.Limit = many(m, 2, m.shallow), m.upTo(api.MaxTop+1)
	}
	return q
}

func (m *maker) statement() api.Stmt {
	s := api.Stmt{Kind: 1 + m.upTo(api.StShow)}
	if s.Kind != api.StShow {
		s.Name = m.name()
	}
	switch s.Kind {
	case api.StTable:
		s.Cols = many(m, api.MaxCols, func() api.Column { return api.Column{Name: m.name(), Type: api.VBool + m.upTo(3)} })
	case api.StInsert:
		s.Rows = many(m, 4, func() []api.Val { return many(m, api.MaxCols, m.value) })
	case api.StDelete:
		s.HasWhere, s.Where = m.maybeExpr()
	default:
		s.Query = m.query()
	}
	return s
}

func (m *maker) statements() []api.Stmt { return many(m, 3, m.statement) }

// What is written is read, and written so again.
func TestLawWrittenIsRead(t *testing.T) {
	m := maker{state: 1}
	for range 5000 {
		l := m.statements()
		s, f := Print(l)
		if f != (api.Fault{}) {
			if f != (api.Fault{Err: api.ErrMuch}) {
				t.Errorf("%v comes of\n%s", f, told(l))
			}
			continue
		}
		checkPrint(t, s, l...)
	}
}

// spaced is a printed text with other blanks between its tokens, none where none is needed.
func spaced(s string, blank func() string) string {
	var out strings.Builder
	ahead := byte(' ')
	inWord := func(c byte) bool { return isLetter(c) || isDigit(c) }
	for i, tok := range strings.Split(s, " ") {
		b := blank()
		glue := inWord(ahead) && inWord(tok[0]) || ahead == '\'' && tok[0] == '\'' || strings.Contains("<>|=", string(ahead)) && strings.Contains(">=|", tok[:1])
		if i > 0 && b == "" && glue {
			b = "\n"
		}
		out.WriteString(b + tok)
		ahead = tok[len(tok)-1]
	}
	return out.String()
}

// Blanks mean nothing.
func TestLawBlanks(t *testing.T) {
	m := maker{state: 2}
	for range 2000 {
		l := stmts(m.statement())
		s, f := Print(l)
		if f != (api.Fault{}) {
			continue
		}
		for _, blanks := range [][]string{{""}, {"\n"}, {"", " ", "\t \n"}} {
			other := spaced(s, func() string { return pick(&m, blanks...) })
			got, f := Read(other)
			if len(other) <= api.MaxSource && (f != (api.Fault{}) || told(got) != told(l)) {
				t.Errorf("%q: %v and\n%s come, not\n%s", other, f, told(got), told(l))
			}
		}
	}
}

// full is an expression with brackets around each part.
func full(x api.SExpr) string {
	signs := map[int]string{api.XOr: "or", api.XAnd: "and", api.XEq: "=", api.XNe: "<>", api.XLt: "<", api.XLe: "<=", api.XGt: ">", api.XGe: ">=", api.XAdd: "+", api.XSub: "-", api.XMul: "*", api.XCat: "||"}
	names := map[int]string{api.XCount: "count", api.XSum: "sum", api.XMin: "min", api.XMax: "max"}
	var kids []string
	for _, k := range x.Kids {
		kids = append(kids, "( "+full(k)+" )")
	}
	switch x.Kind {
	case api.XLit, api.XCol, api.XRows:
		s, _ := Print(stmts(where(x)))
		return strings.TrimSuffix(strings.TrimPrefix(s, "delete from t where "), " ;")
	case api.XNot:
		return "not " + kids[0]
	case api.XIsNull:
		return kids[0] + " is null"
	case api.XCase:
		return "case when " + kids[0] + " then " + kids[1] + " else " + kids[2] + " end"
	case api.XCoal:
		return "coalesce ( " + kids[0] + " , " + kids[1] + " )"
	case api.XCount, api.XSum, api.XMin, api.XMax:
		return names[x.Kind] + " ( " + kids[0] + " )"
	}
	return kids[0] + " " + signs[x.Kind] + " " + kids[1]
}

// pairs are the numbers of the tokens of brackets around expressions, those of what is called by a word left out.
func pairs(l []string) (out [][2]int) {
	var open []int
	for i, s := range l {
		switch s {
		case "(":
			open = append(open, i)
		case ")":
			at := open[len(open)-1]
			open = open[:len(open)-1]
			if !slices.Contains([]string{"coalesce", "count", "sum", "min", "max"}, l[at-1]) {
				out = append(out, [2]int{at, i})
			}
		}
	}
	return out
}

// without is a text without a pair of tokens.
func without(l []string, pair [2]int) string {
	return strings.Join(slices.Concat(l[:pair[0]], l[pair[0]+1:pair[1]], l[pair[1]+1:]), " ")
}

// Brackets around each part change nothing, and each pair that is written is needed.
func TestLawBrackets(t *testing.T) {
	m := maker{state: 3}
	found := 0
	for range 4000 {
		x := m.expr(5)
		if s := "delete from t where " + full(x) + " ;"; len(s) <= api.MaxSource {
			if got, f := Read(s); f != (api.Fault{}) || told(got) != told(stmts(where(x))) {
				t.Errorf("%q: %v and\n%s come", s, f, told(got))
			}
		}
		s, f := Print(stmts(where(x)))
		if f != (api.Fault{}) {
			continue
		}
		l := strings.Split(s, " ")
		for _, p := range pairs(l) {
			found++
			if got, f := Read(without(l, p)); f == (api.Fault{}) && told(got) == told(stmts(where(x))) {
				t.Errorf("%q has more brackets than it needs", s)
			}
		}
	}
	if found < 1000 {
		t.Errorf("there are only %d pairs", found)
	}
}

// What is cut off is missed at the end, wherever it is cut, but behind a statement.
func TestLawCut(t *testing.T) {
	m := maker{state: 4}
	for range 150 {
		l := m.statements()
		s, f := Print(l)
		if f != (api.Fault{}) {
			continue
		}
		toks := strings.Split(s, " ")
		whole := 0
		for i := range toks {
			part := strings.Join(toks[:i], " ")
			if i > 0 && toks[i-1] == ";" {
				whole++
			}
			got, f := Read(part)
			if i == 0 || toks[i-1] == ";" {
				if f != (api.Fault{}) || told(got) != told(l[:whole]) {
					t.Errorf("%q: %v and %s come", part, f, told(got))
				}
			} else if f != (api.Fault{Err: api.ErrForm, At: len(part)}) {
				t.Errorf("%q: %v comes", part, f)
			}
		}
	}
}

// begins are the bytes at which tokens of a printed text begin.
func begins(l []string) []int {
	var out []int
	at := 0
	for _, s := range l {
		out = append(out, at)
		at += len(s) + 1
	}
	return out
}

// soup is tokens that are right by themselves.
func soup() []string {
	return append(strings.Fields(kept+" <> <= >= || < > = + - * ( ) , . ;"), "a", "t", "abcdefghijklm", "0", "7", "51", "9999999999999999", "'a'", "''")
}

// Whatever another token does, nothing is told ahead of it, and nothing hangs on what comes behind what is told.
func TestLawOtherToken(t *testing.T) {
	m := maker{state: 5}
	times := map[api.Errno]int{}
	for range 4000 {
		s, f := Print(m.statements())
		if f != (api.Fault{}) {
			continue
		}
		l := strings.Split(s, " ")
		i := m.upTo(len(l))
		l[i] = pick(&m, soup()...)
		s = strings.Join(l, " ")
		at := begins(l)
		_, f = Read(s)
		times[f.Err]++
		if f == (api.Fault{}) {
			continue
		}
		ahead := at[i]
		if l[i] != "-" && i > 0 && l[i-1] == "-" {
			ahead = at[i-1]
		}
		n := slices.Index(append(at, len(s)), f.At)
		if n < 0 || f.At < ahead {
			t.Errorf("%q, with token %d in it: %v comes", s, i, f)
			continue
		}
		if f.Err == api.ErrForm || f.Err == api.ErrName {
			other := strings.Join(l[:min(n+1, len(l))], " ") + " " + pick(&m, soup()...)
			if _, f2 := Read(other); n < len(l) && f2 != f {
				t.Errorf("%q: %v comes, and of %q %v", s, f, other, f2)
			}
		}
	}
	for _, err := range []api.Errno{api.OK, api.ErrForm, api.ErrName, api.ErrRange} {
		if times[err] == 0 {
			t.Errorf("error %d never comes", err)
		}
	}
}
