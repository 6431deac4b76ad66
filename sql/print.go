package sql

import (
	"strconv"
	"strings"

	"tidemark/api"
)

// Print is the text of which Read reads these statements.
func Print(l []api.Stmt) (string, api.Fault) {
	if f := Wrong(l); f.Err != api.OK {
		return "", f
	}
	var p printer
	for _, s := range l {
		p.statement(s)
		if len(p.out) > api.MaxSource {
			return "", api.Fault{Err: api.ErrMuch}
		}
	}
	return string(p.out), api.Fault{}
}

// printer writes words and signs, one blank between.
type printer struct{ out []byte }

func (p *printer) say(l ...string) {
	for _, s := range l {
		if len(p.out) > 0 {
			p.out = append(p.out, ' ')
		}
		p.out = append(p.out, s...)
	}
}

// sayIf says a word, if it is there.
func (p *printer) sayIf(has bool, word string) {
	if has {
		p.say(word)
	}
}

// listed says things, with commas between.
func listed[T any](p *printer, l []T, one func(x T)) {
	for i, x := range l {
		p.sayIf(i > 0, ",")
		one(x)
	}
}

func (p *printer) statement(s api.Stmt) {
	switch s.Kind {
	case api.StTable:
		p.say("create", "table", s.Name, "(")
		listed(p, s.Cols, p.column)
		p.say(")")
	case api.StView:
		p.say("create", "view", s.Name, "as")
		p.query(s.Query)
	case api.StInsert:
		p.say("insert", "into", s.Name, "values")
		listed(p, s.Rows, p.row)
	case api.StDelete:
		p.say("delete", "from", s.Name)
		p.exprBehind("where", s.HasWhere, s.Where)
	case api.StShow:
		p.say("show")
		p.query(s.Query)
	}
	p.say(";")
}

func (p *printer) column(c api.Column) { p.say(c.Name, wordOf(types(), c.Type)) }

func (p *printer) row(l []api.Val) {
	p.say("(")
	listed(p, l, p.value)
	p.say(")")
}

func (p *printer) value(v api.Val) {
	switch v.Kind {
	case api.VNull:
		p.say("null")
	case api.VBool:
		p.say(strconv.FormatBool(v.N == 1))
	case api.VInt:
		p.number(v.N)
	case api.VText:
		p.say("'" + strings.ReplaceAll(v.Text, "'", "''") + "'")
	}
}

func (p *printer) number(n int64) {
	if n < 0 {
		p.say("-")
		n = -n
	}
	p.say(strconv.FormatInt(n, 10))
}

func (p *printer) query(q api.Query) {
	for i, s := range q.Parts {
		if i > 0 {
			p.between(q.Ops[i-1])
		}
		p.selected(s)
	}
	if q.Limit >= 0 {
		p.say("order", "by")
		listed(p, q.Order, p.expr)
		p.say("limit")
		p.number(int64(q.Limit))
	}
}

func (p *printer) between(op int) {
	switch op {
	case api.SetUnionAll, api.SetUnion:
		p.say("union")
	case api.SetExceptAll, api.SetExcept:
		p.say("except")
	}
	p.sayIf(op == api.SetUnionAll || op == api.SetExceptAll, "all")
}

func (p *printer) selected(s api.Select) {
	p.say("select")
	p.sayIf(s.Distinct, "distinct")
	if s.Star {
		p.say("*")
	} else {
		listed(p, s.Items, p.item)
	}
	p.say("from")
	for i, from := range s.From {
		p.source(from, i == 0)
	}
	p.exprBehind("where", s.HasWhere, s.Where)
	if len(s.Group) > 0 {
		p.say("group", "by")
		listed(p, s.Group, p.expr)
	}
	p.exprBehind("having", s.HasHaving, s.Having)
}

func (p *printer) item(i api.Item) {
	p.expr(i.X)
	p.byName(i.As)
}

// byName says the other name of something, if it has one.
func (p *printer) byName(s string) {
	if s != "" {
		p.say("as", s)
	}
}

func (p *printer) source(s api.Source, first bool) {
	if !first {
		p.sayIf(s.Kind != api.FromJoin, wordOf(joins(), s.Kind))
		p.say("join")
	}
	p.say(s.Name)
	p.byName(s.As)
	p.exprBehind("on", !first, s.On)
}

func (p *printer) exprBehind(word string, has bool, x api.SExpr) {
	if has {
		p.say(word)
		p.expr(x)
	}
}

// expr says an expression by itself, which needs no brackets.
func (p *printer) expr(x api.SExpr) { p.exprAt(orLevel, x) }

// exprAt says an expression where those that are weaker than a level need brackets.
func (p *printer) exprAt(level int, x api.SExpr) {
	if levelOf(x.Kind) >= level {
		p.bare(x)
		return
	}
	p.say("(")
	p.bare(x)
	p.say(")")
}

// bare says an expression without brackets around it.
func (p *printer) bare(x api.SExpr) {
	switch x.Kind {
	case api.XLit:
		p.value(x.Val)
	case api.XCol:
		p.columnName(x)
	case api.XNot:
		p.say("not")
		p.exprAt(notLevel, x.Kids[0])
	case api.XIsNull:
		p.exprAt(compareLevel+1, x.Kids[0])
		p.say("is", "null")
	case api.XCase:
		p.say("case")
		p.exprsBehind(x.Kids, "when", "then", "else", "end")
	case api.XCoal:
		p.say("coalesce")
		p.exprsBehind(x.Kids, "(", ",", ")")
	case api.XRows:
		p.say("count", "(", "*", ")")
	case api.XCount, api.XSum, api.XMin, api.XMax:
		p.say(wordOf(aggregates(), x.Kind))
		p.exprsBehind(x.Kids, "(", ")")
	default:
		p.infix(x)
	}
}

func (p *printer) columnName(x api.SExpr) {
	if x.Tab != "" {
		p.say(x.Tab, ".")
	}
	p.say(x.Name)
}

// exprsBehind says expressions, one behind each of these words or signs but the last one, which ends them.
func (p *printer) exprsBehind(l []api.SExpr, around ...string) {
	for i, x := range l {
		p.say(around[i])
		p.expr(x)
	}
	p.say(around[len(l)])
}

// infix says two kids with a sign between; those of a level are read from the left, but a comparison has none beside it.
func (p *printer) infix(x api.SExpr) {
	i := infixOf(x.Kind)
	left := i.level
	if i.level == compareLevel {
		left++
	}
	p.exprAt(left, x.Kids[0])
	p.say(i.sign)
	p.exprAt(i.level+1, x.Kids[1])
}
