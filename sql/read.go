package sql

import (
	"strconv"

	"tidemark/api"
	"tidemark/vals"
)

// reader goes from token to token, and throws a fault where it can't go on.
type reader struct {
	rest []token // the last one is the end, and stays
	open int     // how many expressions, and how many `not`, are open
}

func (r *reader) now() token { return r.rest[0] }

// pass is the token that stands now, and goes on to the next one.
func (r *reader) pass() token {
	t := r.rest[0]
	if t.sort != theEnd {
		r.rest = r.rest[1:]
	}
	return t
}

// fault is one at what comes next.
func (r *reader) fault(err api.Errno) thrown { return fault(err, r.now().at) }

// is tells whether a word or a sign comes next; a text of the same bytes is none.
func (r *reader) is(s string) bool {
	t := r.now()
	return (t.sort == aWord || t.sort == aSign) && t.text == s
}

// took passes a word or a sign, if it comes next, and tells whether it did.
func (r *reader) took(s string) bool {
	if !r.is(s) {
		return false
	}
	r.pass()
	return true
}

// must passes words and signs that can't be missing.
func (r *reader) must(l ...string) {
	for _, s := range l {
		if !r.took(s) {
			panic(r.fault(api.ErrForm))
		}
	}
}

// room asks for room for one more than n.
func (r *reader) room(n, most int) {
	if n >= most {
		panic(r.fault(api.ErrMany))
	}
}

// commas is one thing or more, with commas between.
func commas[T any](r *reader, most int, one func() T) []T {
	out := []T{one()}
	for r.took(",") {
		r.room(len(out), most)
		out = append(out, one())
	}
	return out
}

func (r *reader) name() string {
	t := r.now()
	if t.sort != aWord {
		panic(r.fault(api.ErrForm))
	}
	if !Named(t.text) {
		panic(r.fault(api.ErrName))
	}
	return r.pass().text
}

// byName is the name behind `as`, if there is one.
func (r *reader) byName() string {
	if r.took("as") {
		return r.name()
	}
	return ""
}

// number is a number, perhaps with `-` ahead, that is from least to most.
func (r *reader) number(least, most int64) int64 {
	at, sign := r.now().at, int64(1)
	if r.took("-") {
		sign = -1
	}
	if r.now().sort != aNumber {
		panic(r.fault(api.ErrForm))
	}
	// So few digits are always a number.
	n, _ := strconv.ParseInt(r.pass().text, 10, 64)
	if n *= sign; n < least || n > most {
		panic(fault(api.ErrRange, at))
	}
	return n
}

// beginsValue tells whether what comes next is a value.
func (r *reader) beginsValue() bool {
	sort := r.now().sort
	return sort == aNumber || sort == aText || r.is("-") || r.is("null") || r.is("true") || r.is("false")
}

func (r *reader) value() api.Val {
	switch {
	case r.now().sort == aText:
		return api.Val{Kind: api.VText, Text: r.pass().text}
	case r.took("null"):
		return vals.Null()
	case r.took("true"):
		return vals.Bool(true)
	case r.took("false"):
		return vals.Bool(false)
	}
	return vals.Int(r.number(-api.MaxInt, api.MaxInt))
}

func (r *reader) statements() []api.Stmt {
	var out []api.Stmt
	for r.now().sort != theEnd {
		r.room(len(out), api.MaxStmts)
		out = append(out, r.statement())
		r.must(";")
	}
	return out
}

func (r *reader) statement() api.Stmt {
	switch {
	case r.took("create"):
		return r.created()
	case r.took("insert"):
		return r.inserted()
	case r.took("delete"):
		return r.deleted()
	case r.took("show"):
		return api.Stmt{Kind: api.StShow, Query: r.query()}
	}
	panic(r.fault(api.ErrForm))
}

func (r *reader) created() api.Stmt {
	if r.took("view") {
		s := api.Stmt{Kind: api.StView, Name: r.name()}
		r.must("as")
		s.Query = r.query()
		return s
	}
	r.must("table")
	s := api.Stmt{Kind: api.StTable, Name: r.name()}
	r.must("(")
	s.Cols = commas(r, api.MaxCols, r.column)
	r.must(")")
	return s
}

func (r *reader) column() api.Column {
	return api.Column{Name: r.name(), Type: r.columnType()}
}

func (r *reader) columnType() int {
	for _, t := range types() {
		if r.took(t.word) {
			return t.kind
		}
	}
	panic(r.fault(api.ErrForm))
}

func (r *reader) inserted() api.Stmt {
	r.must("into")
	s := api.Stmt{Kind: api.StInsert, Name: r.name()}
	r.must("values")
	s.Rows = commas(r, api.MaxRows, r.row)
	return s
}

func (r *reader) row() []api.Val {
	r.must("(")
	out := commas(r, api.MaxCols, r.value)
	r.must(")")
	return out
}

func (r *reader) deleted() api.Stmt {
	r.must("from")
	s := api.Stmt{Kind: api.StDelete, Name: r.name()}
	s.HasWhere, s.Where = r.exprBehind("where")
	return s
}

// exprBehind is whether a word comes next, and the expression behind it.
func (r *reader) exprBehind(word string) (bool, api.SExpr) {
	if !r.took(word) {
		return false, api.SExpr{}
	}
	return true, r.expr()
}

func (r *reader) query() api.Query {
	q := api.Query{Parts: []api.Select{r.selected()}, Limit: -1}
	for op := r.between(); op != 0; op = r.between() {
		r.room(len(q.Parts), api.MaxParts)
		q.Ops = append(q.Ops, op)
		q.Parts = append(q.Parts, r.selected())
	}
	if r.took("order") {
		r.must("by")
		q.Order = commas(r, api.MaxCols, r.expr)
		r.must("limit")
		q.Limit = int(r.number(0, api.MaxTop))
	}
	return q
}

// between is what stands between two selects; 0: nothing does.
func (r *reader) between() int {
	switch {
	case r.took("union"):
		return r.ofAll(api.SetUnionAll, api.SetUnion)
	case r.took("except"):
		return r.ofAll(api.SetExceptAll, api.SetExcept)
	}
	return 0
}

func (r *reader) ofAll(all, each int) int {
	if r.took("all") {
		return all
	}
	return each
}

func (r *reader) selected() api.Select {
	r.must("select")
	s := api.Select{Distinct: r.took("distinct"), Star: r.took("*")}
	if !s.Star {
		s.Items = commas(r, api.MaxCols, r.item)
	}
	r.must("from")
	s.From = r.sources()
	s.HasWhere, s.Where = r.exprBehind("where")
	if r.took("group") {
		r.must("by")
		s.Group = commas(r, api.MaxCols, r.expr)
	}
	s.HasHaving, s.Having = r.exprBehind("having")
	return s
}

func (r *reader) item() api.Item { return api.Item{X: r.expr(), As: r.byName()} }

func (r *reader) sources() []api.Source {
	out := []api.Source{r.source(api.FromFirst)}
	for kind := r.joined(); kind != 0; kind = r.joined() {
		r.room(len(out), api.MaxFrom)
		s := r.source(kind)
		r.must("on")
		s.On = r.expr()
		out = append(out, s)
	}
	return out
}

func (r *reader) source(kind int) api.Source {
	return api.Source{Kind: kind, Name: r.name(), As: r.byName()}
}

// joined is how one more source is joined; 0: none is.
func (r *reader) joined() int {
	if r.took("join") {
		return api.FromJoin
	}
	for _, j := range joins() {
		if r.took(j.word) {
			r.must("join")
			return j.kind
		}
	}
	return 0
}
