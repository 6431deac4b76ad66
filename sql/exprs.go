package sql

import "tidemark/api"

func node(kind int, kids ...api.SExpr) api.SExpr { return api.SExpr{Kind: kind, Kids: kids} }

// expr is an expression by itself, in brackets, or as a part of a piece.
func (r *reader) expr() api.SExpr {
	return r.within(func() api.SExpr { return r.chain(orLevel) })
}

// within reads what opens one more, which is left again however the reading ends.
func (r *reader) within(read func() api.SExpr) api.SExpr {
	r.open++
	defer func() { r.open-- }()
	if r.open > api.MaxOpen {
		panic(r.fault(api.ErrMuch))
	}
	return read()
}

// level is an expression of a level, or a stronger one; comparisons have no level of their own here: they stand right below `not`.
func (r *reader) level(level int) api.SExpr {
	switch level {
	case notLevel:
		return r.denied()
	case pieceLevel:
		return r.piece()
	}
	return r.chain(level)
}

// chain is stronger ones with signs of a level between, from the left.
func (r *reader) chain(level int) api.SExpr {
	x := r.level(level + 1)
	for kind := r.sign(level); kind != 0; kind = r.sign(level) {
		x = node(kind, x, r.level(level+1))
	}
	return x
}

// sign passes a sign of a level, and tells its kind; 0: none comes next.
func (r *reader) sign(level int) int {
	for _, i := range infixes {
		if i.level == level && r.took(i.sign) {
			return i.kind
		}
	}
	return 0
}

func (r *reader) denied() api.SExpr {
	if r.took("not") {
		return node(api.XNot, r.within(r.denied))
	}
	return r.compared()
}

func (r *reader) compared() api.SExpr {
	x := r.chain(sumLevel)
	if r.took("is") {
		return r.isNull(x)
	}
	if kind := r.sign(compareLevel); kind != 0 {
		return node(kind, x, r.chain(sumLevel))
	}
	return x
}

func (r *reader) isNull(x api.SExpr) api.SExpr {
	denied := r.took("not")
	r.must("null")
	x = node(api.XIsNull, x)
	if denied {
		return node(api.XNot, x)
	}
	return x
}

func (r *reader) piece() api.SExpr {
	switch {
	case r.beginsValue():
		return api.SExpr{Kind: api.XLit, Val: r.value()}
	case r.took("("):
		x := r.expr()
		r.must(")")
		return x
	case r.took("case"):
		return node(api.XCase, r.exprsBehind("when", "then", "else", "end")...)
	case r.took("coalesce"):
		return node(api.XCoal, r.exprsBehind("(", ",", ")")...)
	}
	for _, a := range aggregates() {
		if r.took(a.word) {
			return r.aggregate(a.kind)
		}
	}
	return r.columnName()
}

// exprsBehind are expressions, one behind each of these words or signs but the last one, which ends them.
func (r *reader) exprsBehind(l ...string) []api.SExpr {
	var out []api.SExpr
	r.must(l[0])
	for _, s := range l[1:] {
		out = append(out, r.expr())
		r.must(s)
	}
	return out
}

func (r *reader) aggregate(kind int) api.SExpr {
	r.must("(")
	if kind == api.XCount && r.took("*") {
		r.must(")")
		return node(api.XRows)
	}
	x := r.expr()
	r.must(")")
	return node(kind, x)
}

func (r *reader) columnName() api.SExpr {
	x := api.SExpr{Kind: api.XCol, Name: r.name()}
	if r.took(".") {
		x.Tab, x.Name = x.Name, r.name()
	}
	return x
}
