package sql

import (
	"strings"
	"testing"

	"tidemark/api"
)

func TestK2Statements(t *testing.T) {
	checkRead(t, "")
	checkRead(t, " \n\t")
	checkRead(t, "create table t ( a int ) ;", api.Stmt{Kind: api.StTable, Name: "t", Cols: []api.Column{{Name: "a", Type: api.VInt}}})
	checkRead(t, "create table t ( a bool , b int , c text ) ;", api.Stmt{Kind: api.StTable, Name: "t", Cols: []api.Column{{Name: "a", Type: api.VBool}, {Name: "b", Type: api.VInt}, {Name: "c", Type: api.VText}}})
	checkRead(t, "create table t ( a int , a int ) ;", api.Stmt{Kind: api.StTable, Name: "t", Cols: []api.Column{{Name: "a", Type: api.VInt}, {Name: "a", Type: api.VInt}}})
	checkRead(t, "create view v as select * from t ;", api.Stmt{Kind: api.StView, Name: "v", Query: asked(all("t"))})
	checkRead(t, "insert into t values ( 1 ) ;", api.Stmt{Kind: api.StInsert, Name: "t", Rows: [][]api.Val{{num(1)}}})
	checkRead(t, "insert into t values ( 1 , null , true ) , ( - 1 ) , ( 'a' , false ) ;", api.Stmt{Kind: api.StInsert, Name: "t", Rows: [][]api.Val{{num(1), null, yes}, {num(-1)}, {text("a"), no}}})
	checkRead(t, "delete from t ;", api.Stmt{Kind: api.StDelete, Name: "t"})
	checkRead(t, "delete from t where true ;", where(lit(yes)))
	checkRead(t, "show select * from t ;", show(asked(all("t"))))
	checkRead(t, "delete from t ; show select * from t ; delete from u ;", api.Stmt{Kind: api.StDelete, Name: "t"}, show(asked(all("t"))), api.Stmt{Kind: api.StDelete, Name: "u"})
}

func TestK2Queries(t *testing.T) {
	q := asked(all("t"), all("u"))
	for s, op := range map[string]int{"union all": api.SetUnionAll, "union": api.SetUnion, "except all": api.SetExceptAll, "except": api.SetExcept} {
		q.Ops[0] = op
		checkRead(t, "show select * from t "+s+" select * from u ;", show(q))
	}
	q = asked(all("a"), all("b"), all("c"), all("d"))
	q.Ops = []int{api.SetExcept, api.SetUnionAll, api.SetUnion}
	checkRead(t, "show select * from a except select * from b union all select * from c union select * from d ;", show(q))
	q.Order, q.Limit = these(col("x"), made(api.XAdd, col("y"), lit(num(1)))), 0
	checkRead(t, "create view v as select * from a except select * from b union all select * from c union select * from d order by x , y + 1 limit 0 ;", api.Stmt{Kind: api.StView, Name: "v", Query: q})
	q = asked(all("t"))
	q.Order = these(col("a"))
	for s, n := range map[string]int{"0": 0, "1": 1, "50": api.MaxTop, "050": api.MaxTop, "- 0": 0} {
		q.Limit = n
		checkRead(t, "show select * from t order by a limit "+s+" ;", show(q))
	}
}

func TestK2Selects(t *testing.T) {
	s := some(col("a"), col("b"))
	checkRead(t, "show select a , b from t ;", show(asked(s)))
	s.Distinct = true
	s.Items[1].As = "c"
	checkRead(t, "show select distinct a , b as c from t ;", show(asked(s)))
	s = api.Select{Distinct: true, Star: true, From: []api.Source{{Kind: api.FromFirst, Name: "t", As: "x"}}}
	checkRead(t, "show select distinct * from t as x ;", show(asked(s)))
	s = some(lit(num(1)))
	s.HasWhere, s.Where = true, col("a")
	checkRead(t, "show select 1 from t where a ;", show(asked(s)))
	s.Group = these(col("b"), made(api.XNot, col("c")))
	checkRead(t, "show select 1 from t where a group by b , not c ;", show(asked(s)))
	s.HasHaving, s.Having = true, made(api.XIsNull, col("d"))
	checkRead(t, "show select 1 from t where a group by b , not c having d is null ;", show(asked(s)))
	s.HasWhere, s.Where = false, api.SExpr{}
	checkRead(t, "show select 1 from t group by b , not c having d is null ;", show(asked(s)))
	s.Group = nil
	checkRead(t, "show select 1 from t having d is null ;", show(asked(s)))
}

func TestK2Sources(t *testing.T) {
	s := all("t")
	for word, kind := range map[string]int{"join": api.FromJoin, "semi join": api.FromSemi, "anti join": api.FromAnti, "left join": api.FromLeft} {
		s.From = append(first("t"), api.Source{Kind: kind, Name: "u", On: made(api.XEq, of("t", "a"), of("u", "a"))})
		checkRead(t, "show select * from t "+word+" u on t . a = u . a ;", show(asked(s)))
		s.From[1].As = "x"
		checkRead(t, "show select * from t "+word+" u as x on t . a = u . a ;", show(asked(s)))
	}
	s.From = []api.Source{
		{Kind: api.FromFirst, Name: "t", As: "x"},
		{Kind: api.FromLeft, Name: "t", As: "y", On: lit(yes)},
		{Kind: api.FromSemi, Name: "t", On: lit(no)},
		{Kind: api.FromJoin, Name: "t", As: "z", On: lit(null)},
	}
	s.HasWhere, s.Where = true, col("a")
	checkRead(t, "show select * from t as x left join t as y on true semi join t on false join t as z on null where a ;", show(asked(s)))
}

// checkExpr tells how an expression is read, wherever one stands.
func checkExpr(t *testing.T, s string, x api.SExpr) {
	t.Helper()
	checkRead(t, "delete from t where "+s+" ;", where(x))
	sel := api.Select{
		Items:    []api.Item{{X: x, As: "c"}, {X: x}},
		From:     append(first("t"), api.Source{Kind: api.FromJoin, Name: "u", On: x}),
		HasWhere: true, Where: x,
		Group:     these(x, x),
		HasHaving: true, Having: x,
	}
	q := asked(sel)
	q.Order, q.Limit = these(x, x), 5
	const form = "show select # as c , # from t join u on # where # group by # , # having # order by # , # limit 5 ;"
	checkRead(t, strings.ReplaceAll(form, "#", s), show(q))
}

func TestK3Pieces(t *testing.T) {
	a, b, c := col("a"), col("b"), col("c")
	for s, x := range map[string]api.SExpr{
		"null":                          lit(null),
		"true":                          lit(yes),
		"false":                         lit(no),
		"12":                            lit(num(12)),
		"- 12":                          lit(num(-12)),
		"'it''s'":                       lit(text("it's")),
		"( a )":                         a,
		"( ( ( 1 ) ) )":                 lit(num(1)),
		"case when a then b else c end": made(api.XCase, a, b, c),
		"coalesce ( a , b )":            made(api.XCoal, a, b),
		"count ( * )":                   made(api.XRows),
		"count ( a )":                   made(api.XCount, a),
		"sum ( a )":                     made(api.XSum, a),
		"min ( a )":                     made(api.XMin, a),
		"max ( a )":                     made(api.XMax, a),
		"a":                             a,
		"t . a":                         of("t", "a"),
		"case when a or b then not c else case when a then b else c end end": made(api.XCase, made(api.XOr, a, b), made(api.XNot, c), made(api.XCase, a, b, c)),
		"coalesce ( a or b , not c )":                                        made(api.XCoal, made(api.XOr, a, b), made(api.XNot, c)),
		"sum ( a or b ) + count ( * )":                                       made(api.XAdd, made(api.XSum, made(api.XOr, a, b)), made(api.XRows)),
		"count ( count ( * ) )":                                              made(api.XCount, made(api.XRows)),
		"max ( ( a ) ) * - 1":                                                made(api.XMul, made(api.XMax, a), lit(num(-1))),
	} {
		checkExpr(t, s, x)
	}
}

// From the weakest on, each level holds what is weaker apart.
func TestK3Levels(t *testing.T) {
	a, b, c, d := col("a"), col("b"), col("c"), col("d")
	for s, x := range map[string]api.SExpr{
		"a or b or c":              made(api.XOr, made(api.XOr, a, b), c),
		"a or ( b or c )":          made(api.XOr, a, made(api.XOr, b, c)),
		"a or b and c":             made(api.XOr, a, made(api.XAnd, b, c)),
		"a and b or c":             made(api.XOr, made(api.XAnd, a, b), c),
		"a and ( b or c )":         made(api.XAnd, a, made(api.XOr, b, c)),
		"a and b and c":            made(api.XAnd, made(api.XAnd, a, b), c),
		"not a and b":              made(api.XAnd, made(api.XNot, a), b),
		"not ( a and b )":          made(api.XNot, made(api.XAnd, a, b)),
		"a and not b or not c":     made(api.XOr, made(api.XAnd, a, made(api.XNot, b)), made(api.XNot, c)),
		"not not not a":            made(api.XNot, made(api.XNot, made(api.XNot, a))),
		"not a = b":                made(api.XNot, made(api.XEq, a, b)),
		"( not a ) = b":            made(api.XEq, made(api.XNot, a), b),
		"not a is null":            made(api.XNot, made(api.XIsNull, a)),
		"a is not null":            made(api.XNot, made(api.XIsNull, a)),
		"not a is not null":        made(api.XNot, made(api.XNot, made(api.XIsNull, a))),
		"( not a ) is null":        made(api.XIsNull, made(api.XNot, a)),
		"a + b is null":            made(api.XIsNull, made(api.XAdd, a, b)),
		"a || b is not null and c": made(api.XAnd, made(api.XNot, made(api.XIsNull, made(api.XCat, a, b))), c),
		"( a is null ) is null":    made(api.XIsNull, made(api.XIsNull, a)),
		"( a = b ) = ( c <> d )":   made(api.XEq, made(api.XEq, a, b), made(api.XNe, c, d)),
		"a = b and c = d":          made(api.XAnd, made(api.XEq, a, b), made(api.XEq, c, d)),
		"a = b":                    made(api.XEq, a, b),
		"a <> b":                   made(api.XNe, a, b),
		"a < b":                    made(api.XLt, a, b),
		"a <= b":                   made(api.XLe, a, b),
		"a > b":                    made(api.XGt, a, b),
		"a >= b":                   made(api.XGe, a, b),
		"a + b < c * d":            made(api.XLt, made(api.XAdd, a, b), made(api.XMul, c, d)),
		"a - b - c":                made(api.XSub, made(api.XSub, a, b), c),
		"a - b + c":                made(api.XAdd, made(api.XSub, a, b), c),
		"a - ( b + c )":            made(api.XSub, a, made(api.XAdd, b, c)),
		"a + b * c":                made(api.XAdd, a, made(api.XMul, b, c)),
		"( a + b ) * c":            made(api.XMul, made(api.XAdd, a, b), c),
		"a * b - c * d":            made(api.XSub, made(api.XMul, a, b), made(api.XMul, c, d)),
		"a * b * c":                made(api.XMul, made(api.XMul, a, b), c),
		"a * b || c":               made(api.XMul, a, made(api.XCat, b, c)),
		"a || b * c":               made(api.XMul, made(api.XCat, a, b), c),
		"a || b || c":              made(api.XCat, made(api.XCat, a, b), c),
		"a || ( b || c )":          made(api.XCat, a, made(api.XCat, b, c)),
		"a || ( b * c )":           made(api.XCat, a, made(api.XMul, b, c)),
		"a - 1":                    made(api.XSub, a, lit(num(1))),
		"a - - 1":                  made(api.XSub, a, lit(num(-1))),
		"- 1 - - 1":                made(api.XSub, lit(num(-1)), lit(num(-1))),
		"- 1 * - 2 || - 3":         made(api.XMul, lit(num(-1)), made(api.XCat, lit(num(-2)), lit(num(-3)))),
	} {
		checkExpr(t, s, x)
	}
}
