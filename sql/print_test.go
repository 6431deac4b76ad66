package sql

import (
	"slices"
	"strings"
	"testing"

	"tidemark/api"
)

func TestK6Statements(t *testing.T) {
	checkPrint(t, "")
	checkPrint(t, "create table t ( a bool , b int , c text ) ;", api.Stmt{Kind: api.StTable, Name: "t", Cols: []api.Column{{Name: "a", Type: api.VBool}, {Name: "b", Type: api.VInt}, {Name: "c", Type: api.VText}}})
	checkPrint(t, "create view v as select * from t ;", api.Stmt{Kind: api.StView, Name: "v", Query: asked(all("t"))})
	checkPrint(t, "insert into t values ( 1 , - 1 , 0 ) , ( null , true , false ) , ( 'it''s' , '' , '''' ) ;", api.Stmt{Kind: api.StInsert, Name: "t", Rows: [][]api.Val{{num(1), num(-1), num(0)}, {null, yes, no}, {text("it's"), text(""), text("'")}}})
	checkPrint(t, "insert into t values ( 1000000000000000 , - 1000000000000000 ) ;", api.Stmt{Kind: api.StInsert, Name: "t", Rows: [][]api.Val{{num(api.MaxInt), num(-api.MaxInt)}}})
	checkPrint(t, "delete from t ; delete from u where a ;", api.Stmt{Kind: api.StDelete, Name: "t"}, altered(where(col("a")), func(s *api.Stmt) { s.Name = "u" }))
}

func TestK6Queries(t *testing.T) {
	on := made(api.XEq, of("t", "a"), of("x", "a"))
	s := api.Select{
		Distinct: true,
		Items:    []api.Item{{X: col("a")}, {X: made(api.XAdd, col("b"), lit(num(1))), As: "c"}, {X: made(api.XRows), As: "n"}},
		From: []api.Source{
			{Kind: api.FromFirst, Name: "t"},
			{Kind: api.FromJoin, Name: "u", As: "x", On: on},
			{Kind: api.FromSemi, Name: "v", On: lit(yes)},
			{Kind: api.FromLeft, Name: "w", On: lit(no)},
		},
		HasWhere: true, Where: made(api.XOr, col("a"), col("b")),
		Group:     these(col("a"), made(api.XOr, col("a"), col("b"))),
		HasHaving: true, Having: made(api.XGt, made(api.XSum, col("a")), lit(num(1))),
	}
	first := "select distinct a , b + 1 as c , count ( * ) as n from t join u as x on t . a = x . a semi join v on true left join w on false where a or b group by a , a or b having sum ( a ) > 1"
	anti := api.Select{Distinct: true, Star: true, From: []api.Source{{Kind: api.FromFirst, Name: "t", As: "y"}, {Kind: api.FromAnti, Name: "t", On: lit(null)}}}
	second := "select distinct * from t as y anti join t on null"
	checkPrint(t, "show "+first+" ;", show(asked(s)))
	checkPrint(t, "show "+second+" ;", show(asked(anti)))
	q := asked(s, anti, anti, anti)
	q.Ops = []int{api.SetExceptAll, api.SetExcept, api.SetUnion}
	q.Order, q.Limit = these(col("a"), made(api.XNot, col("c"))), 0
	checkPrint(t, "show "+first+" except all "+second+" except "+second+" union "+second+" order by a , not c limit 0 ;", show(q))
	checkPrint(t, "create view v as "+second+" union all "+second+" ;", api.Stmt{Kind: api.StView, Name: "v", Query: asked(anti, anti)})
}

func TestK6Pieces(t *testing.T) {
	a, b, c := col("a"), col("b"), col("c")
	or := made(api.XOr, a, b)
	for s, x := range map[string]api.SExpr{
		"null": lit(null), "true": lit(yes), "false": lit(no), "7": lit(num(7)), "- 7": lit(num(-7)), "0": lit(num(0)), "'a b'": lit(text("a b")), "''''": lit(text("'")), "a": a, "t . a": of("t", "a"),
		"case when a then b else c end":                       made(api.XCase, a, b, c),
		"case when a or b then a or b else a or b end":        made(api.XCase, or, or, or),
		"coalesce ( a , b )":                                  made(api.XCoal, a, b),
		"coalesce ( a or b , a or b )":                        made(api.XCoal, or, or),
		"count ( * )":                                         made(api.XRows),
		"count ( a or b )":                                    made(api.XCount, or),
		"sum ( a or b )":                                      made(api.XSum, or),
		"min ( a or b )":                                      made(api.XMin, or),
		"max ( not a )":                                       made(api.XMax, made(api.XNot, a)),
		"- 1 || - 1 * - 1 - - 1":                              made(api.XSub, made(api.XMul, made(api.XCat, lit(num(-1)), lit(num(-1))), lit(num(-1))), lit(num(-1))),
		"case when a then b else c end || coalesce ( a , b )": made(api.XCat, made(api.XCase, a, b, c), made(api.XCoal, a, b)),
	} {
		checkPrint(t, "delete from t where "+s+" ;", where(x))
	}
}

// Brackets stand around what would be read otherwise, and nowhere else.
func TestK6Brackets(t *testing.T) {
	a, b, c := col("a"), col("b"), col("c")
	signs := map[int]string{api.XOr: "or", api.XAnd: "and", api.XEq: "=", api.XNe: "<>", api.XLt: "<", api.XLe: "<=", api.XGt: ">", api.XGe: ">=", api.XAdd: "+", api.XSub: "-", api.XMul: "*", api.XCat: "||"}
	strength := map[int]int{api.XOr: 1, api.XAnd: 2, api.XAdd: 5, api.XSub: 5, api.XMul: 6, api.XCat: 7}
	for k := api.XEq; k <= api.XGe; k++ {
		strength[k] = 4
	}
	in := func(brackets bool, s string) string {
		if brackets {
			return "( " + s + " )"
		}
		return s
	}
	for k, sign := range signs {
		s := strength[k]
		for k2, sign2 := range signs {
			s2 := strength[k2]
			kid := "b " + sign2 + " c"
			checkPrint(t, "delete from t where "+in(s2 < s || s2 == s && s == 4, "b "+sign2+" c")+" "+sign+" a ;", where(made(k, made(k2, b, c), a)))
			checkPrint(t, "delete from t where a "+sign+" "+in(s2 <= s, kid)+" ;", where(made(k, a, made(k2, b, c))))
		}
		checkPrint(t, "delete from t where "+in(s > 3, "not a")+" "+sign+" "+in(s > 3, "not b")+" ;", where(made(k, made(api.XNot, a), made(api.XNot, b))))
		checkPrint(t, "delete from t where "+in(s >= 4, "a is null")+" "+sign+" "+in(s >= 4, "b is null")+" ;", where(made(k, made(api.XIsNull, a), made(api.XIsNull, b))))
		checkPrint(t, "delete from t where not "+in(s < 3, "a "+sign+" b")+" ;", where(made(api.XNot, made(k, a, b))))
		checkPrint(t, "delete from t where "+in(s <= 4, "a "+sign+" b")+" is null ;", where(made(api.XIsNull, made(k, a, b))))
	}
	checkPrint(t, "delete from t where not not a ;", where(nots(2, a)))
	checkPrint(t, "delete from t where not a is null ;", where(made(api.XNot, made(api.XIsNull, a))))
	checkPrint(t, "delete from t where ( not a ) is null ;", where(made(api.XIsNull, made(api.XNot, a))))
	checkPrint(t, "delete from t where ( a is null ) is null ;", where(made(api.XIsNull, made(api.XIsNull, a))))
	checkPrint(t, "delete from t where - 1 is null ;", where(made(api.XIsNull, lit(num(-1)))))
}

// What is longer than a text may be is no text; what is as long as that is one.
func TestK6Much(t *testing.T) {
	insert := func(n int) api.Stmt {
		row := []api.Val{text(strings.Repeat("x", api.MaxText))}
		s := api.Stmt{Kind: api.StInsert, Name: "t", Rows: slices.Repeat([][]api.Val{row}, 58)}
		s.Rows[0] = []api.Val{text(strings.Repeat("x", n))}
		return s
	}
	begin := func(n int) (string, api.Fault) {
		return Print(stmts(insert(n), api.Stmt{Kind: api.StDelete, Name: "abcdefghij"}))
	}
	least, f := begin(0)
	if f != (api.Fault{}) || len(least) > api.MaxSource || len(least)+api.MaxText <= api.MaxSource {
		t.Fatalf("%v and %d bytes come", f, len(least))
	}
	fits := api.MaxSource - len(least)
	if s, f := begin(fits); f != (api.Fault{}) || len(s) != api.MaxSource {
		t.Errorf("%v and %d bytes come", f, len(s))
	}
	if s, f := begin(fits + 1); f != (api.Fault{Err: api.ErrMuch}) || s != "" {
		t.Errorf("%v and %d bytes come", f, len(s))
	}
	full := slices.Repeat(stmts(insert(0)), api.MaxStmts)
	checkPrinted := func(what string, l []api.Stmt, want api.Fault) {
		if s, f := Print(l); s != "" || f != want {
			t.Errorf("%s: %v and %d bytes come, not %v", what, f, len(s), want)
		}
	}
	checkPrinted("much more", full, api.Fault{Err: api.ErrMuch})
	full[api.MaxStmts-1].Kind = 0
	checkPrinted("what is wrong ahead of it", full, api.Fault{Err: api.ErrKind, At: api.MaxStmts - 1})
}
