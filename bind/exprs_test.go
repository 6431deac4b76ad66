package bind

import (
	"testing"

	"tidemark/api"
)

// exprsOfT are expressions of t's columns, and what they become.
func exprsOfT() map[string]api.Expr {
	a, b, c := col(0), col(1), col(2)
	return map[string]api.Expr{
		"a":                                a,
		"t . c":                            c,
		"null":                             lit(null),
		"true":                             lit(yes),
		"false":                            lit(api.Val{Kind: api.VBool}),
		"- 7":                              lit(num(-7)),
		"'it''s'":                          lit(text("it's")),
		"not c":                            made(api.XNot, c),
		"c and t . c":                      made(api.XAnd, c, c),
		"c or true":                        made(api.XOr, c, lit(yes)),
		"a = 1":                            made(api.XEq, a, lit(num(1))),
		"1 <> a":                           made(api.XNe, lit(num(1)), a),
		"b < 'x'":                          made(api.XLt, b, lit(text("x"))),
		"b <= 'x'":                         made(api.XLe, b, lit(text("x"))),
		"b > 'x'":                          made(api.XGt, b, lit(text("x"))),
		"b >= 'x'":                         made(api.XGe, b, lit(text("x"))),
		"a + 1":                            made(api.XAdd, a, lit(num(1))),
		"1 - a":                            made(api.XSub, lit(num(1)), a),
		"a * a":                            made(api.XMul, a, a),
		"'x' || b":                         made(api.XCat, lit(text("x")), b),
		"b is null":                        made(api.XIsNull, b),
		"case when c then a else 1 end":    made(api.XCase, c, a, lit(num(1))),
		"coalesce ( a , null )":            made(api.XCoal, a, lit(null)),
		"not ( a + 1 ) * a is null or c":   made(api.XOr, made(api.XNot, made(api.XIsNull, made(api.XMul, made(api.XAdd, a, lit(num(1))), a))), c),
		"coalesce ( b , t . b || b ) <> b": made(api.XNe, made(api.XCoal, b, made(api.XCat, b, b)), b),
	}
}

func TestL3Kinds(t *testing.T) {
	for s, want := range exprsOfT() {
		p, _, err := Query(shop(), asked(t, "select "+s+" from t"))
		if err != api.OK || told(p) != told(maps(table(0), want)) {
			t.Errorf("%s: error %d and\n%s come, not\n%s", s, err, told(p), told(maps(table(0), want)))
		}
	}
}

func TestL3Columns(t *testing.T) {
	rels := append(shop(), rel("y", "t:int a:int"))
	check2 := func(s string, want api.Plan, cols string) {
		t.Helper()
		checkOf(t, rels, s, want, cols)
	}
	both := by(api.PJoin, lit(yes), table(0), table(1))
	check2("select b , d from t join u on true", maps(both, col(1), col(4)), "b:text d:int")
	check2("select t . a , u . a from t join u on true", maps(both, col(0), col(3)), "a:int a:int")
	check2("select t , y . t from y", maps(table(2), col(0), col(0)), "t:int t:int")
	check2("select t . a , t from t join y on true", maps(by(api.PJoin, lit(yes), table(0), table(2)), col(0), col(3)), "a:int t:int")
	for _, s := range []string{
		"select a from t join u on true", // two have it
		"select z from t",                // none has it
		"select z . a from t",            // no such source
		"select t . d from t join u on true",
		"select u . b from t join u on true",
		"select n from w",     // one source has it twice
		"select w . n from w", // and still has
		"select t . t from y", // a column's name is no source's
		"select v from v",     // and a source's no column's
		"select t . a from t as y",
	} {
		checkErrorOf(t, rels, asked(t, s), s, api.ErrName)
	}
}

func TestL3AggregatesDontFit(t *testing.T) {
	for _, agg := range []string{"count ( * )", "count ( a )", "sum ( a )", "min ( a )", "max ( a )"} {
		for _, s := range []string{
			"select 1 from t where " + agg + " = 1",
			"select 1 from t where c or not ( 1 + " + agg + " ) is null",
			"select 1 from t semi join u on " + agg + " = 1",
			"select 1 from t group by " + agg,
			"select 1 from t group by b , a + " + agg,
			"select sum ( " + agg + " ) from t",
			"select count ( 1 + " + agg + " ) from t group by a",
			"select 1 from t having max ( " + agg + " ) = 1",
			"select a from u order by " + agg + " limit 1",
			"select count ( * ) as a from t order by " + agg + " limit 1",
		} {
			checkError(t, s, api.ErrFit)
		}
	}
	// An aggregate fits nowhere there, whatever it is of.
	checkError(t, "select 1 from t where sum ( z ) = 1", api.ErrFit)
	checkError(t, "select sum ( sum ( z ) ) from t", api.ErrFit)
	// Kids are met from the first one on.
	checkError(t, "select 1 from t where z = count ( * )", api.ErrName)
	checkError(t, "select 1 from t where count ( * ) = z", api.ErrFit)
}

func TestL3KeysOfGroups(t *testing.T) {
	one, up := lit(num(1)), made(api.XAdd, col(0), lit(num(1)))
	check(t, "select a + 1 , ( a + 1 ) * 2 from t group by a + 1", maps(parted(table(0), these(up)), col(0), made(api.XMul, col(0), lit(num(2)))), "c1:int c2:int")
	// The outermost one that is the same is taken.
	check(t, "select a + 1 , a from t group by a , a + 1", maps(parted(table(0), these(col(0), up)), col(1), col(0)), "c1:int a:int")
	check(t, "select a + 1 from t group by a", maps(parted(table(0), these(col(0))), made(api.XAdd, col(0), one)), "c1:int")
	// Of two that are the same, the first one.
	check(t, "select b , max ( b ) from t group by a , b , b", maps(parted(table(0), these(col(0), col(1), col(1)), agg(api.AgMax, col(1))), col(1), col(3)), "b:text c2:text")
	// Values are the same as keys, too.
	check(t, "select 1 , 2 , 1 + a from t group by a , 1", maps(parted(table(0), these(col(0), one)), col(1), lit(num(2)), made(api.XAdd, col(1), col(0))), "c1:int c2:int c3:int")
	check(t, "select null , 'x' , 'y' from t group by null , 'x'", maps(parted(table(0), these(lit(null), lit(text("x")))), col(0), col(1), lit(text("y"))), "c1:null c2:text c3:text")
	check(t, "select 1 , '1' , false , true from t group by false , true", maps(parted(table(0), these(lit(api.Val{Kind: boolean}), lit(yes))), one, lit(text("1")), col(0), col(1)), "c1:int c2:text c3:bool c4:bool")
	check(t, "select t . a from t group by t . a having t . a = 1", maps(by(api.PFilter, made(api.XEq, col(0), one), parted(table(0), these(col(0)))), col(0)), "a:int")
	// An aggregate is of the columns ahead of grouping, whatever the keys are.
	check(t, "select sum ( a + 1 ) , sum ( a ) , max ( c ) from t group by c , a + 1",
		maps(parted(table(0), these(col(2), up), agg(api.AgSum, up), agg(api.AgSum, col(0)), agg(api.AgMax, col(2))), col(2), col(3), col(4)), "c1:int c2:int c3:bool")
	check(t, "select max ( t . c ) from t group by c", maps(parted(table(0), these(col(2)), agg(api.AgMax, col(2))), col(1)), "c1:bool")
	checkError(t, "select sum ( z ) from t", api.ErrName)
	checkError(t, "select 1 from t join u on true having sum ( a ) = 1", api.ErrName)
}

// What is not written as a key is is no key, even if it means the same.
func TestL3NoKeys(t *testing.T) {
	for _, s := range []string{
		"select a from t group by b",
		"select a from t group by t . a",
		"select t . a from t group by a",
		"select u . a from t join u on true group by t . a",
		"select 1 + a from t group by a + 1",
		"select a + 2 from t group by a + 1",
		"select a - 1 from t group by a + 1",
		"select a from t group by a + 1",
		"select z from t group by a",
		"select y . a from t group by a",
		"select 1 from t group by a having b = 'x'",
		"select count ( * ) as n from t having n = 1",
		"select a as q from t group by a having q = 1",
		"select a = 1 from t group by a = 2",
		"select b || 'x' from t group by b || 'y'",
		"select coalesce ( a , 1 ) from t group by coalesce ( 1 , a )",
	} {
		checkError(t, s, api.ErrFit)
	}
}

// Fields that a kind has not mean nothing, where expressions are held against keys.
func TestL3SameInWhatKindsHave(t *testing.T) {
	q := asked(t, "select ( a + 1 ) * 2 , null , 'x' from t group by a + 1 , null , 'x'")
	s := &q.Parts[0]
	up := &s.Items[0].X.Kids[0]
	up.Tab, up.Name, up.Val = "u", "b", num(7)
	up.Kids[0].Val = num(8)
	up.Kids[1].Name, up.Kids[1].Val.Text = "b", "junk"
	s.Items[1].X.Val.N, s.Items[1].X.Val.Text = 5, "junk"
	s.Group[2].Val.N = 7
	want := maps(parted(table(0), these(made(api.XAdd, col(0), lit(num(1))), lit(null), lit(text("x")))), made(api.XMul, col(0), lit(num(2))), col(1), col(2))
	p, _, err := Query(shop(), q)
	if err != api.OK || told(p) != told(want) {
		t.Errorf("error %d and\n%s come, not\n%s", err, told(p), told(want))
	}
}

func checkCond(t *testing.T, r api.Rel, s string, want api.Expr) {
	t.Helper()
	if got, err := Cond(r, condition(t, s)); err != api.OK || told(got) != told(want) {
		t.Errorf("%s: error %d and\n%s come, not\n%s", s, err, told(got), told(want))
	}
}

func TestL5Cond(t *testing.T) {
	r := rel("t", "a:int b:text c:bool")
	for s, want := range exprsOfT() {
		checkCond(t, r, s, want)
	}
	// Types are not looked at, nor is the plan of a view.
	checkCond(t, r, "a + b = c", made(api.XEq, made(api.XAdd, col(0), col(1)), col(2)))
	checkCond(t, view("t", "a:int", api.Plan{Kind: 99}), "t . a", col(0))
	checkCond(t, api.Rel{Name: "t", Cols: []api.Column{{Name: "a", Type: 99}}}, "a", col(0))
	checkCond(t, api.Rel{}, "1", lit(num(1)))
	for s, want := range map[string]api.Errno{
		"z":                   api.ErrName,
		"u . a = 1":           api.ErrName,
		"t . z = 1":           api.ErrName,
		"a = 1 and z = 1":     api.ErrName,
		"count ( * ) = 1":     api.ErrFit,
		"1 + max ( a ) = 1":   api.ErrFit,
		"min ( z ) = 1":       api.ErrFit,
		"z = 1 or sum ( a )":  api.ErrName,
		"sum ( a ) or z = 1":  api.ErrFit,
		"count ( a ) is null": api.ErrFit,
	} {
		if got, err := Cond(r, condition(t, s)); err != want || told(got) != told(api.Expr{}) {
			t.Errorf("%s: error %d and %s come, not error %d alone", s, err, told(got), want)
		}
	}
	twice := rel("t", "a:int a:int")
	for _, s := range []string{"a", "t . a"} {
		if _, err := Cond(twice, condition(t, s)); err != api.ErrName {
			t.Errorf("%s, which there is twice: error %d comes", s, err)
		}
	}
}
