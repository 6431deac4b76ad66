package bind

import (
	"fmt"
	"strings"
	"testing"

	"tidemark/api"
	"tidemark/query"
	"tidemark/sql"
)

// told is how a value is told, so that nil and an empty list are the same.
func told(x any) string { return fmt.Sprintf("%+v", x) }

const (
	none    = api.VNull
	boolean = api.VBool
	integer = api.VInt
	texts   = api.VText
)

var (
	null = api.Val{Kind: api.VNull}
	yes  = api.Val{Kind: api.VBool, N: 1}
)

func num(n int64) api.Val                      { return api.Val{Kind: api.VInt, N: n} }
func text(s string) api.Val                    { return api.Val{Kind: api.VText, Text: s} }
func col(n int) api.Expr                       { return api.Expr{Kind: api.XCol, Col: n} }
func lit(v api.Val) api.Expr                   { return api.Expr{Kind: api.XLit, Val: v} }
func made(k int, kids ...api.Expr) api.Expr    { return api.Expr{Kind: k, Kids: kids} }
func same2(a, b int) api.Expr                  { return made(api.XEq, col(a), col(b)) }
func these(l ...api.Expr) []api.Expr           { return l }
func agg(kind int, x api.Expr) api.Agg         { return api.Agg{Kind: kind, X: x} }
func rows() api.Agg                            { return api.Agg{Kind: api.AgRows} }
func table(n int) api.Plan                     { return api.Plan{Kind: api.PTable, N: n} }
func plan(kind int, kids ...api.Plan) api.Plan { return api.Plan{Kind: kind, Kids: kids} }

// by is a plan with a condition.
func by(kind int, x api.Expr, kids ...api.Plan) api.Plan {
	return api.Plan{Kind: kind, X: x, Kids: kids}
}

func maps(p api.Plan, xs ...api.Expr) api.Plan {
	return api.Plan{Kind: api.PMap, Xs: xs, Kids: []api.Plan{p}}
}

func top(n int, p api.Plan, xs ...api.Expr) api.Plan {
	return api.Plan{Kind: api.PTop, N: n, Xs: xs, Kids: []api.Plan{p}}
}

func parted(p api.Plan, keys []api.Expr, aggs ...api.Agg) api.Plan {
	return api.Plan{Kind: api.PGroup, Xs: keys, Aggs: aggs, Kids: []api.Plan{p}}
}

// column1 is made of a word such as `a:int`.
func column1(s string) api.Column {
	name, kind, _ := strings.Cut(s, ":")
	kinds := map[string]int{"null": none, "bool": boolean, "int": integer, "text": texts}
	return api.Column{Name: name, Type: kinds[kind]}
}

// columns are made of words such as `a:int`.
func columns(s string) []api.Column {
	var out []api.Column
	for _, w := range strings.Fields(s) {
		out = append(out, column1(w))
	}
	return out
}

func rel(name, cols string) api.Rel { return api.Rel{Name: name, Cols: columns(cols)} }

func view(name, cols string, p api.Plan) api.Rel {
	return api.Rel{Name: name, Cols: columns(cols), View: true, Plan: p}
}

// ofView is the plan of the view v, among shop's.
func ofView() api.Plan { return plan(api.PDistinct, maps(table(1), col(0))) }

// shop is two tables, and views ahead of them, between them and behind them.
func shop() []api.Rel {
	return []api.Rel{
		view("v", "p:int", ofView()),
		rel("t", "a:int b:text c:bool"),
		view("w", "n:null n:int", maps(table(0), lit(null), col(0))),
		rel("u", "a:int d:int"),
		view("x", "d:int", maps(table(1), col(1))),
	}
}

// asked is the query that a text is read as.
func asked(t *testing.T, s string) api.Query {
	t.Helper()
	l, f := sql.Read("show " + s + " ;")
	if f.Err != api.OK {
		t.Fatalf("%q can't be read: %v", s, f)
	}
	return l[0].Query
}

// condition is the expression that a text is read as.
func condition(t *testing.T, s string) api.SExpr {
	t.Helper()
	l, f := sql.Read("delete from t where " + s + " ;")
	if f.Err != api.OK {
		t.Fatalf("%q can't be read: %v", s, f)
	}
	return l[0].Where
}

// checkOf tells whether a query is bound to a plan, and to columns such as `a:int`.
func checkOf(t *testing.T, rels []api.Rel, s string, want api.Plan, cols string) {
	t.Helper()
	p, c, err := Query(rels, asked(t, s))
	if err != api.OK || told(p) != told(want) || told(c) != told(columns(cols)) {
		t.Errorf("%s: error %d,\n%s and\n%s come, not\n%s and\n%s", s, err, told(p), told(c), told(want), told(columns(cols)))
	}
}

func check(t *testing.T, s string, want api.Plan, cols string) {
	t.Helper()
	checkOf(t, shop(), s, want, cols)
}

func checkErrorOf(t *testing.T, rels []api.Rel, q api.Query, what string, want api.Errno) {
	t.Helper()
	p, c, err := Query(rels, q)
	if err != want || told(p) != told(api.Plan{}) || len(c) != 0 {
		t.Errorf("%s: error %d,\n%s and\n%s come, not error %d alone", what, err, told(p), told(c), want)
	}
}

// checkError tells whether an error comes of a query, and nothing else.
func checkError(t *testing.T, s string, want api.Errno) {
	t.Helper()
	checkErrorOf(t, shop(), asked(t, s), s, want)
}

func TestL1Tables(t *testing.T) {
	eight := "a:int b:int c:int d:int e:int f:int g:int h:int"
	odd := api.Rel{Name: "odd", Cols: []api.Column{{Name: "a", Type: 99}, {Type: -1}}}
	for _, c := range []struct {
		what string
		rels []api.Rel
		want [][]int
	}{
		{"nothing", nil, nil},
		{"a view", []api.Rel{view("v", "a:int", table(0))}, nil},
		{"a table", []api.Rel{rel("t", "a:bool b:int c:text")}, [][]int{{boolean, integer, texts}}},
		{"no columns", []api.Rel{rel("t", "")}, [][]int{nil}},
		{"tables and views", shop(), [][]int{{integer, texts, boolean}, {integer, integer}}},
		{"as many columns as may be", []api.Rel{rel("t", eight)}, [][]int{{3, 3, 3, 3, 3, 3, 3, 3}}},
		{"what is no type", []api.Rel{odd, rel("t", "a:text")}, [][]int{{99, -1}, {texts}}},
		{"the same name twice", []api.Rel{rel("t", "a:text"), rel("t", "b:int")}, [][]int{{texts}, {integer}}},
	} {
		if got := Tables(c.rels); told(got) != told(c.want) {
			t.Errorf("%s: %v comes, not %v", c.what, got, c.want)
		}
	}
}

// What is promised of rels holds of those that these tests are made with.
func TestL1ShopIsRight(t *testing.T) {
	for _, r := range shop() {
		if !r.View {
			continue
		}
		cols, err := query.Cols(Tables(shop()), r.Plan)
		if err != api.OK || told(cols) != told(typesOf(r.Cols)) {
			t.Errorf("%s: error %d and %v come", r.Name, err, cols)
		}
	}
}

func TestL2OneSource(t *testing.T) {
	check(t, "select * from t", table(0), "a:int b:text c:bool")
	check(t, "select * from u", table(1), "a:int d:int")
	check(t, "select * from t as u", table(0), "a:int b:text c:bool")
	check(t, "select * from v", ofView(), "p:int")
	check(t, "select * from x", maps(table(1), col(1)), "d:int")
	check(t, "select * from w", maps(table(0), lit(null), col(0)), "n:null n:int")
	check(t, "select c , a from t", maps(table(0), col(2), col(0)), "c:bool a:int")
	check(t, "select t . c from t", maps(table(0), col(2)), "c:bool")
	check(t, "select u . c , c from t as u", maps(table(0), col(2), col(2)), "c:bool c:bool")
	check(t, "select v . p from v", maps(ofView(), col(0)), "p:int")
	for _, s := range []string{"select * from y", "select * from tt", "select a from y as t", "select 1 from y"} {
		checkError(t, s, api.ErrName)
	}
	checkErrorOf(t, nil, asked(t, "select * from t"), "no tables", api.ErrName)
}

func TestL2Joins(t *testing.T) {
	on := same2(0, 3)
	all := "a:int b:text c:bool a:int d:int"
	check(t, "select * from t join u on t . a = u . a", by(api.PJoin, on, table(0), table(1)), all)
	check(t, "select * from t left join u on t . a = u . a", by(api.PLeft, on, table(0), table(1)), all)
	check(t, "select * from t semi join u on t . a = u . a", by(api.PSemi, on, table(0), table(1)), "a:int b:text c:bool")
	check(t, "select * from t anti join u on t . a = u . a", by(api.PAnti, on, table(0), table(1)), "a:int b:text c:bool")
	check(t, "select * from u join t on c", by(api.PJoin, col(4), table(1), table(0)), "a:int d:int a:int b:text c:bool")
	check(t, "select * from v join v as x on v . p = x . p", by(api.PJoin, same2(0, 1), ofView(), ofView()), "p:int p:int")
	check(t, "select y . a from u join u as y on u . d = y . d", maps(by(api.PJoin, same2(1, 3), table(1), table(1)), col(2)), "a:int")
	check(t, "select t . a from t as u join u as t on c", maps(by(api.PJoin, col(2), table(0), table(1)), col(3)), "a:int")
	// On speaks of what is ahead of it, and of its own source, and of no later one.
	first := by(api.PJoin, on, table(0), table(1))
	check(t, "select b , p from t join u on t . a = u . a join v on p = d", maps(by(api.PJoin, same2(5, 4), first, ofView()), col(1), col(5)), "b:text p:int")
	checkError(t, "select * from t join u on t . a = p join v on true", api.ErrName)
	checkError(t, "select * from t join u on x . d = 1 join x on true", api.ErrName)
	// A plain name is that of one column, until another source has it too.
	check(t, "select 1 from v join t on a = p", maps(by(api.PJoin, same2(1, 0), ofView(), table(0)), lit(num(1))), "c1:int")
	checkError(t, "select * from t join u on a = 1", api.ErrName)
}

// Behind a semi-join and an anti-join the columns of its source are gone, and their numbers go to others; its name is taken.
func TestL2SemiIsGone(t *testing.T) {
	for kind, join := range map[int]string{api.PSemi: "semi", api.PAnti: "anti"} {
		ahead := by(kind, same2(0, 3), table(0), table(1))
		s := "from t " + join + " join u on t . a = u . a "
		check(t, "select a "+s, maps(ahead, col(0)), "a:int")
		check(t, "select * "+s+"where a = 1", by(api.PFilter, made(api.XEq, col(0), lit(num(1))), ahead), "a:int b:text c:bool")
		check(t, "select * "+s+"join v on p = a", by(api.PJoin, same2(3, 0), ahead, ofView()), "a:int b:text c:bool p:int")
		check(t, "select y . d "+s+"join u as y on t . a = y . a", maps(by(api.PJoin, same2(0, 3), ahead, table(1)), col(4)), "d:int")
		for _, rest := range []string{"where d = 1", "where u . a = 1", "join v on p = d", "join v on u . a = p", "join u on true", "semi join u on true", "group by d having true", "join v as u on true"} {
			checkError(t, "select 1 "+s+rest, api.ErrName)
		}
		checkError(t, "select d "+s, api.ErrName)
		checkError(t, "select u . d "+s, api.ErrName)
	}
}

func TestL2CalledTheSame(t *testing.T) {
	for _, s := range []string{
		"from t join t on true", "from t join u as t on true", "from t as u join u on true", "from t as y join u as y on true",
		"from v join t on true join v on true", "from t semi join t on true", "from t anti join u on true join u on true",
	} {
		checkError(t, "select 1 "+s, api.ErrName)
	}
	check(t, "select 1 from t as u join u as t on true", maps(by(api.PJoin, lit(yes), table(0), table(1)), lit(num(1))), "c1:int")
	// What has another name isn't called by its own.
	check(t, "select u . d from u join t as y on true", maps(by(api.PJoin, lit(yes), table(1), table(0)), col(1)), "d:int")
	check(t, "select 1 from t as y join t on true", maps(by(api.PJoin, lit(yes), table(0), table(0)), lit(num(1))), "c1:int")
	checkError(t, "select t . a from t as y", api.ErrName)
}

func TestL2Where(t *testing.T) {
	less := made(api.XLt, col(0), lit(num(2)))
	check(t, "select * from t where a < 2", by(api.PFilter, less, table(0)), "a:int b:text c:bool")
	check(t, "select b from t where c", maps(by(api.PFilter, col(2), table(0)), col(1)), "b:text")
	check(t, "select b from t where null", maps(by(api.PFilter, lit(null), table(0)), col(1)), "b:text")
	check(t, "select distinct * from t where c", plan(api.PDistinct, by(api.PFilter, col(2), table(0))), "a:int b:text c:bool")
	checkError(t, "select b as q from t where q = 'a'", api.ErrName)
	checkError(t, "select b from t where max ( a ) = 1", api.ErrFit)
	checkError(t, "select count ( * ) from t where count ( * ) = 1", api.ErrFit)
}

func TestL2Distinct(t *testing.T) {
	check(t, "select distinct * from t", plan(api.PDistinct, table(0)), "a:int b:text c:bool")
	check(t, "select distinct a from t", plan(api.PDistinct, maps(table(0), col(0))), "a:int")
	check(t, "select distinct count ( * ) from t", plan(api.PDistinct, maps(parted(table(0), nil, rows()), col(0))), "c1:int")
}

func TestL2Groups(t *testing.T) {
	check(t, "select count ( * ) from t", maps(parted(table(0), nil, rows()), col(0)), "c1:int")
	check(t, "select b from t group by b", maps(parted(table(0), these(col(1))), col(0)), "b:text")
	check(t, "select 1 from t having true", maps(by(api.PFilter, lit(yes), parted(table(0), nil)), lit(num(1))), "c1:int")
	check(t, "select 1 from t group by c", maps(parted(table(0), these(col(2))), lit(num(1))), "c1:int")
	check(t, "select c , b , c from t group by b , c", maps(parted(table(0), these(col(1), col(2))), col(1), col(0), col(1)), "c:bool b:text c:bool")
	all := parted(table(0), these(col(2)), rows(), agg(api.AgCount, col(1)), agg(api.AgSum, col(0)), agg(api.AgMin, col(1)), agg(api.AgMax, col(2)))
	check(t, "select count ( * ) , count ( b ) , sum ( a ) , min ( b ) , max ( c ) , c from t group by c",
		maps(all, col(1), col(2), col(3), col(4), col(5), col(0)), "c1:int c2:int c3:int c4:text c5:bool c:bool")
	// Aggregates are numbered as they are met: those of the items, from the left, then those of Having.
	met := parted(by(api.PFilter, col(2), table(0)), these(col(1)), agg(api.AgSum, col(0)), rows(), agg(api.AgMax, col(0)))
	check(t, "select sum ( a ) + count ( * ) as n , b from t where c group by b having max ( a ) > 1 and b = 'x'",
		maps(by(api.PFilter, made(api.XAnd, made(api.XGt, col(3), lit(num(1))), made(api.XEq, col(0), lit(text("x")))), met), made(api.XAdd, col(1), col(2)), col(0)), "n:int b:text")
	// The same one twice is two.
	check(t, "select count ( * ) , count ( * ) from t having count ( * ) = 1",
		maps(by(api.PFilter, made(api.XEq, col(2), lit(num(1))), parted(table(0), nil, rows(), rows(), rows())), col(0), col(1)), "c1:int c2:int")
	// An aggregate deep in one item makes groups of all.
	check(t, "select 1 , case when not a is null then 1 else 2 end from t group by a", maps(parted(table(0), these(col(0))), lit(num(1)), made(api.XCase, made(api.XNot, made(api.XIsNull, col(0))), lit(num(1)), lit(num(2)))), "c1:int c2:int")
	check(t, "select 1 , coalesce ( 2 , - 1 + sum ( a ) ) from t",
		maps(parted(table(0), nil, agg(api.AgSum, col(0))), lit(num(1)), made(api.XCoal, lit(num(2)), made(api.XAdd, lit(num(-1)), col(0)))), "c1:int c2:int")
	checkError(t, "select a , 1 + count ( * ) from t", api.ErrFit)
}

func TestL2StarOfGroups(t *testing.T) {
	for _, s := range []string{"group by a", "having true", "group by a having true", "having count ( * ) = 1", "group by z"} {
		checkError(t, "select * from t "+s, api.ErrFit)
	}
	// Where there is Star, there are no items.
	q := asked(t, "select * from t")
	q.Parts[0].Items = asked(t, "select count ( * ) as n from t").Parts[0].Items
	p, cols, err := Query(shop(), q)
	if err != api.OK || told(p) != told(table(0)) || told(cols) != told(columns("a:int b:text c:bool")) {
		t.Errorf("error %d, %s and %s come", err, told(p), told(cols))
	}
}
