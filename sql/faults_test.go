package sql

import (
	"strings"
	"testing"

	"tidemark/api"
)

// Ahead of all else: more than MaxSource bytes.
func TestK4MuchInAll(t *testing.T) {
	checkFault(t, "^"+strings.Repeat(" ", api.MaxSource+1), api.ErrMuch)
	checkFault(t, "^"+strings.Repeat("!", api.MaxSource+1), api.ErrMuch)
	checkRead(t, strings.Repeat(" ", api.MaxSource))
	del := "delete from t ;"
	checkRead(t, del+strings.Repeat(" ", api.MaxSource-len(del)), api.Stmt{Kind: api.StDelete, Name: "t"})
	checkFault(t, "^"+del+strings.Repeat(" ", api.MaxSource+1-len(del)), api.ErrMuch)
	checkFault(t, strings.Repeat(" ", api.MaxSource-1)+"^x", api.ErrForm)
}

// Tokens come ahead of statements, from the left.
func TestK4Tokens(t *testing.T) {
	long := "'" + strings.Repeat("x", api.MaxText+1) + "'"
	quotes := "'" + strings.Repeat("''", api.MaxText+1) + "'"
	for s, err := range map[string]api.Errno{
		"^!":                                    api.ErrForm,
		"show select ^! from t ;":               api.ErrForm,
		"^SHOW":                                 api.ErrForm,
		"delete from ^T ;":                      api.ErrForm,
		"delete from t^T ;":                     api.ErrForm,
		"delete from t ;^\r":                    api.ErrForm,
		"delete from t ;^\x00":                  api.ErrForm,
		"delete from t ;^\v":                    api.ErrForm,
		"delete from t where a ^| b ;":          api.ErrForm,
		"delete from t where a ||^| b ;":        api.ErrForm,
		"delete from t where a || ^| b ;":       api.ErrForm,
		"delete from t where a ^!= b ;":         api.ErrForm,
		"delete from t where a =^/ b ;":         api.ErrForm,
		"delete from t where ^\"a\" ;":          api.ErrForm,
		"delete from t where ^ä ;":              api.ErrForm,
		"delete from t ; ^--":                   api.ErrForm,
		"delete from t ; ^# no":                 api.ErrForm,
		"delete from t where ^'a ;":             api.ErrForm,
		"delete from t where ^' ":               api.ErrForm,
		"delete from t where ^'a'' ;":           api.ErrForm,
		"delete from t where ^''' ;":            api.ErrForm,
		"delete from t where '' ^'":             api.ErrForm,
		"delete from t where ^" + long + " ;":   api.ErrMuch,
		"delete from t where ^" + quotes + " ;": api.ErrMuch,
		"delete from t where ^" + long[:62]:     api.ErrForm,
		"^" + strings.Repeat("9", 17):           api.ErrRange,
		"^" + strings.Repeat("0", 17):           api.ErrRange,
		"x 1 ^" + strings.Repeat("0", 17) + "!": api.ErrRange,
		"show select -^12345678901234567 from":  api.ErrRange,
		// Whatever statements would say:
		"x ; delete ^!":                 api.ErrForm,
		"x ^'a":                         api.ErrForm,
		"x ^" + long:                    api.ErrMuch,
		"x ^" + strings.Repeat("9", 17): api.ErrRange,
		"x ^" + strings.Repeat("9", 17) + " ! " + long:            api.ErrRange,
		"x ^" + long + " ! " + strings.Repeat("9", 17):            api.ErrMuch,
		"x ^! " + long + " " + strings.Repeat("9", 17):            api.ErrForm,
		"x 1000000000000001 ^'":                                   api.ErrForm,
		strings.Repeat("delete from t ; ", 61) + "^!":             api.ErrForm,
		"delete from t where " + strings.Repeat("( ", 120) + "^!": api.ErrForm,
	} {
		checkFault(t, s, err)
	}
	// Behind a letter digits are a part of the word.
	checkFault(t, "delete from ^a12345678901234567 ;", api.ErrName)
}

// Where a statement can't go on, and where one is missing, which is at the end of all.
func TestK4Form(t *testing.T) {
	for _, s := range []string{
		"^x ;", "^;", "^( ;", "^1 ;", "^table t ( a int ) ;", "^select * from t ;", "delete from t ; ^; ", "^values", "^from t ;",
		"create ^", "create ^x ;", "create ^t ( a int ) ;", "create ^; ", "create ^select", "create ^create table t ( a int ) ;",
		"create table ^", "create table ^( a int ) ;", "create table ^1 ;", "create table t ^", "create table t ^a int ;", "create table t ( ^", "create table t ( ^) ;", "create table t ( ^, a int ) ;",
		"create table t ( a ^", "create table t ( a ^) ;", "create table t ( a ^real ) ;", "create table t ( a ^b ) ;", "create table t ( a ^null ) ;", "create table t ( a ^int4 ) ;",
		"create table t ( a int ^", "create table t ( a int ^; ", "create table t ( a int ^b int ) ;", "create table t ( a int ^int ) ;", "create table t ( a int , ^", "create table t ( a int , ^) ;", "create table t ( a int ) ^", "create table t ( a int ) ^) ;", "create table t ( a int ) ^delete from t ;",
		"create view ^", "create view ^'v' ;", "create view v ^", "create view v ^select * from t ;", "create view v as ^", "create view v as ^show select * from t ;", "create view v as ^( select * from t ) ;", "create view v as ^x ;", "create view v ^( a ) as select * from t ;",
		"insert ^", "insert ^t ;", "insert into ^", "insert into ^( 1 ) ;", "insert into t ^", "insert into t ^( 1 ) ;", "insert into t ^select * from t ;", "insert into t values ^", "insert into t values ^; ", "insert into t values ^1 ;",
		"insert into t values ( ^", "insert into t values ( ^) ;", "insert into t values ( ^a ) ;", "insert into t values ( ^select ) ;", "insert into t values ( ^( 1 ) ) ;", "insert into t values ( ^, 1 ) ;", "insert into t values ( 1 ^", "insert into t values ( 1 ^2 ) ;", "insert into t values ( 1 ^+ 1 ) ;", "insert into t values ( 1 , ^) ;", "insert into t values ( 1 , ^",
		"insert into t values ( 1 ) ^", "insert into t values ( 1 ) ^( 2 ) ;", "insert into t values ( 1 ) , ^", "insert into t values ( 1 ) , ^; ", "insert into t values ( - ^", "insert into t values ( - ^) ;",
		"delete ^", "delete ^t ;", "delete ^where", "delete from ^", "delete from ^; ", "delete from t ^", "delete from t ^t ;", "delete from t ^as x ;", "delete from t ^, u ;", "delete from t ^. a ;", "delete from t where ^", "delete from t where ^; ", "delete from t where a ^", "delete from t where a ^b ;", "delete from t where a ^where b ;",
		"show ^", "show ^; ", "show ^t ;", "show ^( select * from t ) ;",
		"  delete from t  ^", "delete from t \n\t^",
	} {
		checkFault(t, s, api.ErrForm)
	}
}

func TestK4FormOfQueries(t *testing.T) {
	for _, s := range []string{
		"^", "^; ", "^) ;", "distinct ^", "distinct ^; ", "* ^", "* ^, a from t ;", "* ^as b from t ;", "* ^a from t ;", "distinct * ^* from t ;",
		"a ^", "a ^; ", "a ^b from t ;", "a ^t ;", "a , ^", "a , ^* from t ;", "a , ^, b from t ;", "a as ^", "a as ^1 from t ;", "a as b ^c from t ;", "a as b ^as c from t ;", "a ^where b from t ;",
		"* from ^", "* from ^; ", "* from ^( select * from t ) ;", "* from ^'t' ;", "* from t ^u ;", "* from t ^, u ;", "* from t as ^", "* from t as ^; ", "* from t as x ^as y ;", "* from t as x ^x ;",
		"* from t join ^", "* from t join ^; ", "* from t join u ^", "* from t join u ^; ", "* from t join u ^where a ;", "* from t join u ^u on a ;", "* from t join u ^join v on a on b ;", "* from t join u on ^", "* from t join u on ^; ", "* from t join u on a ^on b ;",
		"* from t left ^", "* from t left ^u on a ;", "* from t semi ^semi join u on a ;", "* from t anti ^; ", "* from t ^on a ;",
		"* from t where ^", "* from t where a ^where b ;", "* from t where a ^join u on b ;", "* from t group ^", "* from t group ^a ;", "* from t group by ^", "* from t group by ^; ", "* from t group by a ^b ;", "* from t group by a , ^", "* from t group by a , ^; ", "* from t group by a ^where b ;", "* from t group by a ^group by b ;", "* from t group by a ^as b ;",
		"* from t having ^", "* from t having ^; ", "* from t having a ^where b ;", "* from t having a ^group by b ;", "* from t having a ^having b ;", "* from t having a ^, b ;", "* from t where a ^, b ;",
		"* from t union ^", "* from t union ^; ", "* from t union ^u ;", "* from t union ^( select * from t ) ;", "* from t union ^show select * from t ;", "* from t union all ^", "* from t union all ^all select * from t ;", "* from t except ^", "* from t except ^distinct select * from t ;", "* from t except all ^; ", "* from t ^all select * from t ;",
		"* from t order ^", "* from t order ^a limit 1 ;", "* from t order by ^", "* from t order by a ^", "* from t order by a ^; ", "* from t order by a ^b limit 1 ;", "* from t order by a , ^", "* from t order by a ^union select * from t ;", "* from t ^limit 1 ;",
		"* from t order by a limit ^", "* from t order by a limit ^; ", "* from t order by a limit ^a ;", "* from t order by a limit ^'1' ;", "* from t order by a limit ^all ;", "* from t order by a limit - ^", "* from t order by a limit - ^a ;", "* from t order by a limit - ^- 1 ;", "* from t order by a limit ^( 1 ) ;",
		"* from t order by a limit 1 ^", "* from t order by a limit 1 ^2 ;", "* from t order by a limit 1 ^+ 1 ;", "* from t order by a limit 1 ^order by a limit 1 ;", "* from t order by a limit 1 ^union select * from t ;", "* from t order by a limit 1 ^where a ;",
	} {
		checkFault(t, "show select "+s, api.ErrForm)
		checkFault(t, "create view v as select * from t union select "+s, api.ErrForm)
	}
}

func TestK4FormOfExpressions(t *testing.T) {
	for _, s := range []string{
		"^", "^; ", "^) ;", "^* ;", "^+ 1 ;", "^= a ;", "^. a ;", "^, a ;", "a ^", "a ^b ;", "a ^1 ;", "a ^'b' ;", "a ^( b ) ;", "a ^true ;", "a ^not b ;", "a ^as b ;", "a ^case when a then b else c end ;", "a ^count ( * ) ;",
		"( ^", "( ^) ;", "( a ^", "( a ^; ", "( a ^b ) ;", "( a ^, b ) ;", "( a ) ^) ;",
		"a or ^", "a or ^; ", "a and ^", "a and ^= b ;", "not ^", "not ^; ", "not not ^) ;", "a = ^", "a = ^= b ;", "a = b ^= c ;", "a < b ^> c ;", "a = b ^is null ;", "a is ^", "a is ^a ;", "a is ^true ;", "a is ^is null ;", "a is not ^", "a is not ^not null ;", "a is not ^a ;", "a is null ^is null ;", "a is null ^= b ;", "a is null ^+ b ;", "a is not null ^is null ;", "a is null ^null ;",
		"a + ^", "a + ^+ b ;", "a + ^* b ;", "a - ^; ", "a - - ^a ;", "a - - ^- 1 ;", "a * ^", "a * ^* b ;", "a || ^", "a || ^|| b ;", "- ^", "- ^a ;", "- ^( 1 ) ;", "- ^- 1 ;", "- ^'a' ;", "- ^null ;", "- 1 ^1 ;",
		"case ^", "case ^a then b else c end ;", "case ^a when b then c else d end ;", "case when ^", "case when a ^", "case when a ^else b end ;", "case when a then ^", "case when a then b ^", "case when a then b ^end ;", "case when a then b ^when c then d else e end ;", "case when a then b else ^", "case when a then b else c ^", "case when a then b else c ^; ", "case when a then b else c end ^end ;", "case when a then b else c end ^. a ;",
		"coalesce ^", "coalesce ^a ;", "coalesce ( ^", "coalesce ( ^) ;", "coalesce ( a ^", "coalesce ( a ^) ;", "coalesce ( a , ^", "coalesce ( a , ^) ;", "coalesce ( a , b ^", "coalesce ( a , b ^, c ) ;",
		"count ^", "count ^* ;", "count ^a ;", "count ( ^", "count ( ^) ;", "count ( * ^", "count ( * ^* ) ;", "count ( * ^+ 1 ) ;", "count ( a ^", "count ( a ^, b ) ;", "sum ( ^* ) ;", "min ( ^* ) ;", "max ( ^* ) ;", "sum ( ^) ;", "sum ^+ 1 ;", "min ( a ^b ) ;", "max ( a ^, b ) ;",
		"t . ^", "t . ^; ", "t . ^1 ;", "t . ^* ;", "t . ^( a ) ;", "t . a ^. b ;", "t ^( a ) ;", "1 ^. a ;", "'t' ^. a ;",
	} {
		checkFault(t, "delete from t where "+s, api.ErrForm)
	}
}

// A word that is no name, where one is asked for.
func TestK4Name(t *testing.T) {
	const long = "abcdefghijklm"
	for _, s := range []string{
		"create table # ( a int ) ;", "create table t ( # int ) ;", "create table t ( a int , # int ) ;", "create view # as select * from t ;", "insert into # values ( 1 ) ;", "delete from # ;",
		"show select * from # ;", "show select * from t as # ;", "show select * from t join # on a ;", "show select * from t left join u as # on a ;", "show select a as # from t ;", "show select t . # from t ;",
		"delete from t where t . # ;",
	} {
		for _, w := range append(strings.Fields(kept), long) {
			checkFault(t, strings.Replace(s, "#", "^"+w, 1), api.ErrName)
		}
	}
	begins := " null true false not case coalesce count sum min max "
	for _, s := range []string{"# ;", "a or # ;", "not # ;", "a = # ;", "a + # ;", "a * # ;", "a || # ;", "( # ) ;", "case when # then b else c end ;", "case when a then # else c end ;", "coalesce ( a , # ) ;", "count ( # ) ;", "sum ( # ) ;"} {
		for _, w := range append(strings.Fields(kept), long) {
			if !strings.Contains(begins, " "+w+" ") {
				checkFault(t, "delete from t where "+strings.Replace(s, "#", "^"+w, 1), api.ErrName)
			}
		}
	}
	// `not` stands ahead of comparisons alone.
	for _, s := range []string{"a = ^not b ;", "a + ^not b ;", "a * ^not b ;", "a || ^not b ;", "a is null and a < ^not b ;"} {
		checkFault(t, "delete from t where "+s, api.ErrName)
	}
	checkFault(t, "show select ^from t ;", api.ErrName)
	checkFault(t, "show select distinct ^from t ;", api.ErrName)
	checkFault(t, "show select distinct ^distinct a from t ;", api.ErrName)
	checkFault(t, "show select a , ^from t ;", api.ErrName)
	checkFault(t, "show select ^abcdefghijklm . a from t ;", api.ErrName)
	checkFault(t, "show select ^all a from t ;", api.ErrName)
	checkFault(t, "show select * from t order by ^limit 1 ;", api.ErrName)
	checkFault(t, "delete from t where ( ^select a from t ) ;", api.ErrName)
}

func TestK4Range(t *testing.T) {
	for _, s := range []string{
		"insert into t values ( ^1000000000000001 ) ;", "insert into t values ( ^9999999999999999 ) ;", "insert into t values ( 1 , ^- 1000000000000001 ) ;", "insert into t values ( ^-\n9999999999999999 ",
		"delete from t where ^1000000000000001 ;", "delete from t where a - ^1000000000000001 ;", "delete from t where a - ^- 1000000000000001 ;", "delete from t where a = ^- 1000000000000001 x ;", "delete from t where ( ^1000000000000001 ",
		"show select * from t order by a limit ^51 ;", "show select * from t order by a limit ^- 1 ;", "show select * from t order by a limit ^- 51 x", "show select * from t order by a limit ^1000000000000001 ;", "show select * from t order by a limit ^9999999999999999",
	} {
		checkFault(t, s, api.ErrRange)
	}
}

// list is n times a part, with commas between; the mark stands ahead of a part's number.
func list(n, mark int, part string) string {
	l := make([]string, n)
	for i := range l {
		l[i] = part
		if i == mark {
			l[i] = "^" + part
		}
	}
	return strings.Join(l, " , ")
}

// One more than there may be is told where it should begin, whatever comes there.
func TestK4Many(t *testing.T) {
	const m = api.MaxCols
	for form, part := range map[string]string{
		"create table t ( # ) ;":                                 "a int",
		"insert into t values ( # ) ;":                           "1",
		"insert into t values ( 1 ) , ( # ) ;":                   "null",
		"show select # from t ;":                                 "a + 1 as b",
		"show select distinct # from t where a ;":                "count ( * )",
		"show select a from t group by # ;":                      "a or b",
		"create view v as select * from t group by # having a ;": "( a )",
		"show select * from t order by # limit 1 ;":              "not a",
	} {
		if _, f := Read(strings.Replace(form, "#", list(m, -1, part), 1)); f != (api.Fault{}) {
			t.Errorf("%s: %v comes", form, f)
		}
		checkFault(t, strings.Replace(form, "#", list(m+1, m, part), 1), api.ErrMany)
		checkFault(t, strings.Replace(form, "#", list(m+2, m, part), 1), api.ErrMany)
		ahead := form[:strings.Index(form, "#")] + list(m, -1, part) + " , "
		for _, s := range []string{"^", "^) ;", "^select", "^;", "^9999999999999999", "^, ,"} {
			checkFault(t, ahead+s, api.ErrMany)
		}
		checkFault(t, ahead[:len(ahead)-3]+" ^", api.ErrForm)
	}
	ahead := "insert into t values " + strings.ReplaceAll(list(api.MaxRows, -1, "(1)"), " ", "")
	if l, f := Read(ahead + ";"); f != (api.Fault{}) || len(l[0].Rows) != api.MaxRows {
		t.Errorf("as many rows as may be: %v comes", f)
	}
	for _, s := range []string{",^(1);", ", ^", ",^;", ",^)", ",^(a"} {
		checkFault(t, ahead+s, api.ErrMany)
	}
	checkFault(t, ahead+"^(", api.ErrForm)
}

func TestK4ManyStatements(t *testing.T) {
	ahead := strings.Repeat("delete from t ;\n", api.MaxStmts)
	if l, f := Read(ahead); f != (api.Fault{}) || len(l) != api.MaxStmts {
		t.Errorf("as many statements as may be: %v comes", f)
	}
	for _, s := range []string{"^delete from t ;", "  ^x", "^;", "^1", "^9999999999999999", "^'a'"} {
		checkFault(t, ahead+s, api.ErrMany)
	}
	// What is wrong ahead of it is met first.
	checkFault(t, strings.Repeat("delete from t ;", api.MaxStmts-1)+"delete from t ^x ; delete from t ;", api.ErrForm)
}

func TestK4ManySelects(t *testing.T) {
	ahead := "show select * from t union select * from t except all select * from t except select * from t "
	if _, f := Read(ahead + ";"); f != (api.Fault{}) {
		t.Errorf("as many selects as may be: %v comes", f)
	}
	for _, op := range []string{"union", "union all", "except", "except all"} {
		for _, s := range []string{"^select * from t ;", "^", "^; ", "^x", "^( select", "^union"} {
			checkFault(t, ahead+op+" "+s, api.ErrMany)
		}
	}
	checkFault(t, ahead+"union all ^all", api.ErrMany)
	checkFault(t, ahead+"^all", api.ErrForm)
	// What comes behind doesn't count the selects of another statement.
	if _, f := Read(ahead + ";" + ahead + ";"); f != (api.Fault{}) {
		t.Errorf("two statements: %v comes", f)
	}
}

func TestK4ManySources(t *testing.T) {
	ahead := "show select * from t join t on a left join t as x on a or b semi join t on a "
	if _, f := Read(ahead + ";"); f != (api.Fault{}) {
		t.Errorf("as many sources as may be: %v comes", f)
	}
	for _, kind := range []string{"join", "semi join", "anti join", "left join"} {
		for _, s := range []string{"^t on a ;", "^", "^; ", "^select", "^'t'", "^join"} {
			checkFault(t, ahead+kind+" "+s, api.ErrMany)
		}
	}
	checkFault(t, ahead+"left ^x", api.ErrForm)
	checkFault(t, ahead+"semi ^", api.ErrForm)
	if _, f := Read(ahead + "union " + ahead[5:] + ";"); f != (api.Fault{}) {
		t.Errorf("two selects: %v comes", f)
	}
}

// So many may be open, and one more is told behind what opens it.
func TestK4Open(t *testing.T) {
	const most = api.MaxOpen - 1 // beside the whole one
	ahead := "delete from t where " + strings.Repeat("(", most-1)
	for _, last := range []string{"(", "not", "case when", "case when a then", "case when a then b else", "coalesce (", "coalesce ( a ,", "count (", "sum (", "min (", "max ("} {
		checkFault(t, ahead+last+" a ^", api.ErrForm)
		for _, more := range []string{"(", "not", "case when", "coalesce (", "count (", "sum (", "min (", "max ("} {
			for _, s := range []string{"^a", "^", "^;", "^9999999999999999", "^select", "^(", "^not a"} {
				checkFault(t, ahead+last+" "+more+" "+s, api.ErrMuch)
			}
		}
	}
	for _, s := range []string{"show select #", "show select a , a as b , #", "show select * from t join u on #", "show select * from t where #", "show select * from t group by a , #", "show select * from t having #", "show select * from t order by #", "show select * from t where ( a ) and #"} {
		checkFault(t, strings.Replace(s, "#", strings.Repeat("( ", most)+"^", 1), api.ErrForm)
		checkFault(t, strings.Replace(s, "#", strings.Repeat("( ", most+1)+"^", 1), api.ErrMuch)
		checkFault(t, strings.Replace(s, "#", strings.Repeat("not ", most)+"^", 1), api.ErrForm)
		checkFault(t, strings.Replace(s, "#", strings.Repeat("not ", most+1)+"^", 1), api.ErrMuch)
	}
}

// What is closed is no longer open.
func TestK4Closed(t *testing.T) {
	x := made(api.XNot, col("a"))
	in := func(n int, s string) string { return strings.Repeat("(", n) + s + strings.Repeat(")", n) }
	deep := in(api.MaxOpen-2, "not a")
	checkRead(t, "delete from t where "+deep+" ;", where(x))
	checkRead(t, "delete from t where "+deep+" or "+deep+" and "+deep+" ;", where(made(api.XOr, x, made(api.XAnd, x, x))))
	checkRead(t, "delete from t where "+deep+" ; delete from t where "+deep+" ;", where(x), where(x))
	checkRead(t, "delete from t where coalesce("+in(api.MaxOpen-3, "not a")+","+in(api.MaxOpen-3, "not a")+") ;", where(made(api.XCoal, x, x)))
	// These open nothing.
	checkRead(t, "delete from t where "+in(api.MaxOpen-1, "count(*)")+" ;", where(made(api.XRows)))
	checkRead(t, "delete from t where "+in(api.MaxOpen-1, "a is not null")+" ;", where(made(api.XNot, made(api.XIsNull, col("a")))))
	checkRead(t, "delete from t where "+in(api.MaxOpen-1, "t . a + - 1")+" ;", where(made(api.XAdd, of("t", "a"), lit(num(-1)))))
	checkFault(t, "delete from t where "+strings.Repeat("(", api.MaxOpen-1)+"count(^a)", api.ErrMuch)
	// A `not` ends with what it stands ahead of.
	checkFault(t, "delete from t where "+strings.Repeat("not a or ", 300)+" ^;", api.ErrForm)
	checkFault(t, "delete from t where "+strings.Repeat("not not a = b and ", 200)+" ^", api.ErrForm)
}

// In the end, at 0, what Wrong says, whichever statement it says it of.
func TestK4InTheEnd(t *testing.T) {
	deep := func(n int) string { return "delete from t where " + strings.Repeat("not ", n) + "a ;" }
	for _, s := range []string{
		deep(api.MaxDeep), deep(api.MaxOpen - 1), "delete from t ; " + deep(api.MaxDeep), deep(api.MaxDeep-1) + deep(api.MaxDeep) + deep(api.MaxDeep-1),
		"delete from t where a" + strings.Repeat(" + a", api.MaxDeep) + " ;",
	} {
		checkFault(t, "^"+s, api.ErrMuch)
	}
	if _, f := Read(deep(api.MaxDeep-1) + deep(api.MaxDeep-1)); f != (api.Fault{}) {
		t.Errorf("as deep as may be: %v comes", f)
	}
	if _, f := Read("delete from t where a" + strings.Repeat(" + a", api.MaxDeep-1) + " ;"); f != (api.Fault{}) {
		t.Errorf("as deep as may be, from the left: %v comes", f)
	}
	// What can't go on is told ahead of it.
	checkFault(t, deep(api.MaxDeep)+" ^x", api.ErrForm)
	wide := balanced(128, "a")
	checkFault(t, "^delete from t where "+wide+" ;", api.ErrMuch)
	if _, f := Read("delete from t where " + balanced(64, "a") + " and " + balanced(36, "a") + " ;"); f != (api.Fault{}) {
		t.Errorf("fewer nodes than may be: %v comes", f)
	}
	if _, f := Read("delete from t where not(" + balanced(64, "a") + "and" + balanced(36, "a") + ") ;"); f != (api.Fault{}) {
		t.Errorf("as many nodes as may be: %v comes", f)
	}
	checkFault(t, "^delete from t where not not("+balanced(64, "a")+"and"+balanced(36, "a")+") ;", api.ErrMuch)
}

// balanced is n times a name, with `and` between, and no deeper than it must be.
func balanced(n int, name string) string {
	if n == 1 {
		return "(" + name + ")"
	}
	return "(" + balanced(n/2, name) + "and" + balanced(n-n/2, name) + ")"
}
