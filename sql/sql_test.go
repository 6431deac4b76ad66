package sql

import (
	"fmt"
	"strings"
	"testing"

	"tidemark/api"
)

// told is how a value is told, so that nil and an empty list are the same.
func told(x any) string { return fmt.Sprintf("%+v", x) }

func col(name string) api.SExpr { return api.SExpr{Kind: api.XCol, Name: name} }

func of(tab, name string) api.SExpr { return api.SExpr{Kind: api.XCol, Tab: tab, Name: name} }

func lit(v api.Val) api.SExpr { return api.SExpr{Kind: api.XLit, Val: v} }

func num(n int64) api.Val { return api.Val{Kind: api.VInt, N: n} }

func text(s string) api.Val { return api.Val{Kind: api.VText, Text: s} }

var (
	null = api.Val{Kind: api.VNull}
	yes  = api.Val{Kind: api.VBool, N: 1}
	no   = api.Val{Kind: api.VBool}
)

func made(kind int, kids ...api.SExpr) api.SExpr { return api.SExpr{Kind: kind, Kids: kids} }

func these(l ...api.SExpr) []api.SExpr { return l }

// first is a source that nothing is joined to.
func first(name string) []api.Source { return []api.Source{{Kind: api.FromFirst, Name: name}} }

// all is all columns of a source.
func all(name string) api.Select { return api.Select{Star: true, From: first(name)} }

// some is items without a name, of the source t.
func some(l ...api.SExpr) api.Select {
	s := api.Select{From: first("t")}
	for _, x := range l {
		s.Items = append(s.Items, api.Item{X: x})
	}
	return s
}

// asked is a query of selects without anything between that is no `union all`, and without a limit.
func asked(l ...api.Select) api.Query {
	q := api.Query{Parts: l, Limit: -1}
	for range len(l) - 1 {
		q.Ops = append(q.Ops, api.SetUnionAll)
	}
	return q
}

func show(q api.Query) api.Stmt { return api.Stmt{Kind: api.StShow, Query: q} }

// where is a statement with one expression.
func where(x api.SExpr) api.Stmt {
	return api.Stmt{Kind: api.StDelete, Name: "t", HasWhere: true, Where: x}
}

func stmts(l ...api.Stmt) []api.Stmt { return l }

// checkRead tells whether s is read as these statements, and these are printed so that they are read again.
func checkRead(t *testing.T, s string, want ...api.Stmt) {
	t.Helper()
	got, f := Read(s)
	if f != (api.Fault{}) || told(got) != told(want) {
		t.Errorf("%q: %v and\n%s come, not\n%s", s, f, told(got), told(want))
	}
	p, f := Print(got)
	again, f2 := Read(p)
	if f != (api.Fault{}) || f2 != (api.Fault{}) || told(again) != told(want) {
		t.Errorf("%q is printed as %q (%v), of which %v and\n%s come, not\n%s", s, p, f, f2, told(again), told(want))
	}
}

// checkFault tells whether of s an error comes where its mark stands; it is taken out of the text first.
func checkFault(t *testing.T, s string, err api.Errno) {
	t.Helper()
	at := strings.Index(s, "^")
	s = strings.Replace(s, "^", "", 1)
	if got, f := Read(s); got != nil || f != (api.Fault{Err: err, At: at}) {
		t.Errorf("%q: %v and %s come, not error %d at %d", s, f, told(got), err, at)
	}
}

// checkWrong tells whether Wrong and Print tell a fault.
func checkWrong(t *testing.T, what string, l []api.Stmt, want api.Fault) {
	t.Helper()
	if f := Wrong(l); f != want {
		t.Errorf("%s: Wrong tells %v, not %v", what, f, want)
	}
	if s, f := Print(l); s != "" || f != want {
		t.Errorf("%s: Print tells %v and %q, not %v", what, f, s, want)
	}
}

// checkPrint tells whether statements are printed as s, and read of it again.
func checkPrint(t *testing.T, s string, l ...api.Stmt) {
	t.Helper()
	if got, f := Print(l); f != (api.Fault{}) || got != s {
		t.Errorf("%v and %q come, not %q", f, got, s)
	}
	if got, f := Read(s); f != (api.Fault{}) || told(got) != told(l) {
		t.Errorf("%q: %v and\n%s come, not\n%s", s, f, told(got), told(l))
	}
}

const kept = "create table view as insert into values delete from where show select distinct group by having union all except order limit join left semi anti on and or not is null true false case when then else end coalesce count sum min max int text bool"

func TestK1Named(t *testing.T) {
	for _, s := range []string{"a", "z", "_", "a1", "_1", "__", "z9_", "abcdefghijkl", "____________", "selects", "selec", "counts", "_select", "real", "index", "avg", "using", "inner", "offset", "asc"} {
		if !Named(s) {
			t.Errorf("%q is a name", s)
		}
	}
	for _, s := range []string{"", "1", "1a", "9_", "A", "aB", "a b", " a", "a ", "a\n", "a-b", "a.b", "'a'", "a'", "ä", "\x00", "a\x00", "`", "a{", "a/", "a:", "abcdefghijklm", strings.Repeat("a", 4000)} {
		if Named(s) {
			t.Errorf("%q is no name", s)
		}
	}
	for _, s := range strings.Fields(kept) {
		if Named(s) || !Named(s+"_") {
			t.Errorf("%q is no name, and %q is one", s, s+"_")
		}
		checkFault(t, "delete from ^"+s+" ;", api.ErrName)
	}
}

// Each byte begins a token, or none, or stands between them.
func TestK1Bytes(t *testing.T) {
	for c := range 256 {
		s := string([]byte{byte(c)})
		_, f := Read(s)
		want := api.Fault{Err: api.ErrForm}
		if s == " " || s == "\t" || s == "\n" {
			want = api.Fault{}
		}
		if f != want {
			t.Errorf("%q: %v comes, not %v", s, f, want)
		}
		_, f = Read("delete from q" + s + ";")
		want = api.Fault{}
		switch {
		case strings.Contains("abcdefghijklmnopqrstuvwxyz_0123456789 \t\n", s):
		case s == ";":
			want = api.Fault{Err: api.ErrForm, At: 14}
		default:
			want = api.Fault{Err: api.ErrForm, At: 13}
		}
		if f != want {
			t.Errorf("%q behind a name: %v comes, not %v", s, f, want)
		}
	}
}

// Tokens need nothing between them, where they can be told apart.
func TestK1Between(t *testing.T) {
	x := made(api.XLe, made(api.XAdd, col("a"), lit(num(1))), lit(text("b")))
	for _, s := range []string{
		"delete from t where a + 1 <= 'b' ;",
		"delete from t where a+1<='b';",
		"\n\tdelete\nfrom\tt \n where\t\ta\n+\n1\n<=\n'b'\n;\n",
		"delete from t where a +1<= 'b';  ",
		"delete from t where((a)+1)<='b';",
	} {
		checkRead(t, s, where(x))
	}
	checkRead(t, "delete from t where'a'='b'or'c';", where(made(api.XOr, made(api.XEq, lit(text("a")), lit(text("b"))), lit(text("c")))))
	checkRead(t, "delete from t where 1or 2;", where(made(api.XOr, lit(num(1)), lit(num(2)))))
	checkRead(t, "delete from t where t.a;", where(of("t", "a")))
	checkRead(t, "delete from t where a<-1;", where(made(api.XLt, col("a"), lit(num(-1)))))
	checkRead(t, "delete from t where a--1;", where(made(api.XSub, col("a"), lit(num(-1)))))
	checkRead(t, "delete from t where a<>-1;", where(made(api.XNe, col("a"), lit(num(-1)))))
	checkRead(t, "delete from t where a_1 ;", where(col("a_1")))
	checkFault(t, "delete from t where a < ^> b ;", api.ErrForm)
	checkFault(t, "delete from t where a < ^= b ;", api.ErrForm)
	checkFault(t, "delete from t where a =^> b ;", api.ErrForm)
	checkFault(t, "delete from t where 1^a ;", api.ErrForm)
	checkFault(t, "delete from t where 'a' ^'b' ;", api.ErrForm)
}

func TestK1Texts(t *testing.T) {
	every := make([]byte, 0, 256)
	for c := range 256 {
		every = append(every, byte(c))
	}
	texts := []string{"", "a", "'", "''", "a'b", "'a", "a'", " ", "a\tb\nc", "\r", "ä", "\xff\x00", "select", "-- ;", strings.Repeat("'", api.MaxText), strings.Repeat("x", api.MaxText)}
	for i := 0; i < 256; i += 32 {
		texts = append(texts, string(every[i:i+32]))
	}
	for _, s := range texts {
		checkRead(t, "delete from t where '"+strings.ReplaceAll(s, "'", "''")+"';", where(lit(text(s))))
	}
	checkRead(t, "insert into t values('''','a''''b');", api.Stmt{Kind: api.StInsert, Name: "t", Rows: [][]api.Val{{text("'"), text("a''b")}}})
	// A text is no word, whatever stands in it.
	checkFault(t, "^'show' select * from t ;", api.ErrForm)
	checkFault(t, "delete from ^'t' ;", api.ErrForm)
	checkFault(t, "delete from t ^';'", api.ErrForm)
	checkFault(t, "create table t ( a ^'int' ) ;", api.ErrForm)
	checkFault(t, "insert into t values ( 1 ^',' 2 ) ;", api.ErrForm)
}

func TestK1Numbers(t *testing.T) {
	for s, n := range map[string]int64{
		"0": 0, "7": 7, "007": 7, "0000000000000000": 0, "0000000000000001": 1, "1000000000000000": api.MaxInt, "999999999999999": 999999999999999,
		"- 0": 0, "-7": -7, "- 007": -7, "-\n\t1000000000000000": -api.MaxInt,
	} {
		checkRead(t, "delete from t where "+s+" ;", where(lit(num(n))))
		checkRead(t, "insert into t values ( "+s+" ) ;", api.Stmt{Kind: api.StInsert, Name: "t", Rows: [][]api.Val{{num(n)}}})
	}
	for _, s := range []string{"^+ 1", "1 ^. 5", "1^e5", "0^x1", "1^_000", "- ^- 1", "- ^a", "- ^null", "- ^'1'", "^( 1 )"} {
		checkFault(t, "insert into t values ( "+s+" ) ;", api.ErrForm)
	}
}
