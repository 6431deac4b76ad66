package engine

import (
	"fmt"
	"strconv"
	"strings"
	"testing"

	"tidemark/api"
	"tidemark/sql"
)

// told is how a value is told, so that nil and an empty list are the same.
func told(x any) string { return fmt.Sprintf("%+v", x) }

// toldShown tells what was shown, such as `2 a b: 1 'x', 2 null *3; 4 a:`: numbers of statements, columns' names, and rows, with how often they are there.
func toldShown(l []api.Shown) string {
	var out []string
	for _, s := range l {
		var rows []string
		for _, r := range s.Rows {
			rows = append(rows, " "+toldRow(r))
		}
		out = append(out, strconv.Itoa(s.At)+" "+strings.Join(s.Cols, " ")+":"+strings.Join(rows, ","))
	}
	return strings.Join(out, "; ")
}

func toldRow(r api.ZRow) string {
	var out []string
	for _, v := range r.Row {
		out = append(out, toldVal(v))
	}
	if r.W != 1 {
		out = append(out, "*"+strconv.FormatInt(r.W, 10))
	}
	return strings.Join(out, " ")
}

func toldVal(v api.Val) string {
	switch v {
	case api.Val{Kind: api.VNull}:
		return "null"
	case api.Val{Kind: api.VBool, N: 0}:
		return "false"
	case api.Val{Kind: api.VBool, N: 1}:
		return "true"
	case api.Val{Kind: api.VInt, N: v.N}:
		return strconv.FormatInt(v.N, 10)
	case api.Val{Kind: api.VText, Text: v.Text}:
		return "'" + v.Text + "'"
	}
	return told(v)
}

func num(n int64) api.Val   { return api.Val{Kind: api.VInt, N: n} }
func text(s string) api.Val { return api.Val{Kind: api.VText, Text: s} }

// read is the statements of a text.
func read(t *testing.T, s string) []api.Stmt {
	t.Helper()
	l, f := sql.Read(s)
	if f.Err != api.OK {
		t.Fatalf("%q can't be read: %v", s, f)
	}
	return l
}

// inserted is a statement of rows; a text that is read has room for few.
func inserted(name string, rows ...[]api.Val) api.Stmt {
	return api.Stmt{Kind: api.StInsert, Name: name, Rows: rows}
}

// numbers are rows of one number, from a number on, so many of them.
func numbers(from, n int) [][]api.Val {
	var out [][]api.Val
	for i := range n {
		out = append(out, []api.Val{num(int64(from + i))})
	}
	return out
}

// ones are rows that are all the same.
func ones(n int) [][]api.Val {
	var out [][]api.Val
	for range n {
		out = append(out, []api.Val{num(1)})
	}
	return out
}

// joined is statements one behind the other, texts and lists.
func joined(t *testing.T, parts ...any) []api.Stmt {
	t.Helper()
	var out []api.Stmt
	for _, p := range parts {
		switch p := p.(type) {
		case string:
			out = append(out, read(t, p)...)
		case api.Stmt:
			out = append(out, p)
		case []api.Stmt:
			out = append(out, p...)
		}
	}
	return out
}

func checkList(t *testing.T, what string, l []api.Stmt, want string) {
	t.Helper()
	got, f := Play(l)
	if f != (api.Fault{}) || toldShown(got) != want {
		t.Errorf("%s: fault %v and\n%s come, not\n%s", what, f, toldShown(got), want)
	}
}

// check tells whether statements show something.
func check(t *testing.T, s, want string) {
	t.Helper()
	checkList(t, s, read(t, s), want)
}

func checkFaultOf(t *testing.T, what string, l []api.Stmt, err api.Errno, at int) {
	t.Helper()
	got, f := Play(l)
	if f != (api.Fault{Err: err, At: at}) || len(got) != 0 {
		t.Errorf("%s: fault %v and %s come, not fault {%d %d} alone", what, f, toldShown(got), err, at)
	}
}

// checkFault tells whether an error comes at a statement, and nothing else.
func checkFault(t *testing.T, s string, err api.Errno, at int) {
	t.Helper()
	checkFaultOf(t, s, read(t, s), err, at)
}

// shop is two tables with rows; what comes behind is numbered from 4 on.
const shop = "create table t (a int, b text); create table u (a int); insert into t values (1, 'x'), (2, 'y'), (2, 'y'), (null, 'z'); insert into u values (2), (3); "

func TestM1NothingIsShown(t *testing.T) {
	checkList(t, "nil", nil, "")
	checkList(t, "no statements", []api.Stmt{}, "")
	check(t, shop, "")
	check(t, shop+"create view v as select * from t; delete from t;", "")
}

func TestM1WhatWrongSaysComesFirst(t *testing.T) {
	twice := read(t, "create table t (a int); create table t (a int);")
	odd := api.Stmt{Kind: 99}
	checkFaultOf(t, "a kind that is none", joined(t, shop, odd), api.ErrKind, 4)
	checkFaultOf(t, "a kind that is none, behind a table twice", joined(t, twice, odd), api.ErrKind, 2)
	checkFaultOf(t, "no rows, behind a table twice", joined(t, twice, inserted("t")), api.ErrMany, 2)
	checkFaultOf(t, "a name that is none", joined(t, twice, inserted("T", ones(1)...)), api.ErrName, 2)
	checkFaultOf(t, "a value that is none, of no table", []api.Stmt{inserted("z", []api.Val{num(api.MaxInt + 1)})}, api.ErrRange, 0)
	checkFaultOf(t, "columns of a kind that is none", []api.Stmt{{Kind: api.StTable, Name: "t", Cols: []api.Column{{Name: "a", Type: api.VNull}}}}, api.ErrKind, 0)
	many := make([]api.Stmt, api.MaxStmts+1)
	copy(many, twice)
	checkFaultOf(t, "too many", many, api.ErrMany, 0)
	just := joined(t, "create table t (a int);")
	for len(just) < api.MaxStmts {
		just = append(just, read(t, "insert into t values (1);")...)
	}
	just[api.MaxStmts-1] = read(t, "show select * from t;")[0]
	checkList(t, "just as many as may be", just, "59 a: 1 *58")
}

func TestM1TheFirstErrorIsTold(t *testing.T) {
	checkFault(t, shop+"show select * from t; show select * from z; insert into z values (1);", api.ErrName, 5)
	checkFault(t, shop+"insert into u values ('x'); show select * from z;", api.ErrType, 4)
	checkFault(t, "show select * from t; create table t (a int);", api.ErrName, 0)
}

func TestM1Tables(t *testing.T) {
	check(t, "create table t (a int, b text, c bool); show select * from t;", "1 a b c:")
	check(t, "create table t (a int); create table u (a int, t int); show select * from t join u on true;", "2 a a t:")
	checkFault(t, shop+"create table t (c int);", api.ErrName, 4)
	checkFault(t, shop+"create table w (c int, c int);", api.ErrName, 4)
	checkFault(t, shop+"create table w (c int, d int, e text, d bool);", api.ErrName, 4)
	checkFault(t, shop+"create view v as select * from t; create table v (a int);", api.ErrName, 5)
	check(t, "create table a (a int, b int, c int, d int, e int, f int, g int, h int); show select * from a;", "1 a b c d e f g h:")
}

// tables makes so many tables, called t0, t1 and so on.
func tables(n int) string {
	var out strings.Builder
	for i := range n {
		out.WriteString("create table t" + strconv.Itoa(i) + " (a int); ")
	}
	return out.String()
}

// views makes so many views of t0, called v0, v1 and so on.
func views(n int) string {
	var out strings.Builder
	for i := range n {
		out.WriteString("create view v" + strconv.Itoa(i) + " as select a + 1 as a from t0; ")
	}
	return out.String()
}

func TestM1HowManyTablesThereMayBe(t *testing.T) {
	check(t, tables(8)+"insert into t7 values (1); show select * from t7;", "9 a: 1")
	checkFault(t, tables(9), api.ErrMany, 8)
	check(t, tables(8)+views(8)+"insert into t0 values (1); show select * from v7;", "17 a: 2")
	check(t, tables(1)+views(15)+"insert into t0 values (1); show select * from v14;", "17 a: 2")
	checkFault(t, tables(8)+views(9), api.ErrMany, 16)
	checkFault(t, tables(1)+views(16), api.ErrMany, 16)
	checkFault(t, tables(1)+views(15)+"create table t1 (a int);", api.ErrMany, 16)
	check(t, tables(1)+views(14)+"create table t1 (a int); show select * from t1;", "16 a:")
	// Names are told ahead of it.
	checkFault(t, tables(8)+"create table t3 (a int);", api.ErrName, 8)
	checkFault(t, tables(8)+"create table w (a int, a int);", api.ErrName, 8)
	checkFault(t, tables(1)+views(15)+"create table v3 (a int);", api.ErrName, 16)
	checkFault(t, tables(1)+views(15)+"create view v3 as select * from t0;", api.ErrName, 16)
	checkFault(t, tables(1)+views(15)+"create view w as select a, a from t0;", api.ErrName, 16)
	// And so is what is wrong with a view's query.
	checkFault(t, tables(1)+views(15)+"create view w as select a, count(*) as n from t0;", api.ErrFit, 16)
}

func TestM1Views(t *testing.T) {
	check(t, "create table t (a int); create view v as select a + 1 as b from t; insert into t values (7); show select * from v;", "3 b: 8")
	check(t, shop+"create view v as select t.a as p, b from t join u on t.a = u.a; show select * from v; insert into u values (1); show select * from v; delete from t where a = 2; show select * from v;",
		"5 p b: 2 'y' *2; 7 p b: 1 'x', 2 'y' *2; 9 p b: 1 'x'")
	check(t, shop+"create view v as select count(*) as n, sum(a) as s from t; delete from t; show select * from v; insert into t values (7, null); show select * from v;",
		"6 n s: 0 null; 8 n s: 1 7")
	// Views of views, and a view whose columns have names of their own.
	check(t, shop+"create view v as select distinct a from t; create view w as select a from v anti join u on v.a = u.a; insert into u values (1); show select * from w; show select a from v;",
		"7 a: null; 8 a: null, 1, 2")
	check(t, shop+"create view v as select a, a + 1 from u; show select c2, v.a from v; show select * from v;", "5 c2 a: 3 2, 4 3; 6 a c2: 2 3, 3 4")
	// What may be of any type stays so.
	check(t, shop+"create view v as select null as n from u; show select n + 1 as x, n || 'x' as y from v;", "5 x y: null null *2")
	// A table that comes later changes nothing of a view.
	check(t, shop+"create view v as select a from u; create table s (b text); insert into s values ('q'); show select * from v; show select * from s;", "7 a: 2, 3; 8 b: 'q'")
	check(t, shop+"create view v as select a from t order by a limit 2; insert into t values (0, 'q'); show select * from v;", "6 a: null, 0")
}

func TestM1WrongViews(t *testing.T) {
	checkFault(t, shop+"create view t as select * from u;", api.ErrName, 4)
	checkFault(t, shop+"create view v as select * from u; create view v as select * from t;", api.ErrName, 5)
	checkFault(t, shop+"create view v as select a, a from t;", api.ErrName, 4)
	checkFault(t, shop+"create view v as select * from t join u on true;", api.ErrName, 4)
	checkFault(t, shop+"create view v as select 1 as c2, 2 from t;", api.ErrName, 4)
	checkFault(t, shop+"create view v as select z from t;", api.ErrName, 4)
	checkFault(t, shop+"create view v as select * from v;", api.ErrName, 4)
	checkFault(t, shop+"create view v as select a from t union select b from t;", api.ErrType, 4)
	// The query is told ahead of the name.
	checkFault(t, shop+"create view t as select a + b as c from t;", api.ErrType, 4)
	checkFault(t, shop+"create view t as select a from t group by b;", api.ErrFit, 4)
}

// product is all pairs of all pairs of what a table u has.
const product = "select x.a as p, y.a as q, z.a as r from u as x join u as y on true join u as z on true"

func TestM1ViewsThatAreTooLarge(t *testing.T) {
	made := read(t, "create table u (a int);")
	large := joined(t, made, inserted("u", numbers(0, 8)...))
	heavy := joined(t, made, inserted("u", ones(101)...))
	checkFaultOf(t, "512 rows", joined(t, large, "create view v as "+product+";"), api.ErrMany, 2)
	checkFaultOf(t, "a row 101^3 times", joined(t, heavy, "create view v as "+product+";"), api.ErrRange, 2)
	// A part that is too large is told, even if less would be left.
	checkFaultOf(t, "first rows of 512", joined(t, large, "create view v as "+product+" order by p limit 1;"), api.ErrMany, 2)
	checkList(t, "343 rows", joined(t, made, inserted("u", numbers(0, 7)...), "create view v as "+product+"; show select count(*) as n from v;"), "3 n: 343")
	checkList(t, "a row 100^3 times", joined(t, made, inserted("u", ones(100)...), "create view v as "+product+"; show select * from v;"), "3 p q r: 1 1 1 *1000000")
	// Names, and how many there are, are told ahead of it.
	checkFaultOf(t, "a name that is taken", joined(t, heavy, "create view u as "+product+";"), api.ErrName, 2)
	checkFaultOf(t, "one name twice", joined(t, heavy, "create view v as "+strings.Replace(product, "as r", "as q", 1)+";"), api.ErrName, 2)
	full := joined(t, heavy, tables(1), views(14), "create view v as "+product+";")
	checkFaultOf(t, "one view too many", full, api.ErrMany, 17)
}

func TestM1Inserts(t *testing.T) {
	check(t, shop+"show select * from t; show select * from u;", "4 a b: null 'z', 1 'x', 2 'y' *2; 5 a: 2, 3")
	check(t, shop+"insert into u values (2), (null), (2), (2); show select * from u;", "5 a: null, 2 *4, 3")
	check(t, shop+"insert into u values (-5); insert into u values (-5); show select * from u;", "6 a: -5 *2, 2, 3")
	check(t, "create table t (a bool); insert into t values (true), (false), (null), (true); show select * from t;", "2 a: null, false, true *2")
	// One value is the same as another one, whatever its kind has not.
	junk := []api.Val{{Kind: api.VInt, N: 2, Text: "junk"}}
	checkList(t, "junk", joined(t, shop, inserted("u", junk, []api.Val{{Kind: api.VNull, N: 7, Text: "junk"}}), "show select * from u;"), "5 a: null, 2 *2, 3")
}

func TestM1WrongInserts(t *testing.T) {
	checkFault(t, shop+"insert into z values (1);", api.ErrName, 4)
	checkFault(t, shop+"create view v as select * from u; insert into v values (1);", api.ErrName, 5)
	checkFault(t, "insert into t values (1); create table t (a int);", api.ErrName, 0)
	checkFault(t, shop+"insert into u values ('x');", api.ErrType, 4)
	checkFault(t, shop+"insert into u values (true);", api.ErrType, 4)
	checkFault(t, shop+"insert into t values ('x', 1);", api.ErrType, 4)
	checkFault(t, shop+"insert into u values (1, 2);", api.ErrFit, 4)
	checkFault(t, shop+"insert into t values (1);", api.ErrFit, 4)
	// Row by row.
	checkFault(t, shop+"insert into u values (1), (2), ('x'), (1, 2);", api.ErrType, 4)
	checkFault(t, shop+"insert into u values (1), (1, 2), ('x');", api.ErrFit, 4)
	checkFault(t, shop+"insert into z values ('x', 1), (1);", api.ErrName, 4)
}

func TestM1HowManyRowsThereMayBe(t *testing.T) {
	full := joined(t, "create table u (a int);", inserted("u", numbers(1, api.MaxRows)...))
	show := "show select count(*) as n, max(a) as m from u;"
	checkList(t, "as many as may be", joined(t, full, show), "2 n m: 400 400")
	checkFaultOf(t, "one more", joined(t, full, inserted("u", numbers(0, 1)...)), api.ErrMany, 2)
	checkFaultOf(t, "one more, among others", joined(t, full, inserted("u", numbers(5, api.MaxRows)...)), api.ErrMany, 2)
	checkFaultOf(t, "one more that doesn't fit", joined(t, full, inserted("u", []api.Val{num(0)}, []api.Val{text("x")})), api.ErrType, 2)
	checkList(t, "the same once more", joined(t, full, inserted("u", numbers(1, api.MaxRows)...), show), "3 n m: 800 400")
	checkList(t, "one goes, and one comes", joined(t, full, "delete from u where a = 7;", inserted("u", numbers(500, 1)...), show), "4 n m: 400 500")
	checkList(t, "all go, and all come", joined(t, full, "delete from u;", inserted("u", numbers(501, api.MaxRows)...), show), "4 n m: 400 900")
}

func TestM1Deletes(t *testing.T) {
	check(t, shop+"delete from t; show select * from t; show select * from u;", "5 a b:; 6 a: 2, 3")
	// A row goes as often as it is there; what is not known is not true.
	check(t, shop+"delete from t where a = 2; show select * from t;", "5 a b: null 'z', 1 'x'")
	check(t, shop+"delete from t where a <> 2; show select * from t;", "5 a b: null 'z', 2 'y' *2")
	check(t, shop+"delete from t where a is null; show select * from t;", "5 a b: 1 'x', 2 'y' *2")
	check(t, shop+"delete from t where null; show select * from t;", "5 a b: null 'z', 1 'x', 2 'y' *2")
	check(t, shop+"delete from t where false; show select * from u;", "5 a: 2, 3")
	check(t, shop+"delete from t where true; show select * from t;", "5 a b:")
	check(t, shop+"delete from t where t.b = 'x' or t.a + 1 > 2; show select * from t;", "5 a b: null 'z'")
	check(t, shop+"delete from t; delete from t; delete from t where a = 1; insert into t values (5, 'q'); show select * from t;", "8 a b: 5 'q'")
}

func TestM1WrongDeletes(t *testing.T) {
	checkFault(t, shop+"delete from z;", api.ErrName, 4)
	checkFault(t, shop+"create view v as select * from t; delete from v;", api.ErrName, 5)
	checkFault(t, shop+"create view v as select * from t; delete from v where a;", api.ErrName, 5)
	checkFault(t, shop+"delete from t where z;", api.ErrName, 4)
	checkFault(t, shop+"delete from t where u.a = 1;", api.ErrName, 4)
	checkFault(t, shop+"delete from t where count(*) = 1;", api.ErrFit, 4)
	checkFault(t, shop+"delete from z where count(*) = 1;", api.ErrName, 4)
	checkFault(t, shop+"delete from t where b;", api.ErrType, 4)
	checkFault(t, shop+"delete from t where a + 1;", api.ErrType, 4)
	checkFault(t, shop+"delete from t where a = b;", api.ErrType, 4)
	// Names are told ahead of types, even if there are no rows.
	checkFault(t, shop+"delete from t where a = b and z;", api.ErrName, 4)
	checkFault(t, "create table t (b text); delete from t where b;", api.ErrType, 1)
}

func TestM1Shows(t *testing.T) {
	check(t, shop+"show select a, count(*) as n from t group by a;", "4 a n: null 1, 1 1, 2 2")
	check(t, shop+"show select a, a, a + 1 from u;", "4 a a c3: 2 2 3, 3 3 4")
	check(t, shop+"show select t.a as a from t left join u on t.a = u.a order by a limit 2;", "4 a: null, 1")
	check(t, shop+"show select * from u; delete from u; show select * from u; insert into u values (9); show select * from u;", "4 a: 2, 3; 6 a:; 8 a: 9")
	check(t, shop+"show select * from t as x join u on x.a = u.a;", "4 a b a: 2 'y' 2 *2")
	check(t, shop+"show select a from t except all select a from u;", "4 a: null, 1, 2")
}

func TestM1WrongShows(t *testing.T) {
	checkFault(t, shop+"show select * from z;", api.ErrName, 4)
	checkFault(t, shop+"show select a from t left join u on t.a = u.a order by a limit 2;", api.ErrName, 4)
	checkFault(t, shop+"show select a + b as c from t;", api.ErrType, 4)
	checkFault(t, shop+"show select a, count(*) from t;", api.ErrFit, 4)
	large := joined(t, "create table u (a int);", inserted("u", numbers(0, 8)...))
	checkFaultOf(t, "512 rows", joined(t, large, "show select * from u; show "+product+";"), api.ErrMany, 3)
	heavy := joined(t, "create table u (a int);", inserted("u", ones(101)...))
	checkFaultOf(t, "a row 101^3 times", joined(t, heavy, "show "+product+";"), api.ErrRange, 2)
	checkFaultOf(t, "a query that is wrong, of too much", joined(t, heavy, "show "+strings.Replace(product, "x.a", "x.b", 1)+";"), api.ErrName, 2)
}

// Where a view would become too large, all may go on, or end there; but nothing panics, and beside a fault nothing comes.
func TestM2ViewsThatBecomeTooLarge(t *testing.T) {
	made := "create table u (a int); create view v as " + product + "; "
	for _, rows := range [][][]api.Val{numbers(0, 8), ones(101)} {
		for _, behind := range []string{"", "show select * from u;", "show select count(*) as n from v;", "delete from u; show select * from v;", "delete from u where a = 1; show select * from v;"} {
			l := joined(t, made, inserted("u", rows...), behind)
			got, f := Play(l)
			if f.Err != api.OK && (len(got) != 0 || f.At < 2) || f.Err == api.OK && f.At != 0 {
				t.Errorf("%s: fault %v and %s come", behind, f, toldShown(got))
			}
			if again, f2 := Play(l); f2 != f || told(again) != told(got) {
				t.Errorf("%s: fault %v and %s come, and then fault %v and %s", behind, f, toldShown(got), f2, toldShown(again))
			}
		}
	}
	// What doesn't become too large is sure, just up to the limit.
	checkList(t, "343 rows", joined(t, made, inserted("u", numbers(0, 7)...), "show select count(*) as n from v;"), "3 n: 343")
	checkList(t, "a row 100^3 times", joined(t, made, inserted("u", ones(100)...), "show select * from v; delete from u; show select * from v;"), "3 p q r: 1 1 1 *1000000; 5 p q r:")
}

// An error that is sure is told at an insert or a delete, whatever a view would come to.
func TestM2OtherErrorsStay(t *testing.T) {
	made := "create table u (a int); create view v as select * from u; "
	checkFault(t, made+"insert into u values ('x');", api.ErrType, 2)
	checkFault(t, made+"insert into u values (1, 2);", api.ErrFit, 2)
	checkFault(t, made+"delete from u where b;", api.ErrName, 2)
	checkFaultOf(t, "too many rows", joined(t, made, inserted("u", numbers(0, api.MaxRows)...), inserted("u", numbers(-1, 1)...)), api.ErrMany, 3)
}
