package bind

import (
	"slices"
	"strings"
	"testing"

	"tidemark/api"
)

func TestL4Between(t *testing.T) {
	a, d, p := maps(table(0), col(0)), maps(table(1), col(1)), ofView()
	add := plan(api.PAdd, a, d)
	less := plan(api.PPositive, plan(api.PSub, plan(api.PDistinct, a), plan(api.PDistinct, d)))
	check(t, "select a from t union all select d from u", add, "a:int")
	check(t, "select a from t union select d from u", plan(api.PDistinct, add), "a:int")
	check(t, "select a from t except all select d from u", plan(api.PPositive, plan(api.PSub, a, d)), "a:int")
	check(t, "select a from t except select d from u", less, "a:int")
	// From the left, whatever stands between.
	check(t, "select a from t union all select d from u except all select * from v union select a from t", plan(api.PDistinct, plan(api.PAdd, plan(api.PPositive, plan(api.PSub, add, p)), a)), "a:int")
	check(t, "select a from t except select d from u except select * from v", plan(api.PPositive, plan(api.PSub, plan(api.PDistinct, less), plan(api.PDistinct, p))), "a:int")
	// Each select is by itself: names of one are not those of another.
	check(t, "select y . a from t as y union all select y . d from u as y", add, "a:int")
	checkError(t, "select y . a from t as y union all select y . d from u", api.ErrName)
	check(t, "select distinct a from t union all select count ( * ) from t", plan(api.PAdd, plan(api.PDistinct, a), maps(parted(table(0), nil, rows()), col(0))), "a:int")
	// What they are together is of the type that is known of one of them.
	check(t, "select null from t union all select a from t", plan(api.PAdd, maps(table(0), lit(null)), a), "c1:int")
	checkError(t, "select a from t union all select b from t", api.ErrType)
	checkError(t, "select a from t union all select a , b from t", api.ErrFit)
}

func TestL4Limit(t *testing.T) {
	a := maps(table(0), col(0))
	check(t, "select a from t order by a limit 3", top(3, a, col(0)), "a:int")
	check(t, "select a from t order by 7 limit 0", top(0, a, lit(num(7))), "a:int")
	check(t, "select a from t order by a limit 50", top(api.MaxTop, a, col(0)), "a:int")
	check(t, "select * from t order by c , a + 1 limit 3", top(3, table(0), col(2), made(api.XAdd, col(0), lit(num(1)))), "a:int b:text c:bool")
	check(t, "select a as q , b as a from t order by a limit 1", top(1, maps(table(0), col(0), col(1)), col(1)), "q:int a:text")
	check(t, "select t . a from t order by a limit 1", top(1, a, col(0)), "a:int")
	check(t, "select count ( * ) from t order by c1 limit 1", top(1, maps(parted(table(0), nil, rows()), col(0)), col(0)), "c1:int")
	// All selects are ahead of it, and the first one gives the names.
	add := plan(api.PAdd, a, maps(table(1), col(1)))
	check(t, "select a as q from t union all select d from u order by q limit 2", top(2, add, col(0)), "q:int")
	for _, s := range []string{
		"select a from t order by b limit 1",                                  // it is no column any more
		"select a as q from t order by a limit 1",                             // it has another name
		"select a from t order by t . a limit 1",                              // it is no source's
		"select a from t order by a . a limit 1",                              // and no other one's
		"select a , b as a from t order by a limit 1",                         // there are two
		"select * from w order by n limit 1",                                  // and here
		"select a + 1 from t order by c2 limit 1",                             // there is only c1
		"select a as q from t union all select d from u order by d limit 1",   // it is the second one's
		"select 1 from t semi join u on true order by u . d limit 1",          // it is gone
		"select t . a from t join u on t . a = u . a order by u . a limit 10", // it was a source's
		"select 1 , 2 as c1 from t order by c1 limit 1",                       // both are called so
	} {
		checkError(t, s, api.ErrName)
	}
	// Without a limit nothing is asked of Order.
	q := asked(t, "select a from t order by z limit 1")
	for _, limit := range []int{-1, -100} {
		q.Limit = limit
		if p, _, err := Query(shop(), q); err != api.OK || told(p) != told(a) {
			t.Errorf("limit %d: error %d and %s come", limit, err, told(p))
		}
	}
}

func TestL4Names(t *testing.T) {
	items := maps(table(0), col(0), col(0), col(1), made(api.XNot, col(2)), lit(num(1)), lit(num(1)))
	check(t, "select a , a as z , t . b , not c , 1 , 1 as a from t", items, "a:int z:int b:text c4:bool c5:int a:int")
	check(t, "select ( a ) , ( ( t . b ) ) from t", maps(table(0), col(0), col(1)), "a:int b:text")
	check(t, "select a , count ( * ) , max ( b ) as m from t group by a", maps(parted(table(0), these(col(0)), rows(), agg(api.AgMax, col(1))), col(0), col(1), col(2)), "a:int c2:int m:text")
	check(t, "select a as c1 , 1 from t", maps(table(0), col(0), lit(num(1))), "c1:int c2:int")
	eight := "select 1 , 2 , 3 , 4 , 5 , 6 , 7 , 8 from t"
	var want []api.Expr
	for i := range api.MaxCols {
		want = append(want, lit(num(int64(i+1))))
	}
	check(t, eight, maps(table(0), want...), "c1:int c2:int c3:int c4:int c5:int c6:int c7:int c8:int")
	// With Star they are the columns' own, whatever the sources are called.
	check(t, "select * from t as y left join x on true", by(api.PLeft, lit(yes), table(0), maps(table(1), col(1))), "a:int b:text c:bool d:int")
	check(t, "select * from x union all select a from t", plan(api.PAdd, maps(table(1), col(1)), maps(table(0), col(0))), "d:int")
	check(t, "select a from t except all select * from x", plan(api.PPositive, plan(api.PSub, maps(table(0), col(0)), maps(table(1), col(1)))), "a:int")
}

// The first of the errors is told, in the chapter's order.
func TestL2Order(t *testing.T) {
	for _, c := range []struct {
		s    string
		want api.Errno
	}{
		// Source by source: its name, what it is called, its On.
		{"select 1 from t join y on count ( * ) = 1", api.ErrName},
		{"select 1 from t join t on count ( * ) = 1", api.ErrName},
		{"select 1 from t join u on count ( * ) = 1 join y on true", api.ErrFit},
		{"select 1 from t join u on count ( * ) = 1 join t on true", api.ErrFit},
		{"select 1 from t join u on z = 1 join v on count ( * ) = 1", api.ErrName},
		// From, ahead of Where, ahead of Star.
		{"select 1 from t join u on count ( * ) = 1 where z", api.ErrFit},
		{"select 1 from y where count ( * ) = 1", api.ErrName},
		{"select * from t where z group by a", api.ErrName},
		{"select sum ( b ) from t where z", api.ErrName},
		// Star, ahead of Group, ahead of the items, ahead of Having.
		{"select * from t group by z", api.ErrFit},
		{"select * from t having z", api.ErrFit},
		{"select b from t group by z", api.ErrName},
		{"select sum ( z ) from t group by count ( * )", api.ErrFit},
		{"select 1 from t group by z , count ( * )", api.ErrName},
		{"select 1 from t group by count ( * ) , z", api.ErrFit},
		{"select sum ( z ) , b from t", api.ErrName},
		{"select b , sum ( z ) from t", api.ErrFit},
		{"select sum ( z ) from t having b = 'x'", api.ErrName},
		{"select b from t having sum ( z ) = 1", api.ErrFit},
		{"select 1 from t group by count ( * ) having sum ( z ) = 1", api.ErrFit},
		// Select by select, ahead of Order.
		{"select z from t union select 1 from t where count ( * ) = 1", api.ErrName},
		{"select 1 from t where count ( * ) = 1 union select z from t", api.ErrFit},
		{"select a from t union all select b , c from t where z", api.ErrName},
		{"select b , sum ( a ) from t order by z limit 1", api.ErrFit},
		{"select a from t union all select * from t having true order by z limit 1", api.ErrFit},
		{"select a from t order by z , count ( * ) limit 1", api.ErrName},
		{"select a from t order by count ( * ) , z limit 1", api.ErrFit},
		// Names, ahead of what Cols says.
		{"select a from t where b", api.ErrType},
		{"select z from t where b", api.ErrName},
		{"select a from t where b union all select z from t", api.ErrName},
		{"select a from t where b order by z limit 1", api.ErrName},
		{"select a + b from t order by count ( * ) limit 1", api.ErrFit},
		{"select a , b from t union all select z from t", api.ErrName},
		{"select b + 1 from t join u on t . a union all select * from t group by a", api.ErrFit},
	} {
		checkError(t, c.s, c.want)
	}
}

// What Cols says of the plan is told.
func TestL2WhatColsSays(t *testing.T) {
	for s, want := range map[string]api.Errno{
		"select a from t where a":                                 api.ErrType,
		"select b from t join u on d":                             api.ErrType,
		"select a + b from t":                                     api.ErrType,
		"select sum ( b ) from t":                                 api.ErrType,
		"select 1 from t having 1":                                api.ErrType,
		"select 1 from t group by a + b":                          api.ErrType,
		"select a from t order by a || 'x' limit 1":               api.ErrType,
		"select * from t union select * from u":                   api.ErrFit,
		"select * from t join t as y on true join t as z on true": api.ErrMany,
		"select 1 from t join t as y on true join t as z on true": api.ErrMany,
	} {
		checkError(t, s, want)
	}
	// Keys and aggregates are columns on the way, at most MaxCols.
	keys := strings.Repeat(" , a", api.MaxCols-1)
	if _, _, err := Query(shop(), asked(t, "select a from t group by a"+keys)); err != api.OK {
		t.Errorf("as many keys as may be: error %d comes", err)
	}
	checkError(t, "select max ( b ) from t group by a"+keys, api.ErrMany)
	counts := strings.Repeat(" + count ( * )", api.MaxCols-1)
	if _, _, err := Query(shop(), asked(t, "select count ( * )"+counts+" from t")); err != api.OK {
		t.Errorf("as many aggregates as may be: error %d comes", err)
	}
	checkError(t, "select count ( * )"+counts+" + count ( * ) from t", api.ErrMany)
}

func TestL2TooManyTables(t *testing.T) {
	var rels []api.Rel
	for i := range api.MaxTables {
		rels = append(rels, rel("t"+string(rune('0'+i)), "a:int"))
	}
	checkOf(t, rels, "select * from t7", table(7), "a:int")
	more := append(slices.Clone(rels), rel("t8", "a:int"))
	checkErrorOf(t, more, asked(t, "select * from t0"), "a table too many", api.ErrMany)
	checkErrorOf(t, more, asked(t, "select * from t9"), "a table too many, and a name", api.ErrName)
	wide := append(slices.Clone(rels[:1]), rel("w", "a:int b:int c:int d:int e:int f:int g:int h:int i:int"))
	checkErrorOf(t, wide, asked(t, "select * from t0"), "a column too many", api.ErrMany)
	odd := append(slices.Clone(rels[:1]), api.Rel{Name: "w", Cols: []api.Column{{Name: "a", Type: 99}}})
	checkErrorOf(t, odd, asked(t, "select * from t0"), "no type", api.ErrKind)
	checkErrorOf(t, odd, asked(t, "select z from t0"), "no type, and a name", api.ErrName)
}

// Views may make a plan too deep, or too large.
func TestL2MuchOfViews(t *testing.T) {
	nested := func(deep int) []api.Rel {
		p := table(0)
		for range deep - 1 {
			p = plan(api.PDistinct, p)
		}
		return []api.Rel{rel("t", "a:int"), view("v", "a:int", p)}
	}
	deep := nested(api.MaxNest - 1)
	checkOf(t, deep, "select a from v", maps(deep[1].Plan, col(0)), "a:int")
	checkErrorOf(t, deep, asked(t, "select distinct a from v"), "too deep", api.ErrMuch)
	checkErrorOf(t, deep, asked(t, "select distinct z from v"), "too deep, and a name", api.ErrName)
	deep = nested(api.MaxNest)
	checkOf(t, deep, "select * from v", deep[1].Plan, "a:int")
	checkErrorOf(t, deep, asked(t, "select * from t union all select a from v"), "too deep", api.ErrMuch)
	wide := nested(1)
	for range 4 {
		wide[1].Plan = plan(api.PAdd, wide[1].Plan, wide[1].Plan)
	}
	if _, _, err := Query(wide, asked(t, "select * from v")); err != api.OK {
		t.Errorf("31 nodes: error %d comes", err)
	}
	checkErrorOf(t, wide, asked(t, "select * from v union all select * from v"), "63 nodes", api.ErrMuch)
}
