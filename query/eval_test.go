package query

import (
	"fmt"
	"testing"

	"tidemark/api"
	"tidemark/ops"
	"tidemark/zsets"
)

func TestE2WrongData(t *testing.T) {
	tables := [][]int{{integer}, {integer, texts}, {}}
	good := []rows{{row(1, num(1)), row(2, num(2))}, {row(-1, null, text("a"))}, {row(3)}}
	nine := row(1, make([]api.Val, api.MaxCols+1)...)
	for _, c := range []struct {
		what string
		data []rows
		want api.Errno
	}{
		{"no lists", nil, api.ErrFit},
		{"too few lists", good[:2], api.ErrFit},
		{"too few lists, and wrong ones", []rows{{row(0)}}, api.ErrFit},
		{"too many lists", []rows{good[0], good[1], good[2], nil}, api.ErrFit},
		{"a row twice", []rows{{row(1, num(1)), row(1, num(1))}, good[1], good[2]}, api.ErrForm},
		{"rows that fall", []rows{good[0], {row(1, num(2), null), row(1, num(1), null)}, good[2]}, api.ErrForm},
		{"no weight", []rows{good[0], good[1], {row(0)}}, api.ErrRange},
		{"too much weight", []rows{good[0], good[1], {row(most + 1)}}, api.ErrRange},
		{"no kind of values", []rows{{row(1, api.Val{})}, good[1], good[2]}, api.ErrKind},
		{"too many values", []rows{{nine}, good[1], good[2]}, api.ErrMany},
		{"too many rows", []rows{good[0], good[1], make(rows, api.MaxRows+1)}, api.ErrMany},
		{"a value too few", []rows{good[0], {row(1, num(1))}, good[2]}, api.ErrFit},
		{"a value too many", []rows{good[0], good[1], {row(1, null)}}, api.ErrFit},
		{"another type", []rows{good[0], {row(1, text("a"), text("a"))}, good[2]}, api.ErrType},
		{"what is no set ahead of what doesn't fit", []rows{{row(1, text("a")), row(1, text("a"))}, good[1], good[2]}, api.ErrForm},
		{"what doesn't fit ahead of the next table", []rows{{row(1, text("a"))}, {row(0)}, good[2]}, api.ErrType},
		{"the first table ahead of the next one", []rows{{row(0, num(1))}, {row(1)}, good[2]}, api.ErrRange},
	} {
		if err := Wrong(tables, c.data); err != c.want {
			t.Errorf("%s: Wrong tells error %d, not %d", c.what, err, c.want)
		}
		// It is asked of all tables, wherever the plan looks, and of whatever is left of them.
		for _, p := range []api.Plan{table(0), table(1), table(2), by(api.PFilter, lit(no), table(0)), top(0, table(0))} {
			got, err := Eval(tables, p, c.data)
			checkError(t, c.what, got, err, c.want)
		}
	}
	if err := Wrong(tables, good); err != api.OK {
		t.Errorf("nothing is wrong: Wrong tells error %d", err)
	}
	for i, p := range []api.Plan{table(0), table(1), table(2)} {
		got, err := Eval(tables, p, good)
		check(t, "a table", got, err, good[i])
	}
}

func TestE2Table(t *testing.T) {
	tables := [][]int{{integer, none, texts}, {boolean}}
	data := []rows{{row(3, null, null, api.Val{Kind: api.VText, N: 7, Text: "a"}), row(-2, api.Val{Kind: api.VInt, N: 5, Text: "junk"}, null, null)}, nil}
	got, err := Eval(tables, table(0), data)
	check(t, "a table", got, err, rows{row(3, null, null, text("a")), row(-2, num(5), null, null)})
	got, err = Eval(tables, table(1), data)
	check(t, "a table of nothing", got, err, nil)
	full := make(rows, api.MaxRows)
	for i := range full {
		full[i] = row(-most, num(int64(i)))
	}
	got, err = Eval([][]int{{integer}}, table(0), []rows{full})
	check(t, "as many rows as may be", got, err, full)
}

// shop is two tables, of who is there and of what was bought.
func shop() ([][]int, []rows) {
	tables := [][]int{{integer, texts}, {integer, integer}}
	people := rows{row(1, num(1), text("ann")), row(2, num(2), text("bob")), row(-1, num(3), text("cat")), row(1, num(4), null)}
	bought := rows{row(1, null, num(5)), row(3, num(1), num(10)), row(1, num(1), num(20)), row(-2, num(2), num(7)), row(2, num(3), num(1))}
	return tables, []rows{people, bought}
}

func TestE2OfOne(t *testing.T) {
	tables, data := shop()
	people, bought := data[0], data[1]
	sums := grouped(table(1), these(col(0)), agg(api.AgRows, api.Expr{}), agg(api.AgSum, col(1)), agg(api.AgMax, col(1)))
	for _, c := range []struct {
		what string
		p    api.Plan
		want rows
	}{
		{"PFilter", by(api.PFilter, made(api.XLt, col(0), lit(num(3))), table(0)), people[:2]},
		{"PFilter by what is not known", by(api.PFilter, lit(null), table(0)), nil},
		{"PMap", mapped(table(1), made(api.XAdd, col(1), lit(num(1))), lit(yes)), rows{row(2, num(2), yes), row(1, num(6), yes), row(-2, num(8), yes), row(3, num(11), yes), row(1, num(21), yes)}},
		{"PMap of those that are alike", mapped(table(1), made(api.XIsNull, col(0))), rows{row(4, no), row(1, yes)}},
		{"PPositive", plan(api.PPositive, table(0)), rows{people[0], people[1], people[3]}},
		{"PDistinct", plan(api.PDistinct, table(1)), rows{row(1, null, num(5)), row(1, num(1), num(10)), row(1, num(1), num(20)), row(1, num(3), num(1))}},
		{"PGroup", sums, rows{row(1, null, num(1), num(5), num(5)), row(1, num(1), num(4), num(50), num(20)), row(1, num(3), num(2), num(2), num(1))}},
		{"PGroup of all", grouped(table(0), nil, agg(api.AgCount, col(1)), agg(api.AgMin, col(1))), rows{row(1, num(3), text("ann"))}},
		{"PTop", top(3, table(1), col(1)), rows{row(1, null, num(5)), row(2, num(3), num(1))}},
		{"PTop of some of those that are alike", top(4, table(1), col(0)), rows{bought[0], bought[1]}},
		{"PTop of the last ones", top(2, table(1), made(api.XSub, lit(num(0)), col(1))), rows{row(1, num(1), num(10)), bought[2]}},
		{"PTop of none", top(0, table(1), col(1)), nil},
	} {
		got, err := Eval(tables, c.p, data)
		check(t, c.what, got, err, c.want)
	}
	got, err := Eval(tables, grouped(table(0), nil, agg(api.AgRows, col(0)), agg(api.AgSum, col(0))), []rows{nil, nil})
	check(t, "PGroup of no rows", got, err, rows{row(1, num(0), null)})
	got, err = Eval(tables, grouped(table(0), these(col(0))), []rows{nil, bought})
	check(t, "PGroup of no rows, by keys", got, err, nil)
}

func TestE2OfTwo(t *testing.T) {
	tables, data := shop()
	people, bought := data[0], data[1]
	buys := same(0, 2)
	joins := rows{row(3, num(1), text("ann"), num(1), num(10)), row(1, num(1), text("ann"), num(1), num(20)), row(-4, num(2), text("bob"), num(2), num(7)), row(-2, num(3), text("cat"), num(3), num(1))}
	lefts := rows{joins[0], joins[1], row(2, num(2), text("bob"), null, null), joins[2], joins[3], row(1, num(4), null, null, null)}
	few := by(api.PFilter, made(api.XIsNull, col(0)), table(1))
	for _, c := range []struct {
		what string
		p    api.Plan
		want rows
	}{
		{"PJoin", by(api.PJoin, buys, table(0), table(1)), joins},
		{"PSemi", by(api.PSemi, buys, table(0), table(1)), rows{people[0], people[2]}},
		{"PAnti", by(api.PAnti, buys, table(0), table(1)), rows{people[1], people[3]}},
		{"PLeft", by(api.PLeft, buys, table(0), table(1)), lefts},
		{"PJoin the other way round", by(api.PJoin, made(api.XAnd, buys, made(api.XIsNull, col(3))), table(1), table(0)), nil},
		{"PSemi the other way round", by(api.PSemi, buys, table(1), table(0)), bought[1:4]},
		{"PAnti the other way round", by(api.PAnti, buys, table(1), table(0)), rows{bought[0], bought[4]}},
		{"PAdd", plan(api.PAdd, table(1), few), rows{row(2, null, num(5)), bought[1], bought[2], bought[3], bought[4]}},
		{"PSub", plan(api.PSub, few, table(1)), rows{row(-3, num(1), num(10)), row(-1, num(1), num(20)), row(2, num(2), num(7)), row(-2, num(3), num(1))}},
		{"PSub of itself", plan(api.PSub, table(0), table(0)), nil},
		{"PAdd of what is not known", plan(api.PAdd, mapped(few, lit(null), col(1)), mapped(few, col(1), lit(null))), rows{row(1, null, num(5)), row(1, num(5), null)}},
		{"PJoin of a table with itself", by(api.PJoin, same(0, 2), few, table(1)), nil},
		{"PJoin of all of two", by(api.PJoin, lit(yes), few, few), rows{row(1, null, num(5), null, num(5))}},
	} {
		got, err := Eval(tables, c.p, data)
		check(t, c.what, got, err, c.want)
	}
}

func TestE2ATableAddedToItself(t *testing.T) {
	tables, data := shop()
	for i, z := range data {
		var want rows
		for _, r := range z {
			want = append(want, row(2*r.W, r.Row...))
		}
		got, err := Eval(tables, plan(api.PAdd, table(i), table(i)), data)
		check(t, "a table added to itself", got, err, want)
	}
}

func TestE2Nested(t *testing.T) {
	tables, data := shop()
	spent := grouped(by(api.PJoin, same(0, 2), plan(api.PPositive, table(0)), table(1)), these(col(1)), agg(api.AgSum, col(3)))
	got, err := Eval(tables, spent, data)
	check(t, "what each has spent", got, err, rows{row(1, text("ann"), num(50))})
	most := top(1, mapped(by(api.PLeft, same(0, 2), table(0), table(1)), col(3), col(1)), made(api.XSub, lit(num(0)), made(api.XCoal, col(0), lit(num(0)))))
	got, err = Eval(tables, most, data)
	check(t, "the greatest price", got, err, rows{row(1, num(20), text("ann"))})
	deep := nested(api.MaxNest-2, plan(api.PSub, plan(api.PAdd, table(0), table(0)), table(0)))
	checkWrong(t, "too deep by one", tables, deep, api.ErrMuch)
	got, err = Eval(tables, deep.Kids[0], data)
	check(t, "as deep as may be", got, err, rows{data[0][0], row(1, num(2), text("bob")), data[0][3]})
	got, err = Eval(tables, sized(api.MaxPlan, 0), data)
	if err != api.OK || len(got) != len(data[0]) {
		t.Errorf("as large as may be: error %d and %s come", err, told(got))
	}
}

// What is too large on the way is told, even if less is left of it.
func TestE2TooLarge(t *testing.T) {
	tables := [][]int{{integer}, {integer}, {integer}}
	low, high := make(rows, api.MaxRows), make(rows, api.MaxRows)
	for i := range low {
		low[i], high[i] = row(1, num(int64(i))), row(1, num(int64(i+1)))
	}
	data := []rows{{row(most, num(1))}, low, high}
	heavy := plan(api.PAdd, table(0), table(0))
	light := plan(api.PSub, plan(api.PSub, table(1), table(1)), heavy)
	many := plan(api.PAdd, table(1), table(2))
	pairs := by(api.PJoin, lit(yes), table(1), table(2))
	for _, c := range []struct {
		what string
		p    api.Plan
		want api.Errno
	}{
		{"too heavy", heavy, api.ErrRange},
		{"too light", light, api.ErrRange},
		{"too many", many, api.ErrMany},
		{"too many by less", plan(api.PSub, table(1), table(2)), api.OK},
		{"too many pairs", pairs, api.ErrMany},
		{"too heavy a pair", by(api.PJoin, lit(yes), table(0), table(0)), api.ErrRange},
		{"too heavy a pair, or none", by(api.PLeft, lit(yes), table(0), table(0)), api.ErrRange},
		{"too heavy a map", mapped(plan(api.PAdd, table(0), table(1)), lit(null)), api.ErrRange},
		{"a filter of too heavy", by(api.PFilter, lit(no), heavy), api.ErrRange},
		{"none of too many", top(0, many), api.ErrMany},
		{"the first one", plan(api.PSub, heavy, many), api.ErrRange},
		{"the first one of the others", plan(api.PSub, many, heavy), api.ErrMany},
		{"the second one, not both together", by(api.PJoin, lit(yes), table(1), heavy), api.ErrRange},
		{"the second one, where nothing is on the left", by(api.PSemi, lit(yes), by(api.PFilter, lit(no), table(0)), many), api.ErrMany},
		{"the second one by the first one's rows", by(api.PAnti, lit(no), table(0), heavy), api.ErrRange},
		{"what is less again", plan(api.PSub, heavy, table(0)), api.ErrRange},
	} {
		got, err := Eval(tables, c.p, data)
		if c.want == api.OK {
			check(t, c.what, got, err, rows{low[0], row(-1, num(api.MaxRows))})
		} else {
			checkError(t, c.what, got, err, c.want)
		}
	}
	if _, err := Cols(tables, heavy); err != api.OK {
		t.Errorf("columns hang on rows: error %d", err)
	}
}

// plan makes a plan that mostly is right, nested at most so deep.
func (m *maker) plan(deep int) api.Plan {
	if deep == 1 || m.upTo(5) == 0 {
		return table(m.upTo(3))
	}
	kid := m.plan(deep - 1)
	switch kind := 2 + m.upTo(12); kind {
	case api.PFilter:
		return by(kind, m.expr(), kid)
	case api.PMap:
		return mapped(kid, m.exprs()...)
	case api.PJoin, api.PSemi, api.PAnti, api.PLeft, api.PAdd, api.PSub:
		return by(kind, m.expr(), kid, m.plan(deep-1))
	case api.PGroup:
		return grouped(kid, m.exprs(), agg(1+m.upTo(5), m.expr()))
	case api.PTop:
		return top(m.upTo(6), kid, m.exprs()...)
	default:
		return plan(kind, kid)
	}
}

func (m *maker) expr() api.Expr {
	l := these(col(0), col(1), col(m.upTo(4)), same(0, 1), same(0, 2), lit(yes), lit(null), made(api.XLt, col(0), lit(num(2))), made(api.XIsNull, col(1)), made(api.XAdd, col(0), col(0)))
	return l[m.upTo(len(l))]
}

func (m *maker) exprs() (out []api.Expr) {
	for range m.upTo(4) {
		out = append(out, m.expr())
	}
	return out
}

// plainly is what a node comes to, said once more: of what the calls say of its kids.
func plainly(tables [][]int, p api.Plan, data []rows) (rows, api.Errno) {
	var sets []rows
	var cols [][]int
	for _, k := range p.Kids {
		z, err := Eval(tables, k, data)
		if err != api.OK {
			return nil, err
		}
		c, _ := Cols(tables, k)
		sets, cols = append(sets, z), append(cols, c)
	}
	two := map[int]func(left, right []int, x api.Expr, a, b rows) (rows, api.Errno){api.PJoin: ops.Join, api.PSemi: ops.Semi, api.PAnti: ops.Anti, api.PLeft: ops.Left}
	switch p.Kind {
	case api.PTable:
		return data[p.N], api.OK
	case api.PFilter:
		return ops.Filter(cols[0], p.X, sets[0])
	case api.PMap:
		return ops.Map(cols[0], p.Xs, sets[0])
	case api.PAdd:
		return zsets.Add(sets[0], sets[1])
	case api.PSub:
		return zsets.Sub(sets[0], sets[1])
	case api.PPositive:
		return zsets.Positive(sets[0])
	case api.PDistinct:
		return zsets.Distinct(sets[0])
	case api.PGroup:
		return ops.Group(cols[0], p.Xs, p.Aggs, sets[0])
	case api.PTop:
		return ops.Top(cols[0], p.Xs, p.N, sets[0])
	}
	return two[p.Kind](cols[0], cols[1], p.X, sets[0], sets[1])
}

func TestE2PlainlyTheSame(t *testing.T) {
	m := maker{state: 5}
	tables := [][]int{{integer, texts}, {integer, integer}, {boolean, none}}
	right, large := map[int]int{}, 0
	for range 60000 {
		p := m.plan(2 + m.upTo(4))
		data := []rows{m.set(tables[0], 6), m.set(tables[1], 6), m.set(tables[2], 6)}
		cols, wrong := Cols(tables, p)
		got, err := Eval(tables, p, data)
		if wrong != api.OK {
			checkError(t, "a plan that is wrong", got, err, wrong)
			continue
		}
		right[p.Kind]++
		want, wantErr := plainly(tables, p, data)
		switch {
		case wantErr != api.OK:
			large++
			checkError(t, fmt.Sprint("kind ", p.Kind), got, err, wantErr)
		default:
			check(t, fmt.Sprint("kind ", p.Kind), got, err, want)
			if err := ops.Wrong(cols, got); err != api.OK {
				t.Errorf("kind %d: what comes doesn't fit its columns %d: %s", p.Kind, cols, told(got))
			}
		}
	}
	for kind := api.PTable; kind <= api.PTop; kind++ {
		if right[kind] < 200 {
			t.Errorf("kind %d comes %d times", kind, right[kind])
		}
	}
	if large < 20 {
		t.Errorf("%d plans are too large", large)
	}
}
