package rewrite

import (
	"fmt"
	"testing"

	"tidemark/api"
)

func TestI2True(t *testing.T) {
	junk := api.Expr{Kind: api.XLit, Col: 7, Val: api.Val{Kind: api.VBool, N: 1, Text: "junk"}}
	for _, p := range unchanged() {
		what := fmt.Sprint("into kind ", p.Kind)
		check(t, what, filter(lit(yes), p), p)
		check(t, what, filter(junk, p), p)
		check(t, what, filter(lit(yes), filter(lit(yes), p)), p)
	}
	// Nothing else is true ahead of rows.
	for _, x := range these(lit(no), lit(null), made(api.XNot, lit(no)), both(lit(yes), lit(yes)), made(api.XCoal, lit(yes), lit(yes))) {
		check(t, "into a table", filter(x, table(0)), filter(x, table(0)))
		check(t, "into a filter", filter(lit(yes), filter(x, table(0))), filter(x, table(0)))
		check(t, "into a sum", filter(x, plan(api.PAdd, table(0), table(0))), plan(api.PAdd, filter(x, table(0)), filter(x, table(0))))
	}
	other := api.Expr{Kind: api.XIsNull, Val: yes, Kids: these(col(0))}
	check(t, "what is no literal has no value", filter(other, table(0)), filter(isNull(0), table(0)))
	check(t, "a join by true", filter(same(1, 2), join(lit(yes), table(0), table(1))), join(both(lit(yes), same(1, 2)), table(0), table(1)))
}

func TestI2OfEachKind(t *testing.T) {
	x, y := less(), made(api.XGt, col(1), col(0))
	on := same(1, 2)
	for _, c := range []struct {
		what    string
		p, want api.Plan
	}{
		{"PTable", table(0), filter(y, table(0))},
		{"PFilter", filter(x, table(0)), filter(both(x, y), table(0))},
		{"PAdd", plan(api.PAdd, table(0), filter(x, table(0))), plan(api.PAdd, filter(y, table(0)), filter(both(x, y), table(0)))},
		{"PSub", plan(api.PSub, table(0), positive(table(0))), plan(api.PSub, filter(y, table(0)), positive(filter(y, table(0))))},
		{"PPositive", positive(plan(api.PSub, table(0), table(0))), positive(plan(api.PSub, filter(y, table(0)), filter(y, table(0))))},
		{"PDistinct", distinct(filter(x, table(0))), distinct(filter(both(x, y), table(0)))},
		{"PSemi", by(api.PSemi, on, distinct(table(0)), table(1)), by(api.PSemi, on, distinct(filter(y, table(0))), table(1))},
		{"PAnti", by(api.PAnti, on, table(0), distinct(table(1))), by(api.PAnti, on, filter(y, table(0)), distinct(table(1)))},
		{"PSemi of itself", by(api.PSemi, on, table(0), table(0)), by(api.PSemi, on, filter(y, table(0)), table(0))},
		{"two levels of PAnti", by(api.PAnti, on, by(api.PSemi, on, table(0), table(1)), table(1)), by(api.PAnti, on, by(api.PSemi, on, filter(y, table(0)), table(1)), table(1))},
	} {
		check(t, c.what, filter(y, c.p), c.want)
	}
	for _, p := range []api.Plan{unchanged()[2], unchanged()[6], unchanged()[11], unchanged()[12]} {
		check(t, fmt.Sprint("kind ", p.Kind), filter(x, p), filter(x, p))
		check(t, fmt.Sprint("below a sum, kind ", p.Kind), filter(x, plan(api.PAdd, p, p)), plan(api.PAdd, filter(x, p), filter(x, p)))
	}
	// What a filter can't pass, nothing is asked below; the filters below stay there.
	check(t, "PLeft", filter(x, by(api.PLeft, on, filter(y, distinct(table(0))), table(1))), filter(x, by(api.PLeft, on, distinct(filter(y, table(0))), table(1))))
}

// wide are three tables of one column, of two and of three, and a join of them, the last two first.
func wide() (tables [][]int, on api.Expr, p func(a, b, c api.Plan) api.Plan) {
	on = same(0, 1)
	return [][]int{{integer}, {integer, boolean}, {integer, integer, texts}}, on, func(a, b, c api.Plan) api.Plan {
		return join(on, a, join(same(0, 2), b, c))
	}
}

func TestI2Join(t *testing.T) {
	tables, on, p := wide()
	a, b, c := table(0), table(1), table(2)
	inner := same(0, 2)
	cat := made(api.XEq, made(api.XCat, col(5), col(5)), lit(text("aa")))
	for _, s := range []struct {
		what string
		x    api.Expr
		want api.Plan
	}{
		{"no column", lit(no), p(filter(lit(no), a), b, c)},
		{"no column", lit(null), p(filter(lit(null), a), b, c)},
		{"the first kid's", isNull(0), p(filter(isNull(0), a), b, c)},
		{"the second kid's first kid's", isNull(1), p(a, filter(isNull(0), b), c)},
		{"the last one of that", col(2), p(a, filter(col(1), b), c)},
		{"the second kid's second kid's", isNull(3), p(a, b, filter(isNull(0), c))},
		{"the last one", cat, p(a, b, filter(made(api.XEq, made(api.XCat, col(2), col(2)), lit(text("aa"))), c))},
		{"two of the last kid", same(3, 4), p(a, b, filter(same(0, 1), c))},
		{"the same twice", same(0, 0), p(filter(same(0, 0), a), b, c)},
		{"both of the second kid's", same(1, 4), join(on, a, join(both(inner, same(0, 3)), b, c))},
		{"both of the second kid's, turned round", same(4, 1), join(on, a, join(both(inner, same(3, 0)), b, c))},
		{"both kids'", same(0, 1), join(both(on, same(0, 1)), a, join(inner, b, c))},
		{"both kids', turned round", same(4, 0), join(both(on, same(4, 0)), a, join(inner, b, c))},
		{"both kids', far apart", both(isNull(0), made(api.XOr, col(2), made(api.XNot, isNull(5)))), join(both(on, both(isNull(0), made(api.XOr, col(2), made(api.XNot, isNull(5))))), a, join(inner, b, c))},
		{"a case", made(api.XCase, isNull(3), isNull(4), lit(null)), p(a, b, filter(made(api.XCase, isNull(0), isNull(1), lit(null)), c))},
		{"a column's number where a kind has none", made(api.XEq, api.Expr{Kind: api.XLit, Col: 0, Val: num(1)}, col(3)), p(a, b, filter(made(api.XEq, lit(num(1)), col(0)), c))},
	} {
		checkOf(t, s.what, tables, filter(s.x, p(a, b, c)), s.want)
		checkOf(t, s.what+" below distinct", tables, filter(s.x, distinct(p(a, b, c))), distinct(s.want))
	}
	checkOf(t, "one behind the other", tables, filter(isNull(4), filter(isNull(0), filter(isNull(3), p(a, b, c)))), p(filter(isNull(0), a), b, filter(both(isNull(0), isNull(1)), c)))
	checkOf(t, "one and both", tables, filter(isNull(0), filter(same(0, 3), p(a, b, c))), join(both(on, same(0, 3)), filter(isNull(0), a), join(inner, b, c)))
	checkOf(t, "twice both", tables, filter(same(0, 4), filter(same(0, 3), p(a, b, c))), join(both(both(on, same(0, 3)), same(0, 4)), a, join(inner, b, c)))
}

// How many columns are ahead is what the first kid has, whatever is below it.
func TestI2JoinColumns(t *testing.T) {
	tables := [][]int{{}, {integer}, {integer, integer}}
	two := grouped(table(2), these(col(1)), agg(api.AgRows, api.Expr{}))
	for _, s := range []struct {
		what  string
		first api.Plan
		ahead int
	}{
		{"none", table(0), 0},
		{"one", table(1), 1},
		{"a map", mapped(table(1), col(0), lit(null), lit(yes)), 3},
		{"a map of nothing", mapped(table(2)), 0},
		{"groups", two, 2},
		{"first ones", top(3, table(2)), 2},
		{"a sum", plan(api.PAdd, table(2), two), 2},
		{"what is distinct", distinct(table(2)), 2},
		{"a semi-join", by(api.PSemi, lit(no), table(1), table(2)), 1},
		{"a join", join(lit(no), table(1), table(2)), 3},
		{"a left join", by(api.PLeft, lit(no), table(2), table(2)), 4},
	} {
		p := func(second api.Plan) api.Plan { return join(lit(no), s.first, second) }
		checkOf(t, s.what, tables, filter(isNull(s.ahead), p(table(2))), p(filter(isNull(0), table(2))))
		checkOf(t, s.what, tables, filter(same(s.ahead+1, s.ahead), p(table(2))), p(filter(same(1, 0), table(2))))
		if s.ahead > 0 {
			x := made(api.XEq, isNull(s.ahead-1), isNull(s.ahead))
			checkOf(t, s.what, tables, filter(x, p(table(2))), join(both(lit(no), x), s.first, table(2)))
		}
	}
	checkOf(t, "first of none, no column", tables, filter(lit(no), join(lit(null), table(0), table(1))), join(lit(null), filter(lit(no), table(0)), table(1)))
	checkOf(t, "second of none", tables, filter(isNull(0), join(lit(null), table(1), table(0))), join(lit(null), filter(isNull(0), table(1)), table(0)))
}

// A sum's kids may not know a type that the sum knows: what is asked of it is right of them too.
func TestI2NotKnownTypes(t *testing.T) {
	tables := [][]int{{none, integer}, {integer, none}, {boolean, none}}
	x := made(api.XLt, col(0), made(api.XAdd, col(1), lit(num(1))))
	checkOf(t, "PAdd", tables, filter(x, plan(api.PAdd, table(0), table(1))), plan(api.PAdd, filter(x, table(0)), filter(x, table(1))))
	checkOf(t, "PSub", tables, filter(x, plan(api.PSub, table(1), table(0))), plan(api.PSub, filter(x, table(1)), filter(x, table(0))))
	checkOf(t, "a column of no type", tables, filter(col(1), filter(col(0), table(2))), filter(both(col(0), col(1)), table(2)))
	checkOf(t, "a join by columns of no type", tables, filter(made(api.XCoal, col(1), col(2)), join(col(0), table(2), table(2))), join(both(col(0), made(api.XCoal, col(1), col(2))), table(2), table(2)))
}

func TestI2TooLargeTogether(t *testing.T) {
	many, one := large(api.MaxNodes-3, 0, 1), isNull(0)
	more := large(api.MaxNodes-2, 0, 1)
	high, higher := deep(api.MaxDeep-1, one), deep(api.MaxDeep, one)
	for _, c := range []struct {
		what       string
		first, end api.Expr
		fits       bool
	}{
		{"as many nodes as may be", many, one, true},
		{"as many nodes as may be, turned round", one, many, true},
		{"too many nodes by one", more, one, false},
		{"too many nodes by one, turned round", one, more, false},
		{"as deep as may be", high, one, true},
		{"as deep as may be, turned round", one, high, true},
		{"as deep as may be, both", high, high, true},
		{"too deep by one", higher, one, false},
		{"too deep by one, turned round", one, higher, false},
		{"twice as many as may be", large(api.MaxNodes, 0), large(api.MaxNodes, 1), false},
	} {
		want := filter(c.end, filter(c.first, table(0)))
		if c.fits {
			want = filter(both(c.first, c.end), table(0))
		}
		check(t, c.what, filter(c.end, filter(c.first, table(0))), want)
		check(t, c.what+", below distinct", filter(c.end, distinct(filter(c.first, table(0)))), distinct(want))
		check(t, c.what+", in one kid alone", filter(c.end, plan(api.PAdd, filter(c.first, table(0)), table(0))), plan(api.PAdd, want, filter(c.end, table(0))))
	}
	// What goes not with the lower one goes with the next one above it, if that is small.
	x, y, z := higher, isNull(1), less()
	check(t, "three", filter(z, filter(y, filter(x, table(0)))), filter(both(y, z), filter(x, table(0))))
	check(t, "three, the last one large", filter(x, filter(z, filter(y, table(0)))), filter(x, filter(both(y, z), table(0))))
	check(t, "four", filter(y, filter(x, filter(z, filter(x, table(0))))), filter(y, filter(x, filter(z, filter(x, table(0))))))
}

func TestI2TooLargeJoin(t *testing.T) {
	wide := same(1, 2)
	small := same(0, 2)
	high, higher := deep(api.MaxDeep-1, wide), deep(api.MaxDeep, wide)
	many, more := large(api.MaxNodes-4, 0, 2), large(api.MaxNodes-3, 0, 2)
	for _, c := range []struct {
		what  string
		on, x api.Expr
		fits  bool
	}{
		{"as deep as may be", high, small, true},
		{"too deep by one", higher, small, false},
		{"too deep by one, turned round", small, higher, false},
		{"as many as may be", many, small, true},
		{"as many as may be, turned round", small, many, true},
		{"too many by one", more, small, false},
		{"too many by one, turned round", small, more, false},
	} {
		want := filter(c.x, join(c.on, table(0), table(1)))
		if c.fits {
			want = join(both(c.on, c.x), table(0), table(1))
		}
		check(t, c.what, filter(c.x, join(c.on, table(0), table(1))), want)
		check(t, c.what+", below positive", filter(c.x, positive(join(c.on, table(0), table(1)))), positive(want))
	}
	// What speaks of one kid is asked of that one, however large it and the join's condition are.
	first, second, moved := large(api.MaxNodes, 0, 1), large(api.MaxNodes, 2), large(api.MaxNodes, 0)
	check(t, "large, of the first kid", filter(first, join(higher, table(0), table(1))), join(higher, filter(first, table(0)), table(1)))
	check(t, "large, of the second kid", filter(second, join(higher, table(0), table(1))), join(higher, table(0), filter(moved, table(1))))
	// But not behind a filter that could not be asked earlier: it goes with that.
	check(t, "behind a filter", filter(isNull(0), filter(small, join(higher, table(0), table(1)))), filter(both(small, isNull(0)), join(higher, table(0), table(1))))
	check(t, "ahead of a filter", filter(small, filter(isNull(0), join(higher, table(0), table(1)))), filter(small, join(higher, filter(isNull(0), table(0)), table(1))))
}
