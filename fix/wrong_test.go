package fix

import (
	"slices"
	"testing"

	"tidemark/api"
)

// What is wrong with seed, then with step, then with how they go together, then with data is told, in this order, by both.
func TestJ1Wrong(t *testing.T) {
	tables := [][]int{{integer}, {integer, texts}}
	data := []rows{ones(1), {row(1, num(1), text("a"))}}
	late := []rows{{row(0, num(1))}, nil}
	twoTypes := mapped(table(1), col(1), col(1))
	deep := nested(api.MaxNest, table(0))
	for _, c := range []struct {
		what       string
		seed, step api.Plan
		data       []rows
		want       api.Errno
	}{
		{"seed of no kind", api.Plan{}, table(0), data, api.ErrKind},
		{"seed of no table", table(-1), table(0), data, api.ErrName},
		{"seed of what it comes to itself", table(2), table(2), data, api.ErrName},
		{"seed too deep", deep, table(0), data, api.ErrMuch},
		{"seed too large", added(31, table(0)), table(0), data, api.ErrMuch},
		{"seed with too many kids", plan(api.PTable, table(0)), table(0), data, api.ErrMany},
		{"seed by what is no condition", filter(col(0), table(0)), table(0), data, api.ErrType},
		{"seed of what doesn't fit", plan(api.PAdd, table(0), table(1)), table(0), data, api.ErrFit},
		{"seed ahead of step", table(-1), api.Plan{}, nil, api.ErrName},
		{"step of no kind", table(0), api.Plan{}, data, api.ErrKind},
		{"step of no table", table(0), table(3), data, api.ErrName},
		{"step of no table, below 0", table(0), table(-1), data, api.ErrName},
		{"step too deep", table(0), deep, data, api.ErrMuch},
		{"step too large", table(0), added(31, table(2)), data, api.ErrMuch},
		{"step with too many kids", table(0), plan(api.PDistinct, table(2), table(2)), data, api.ErrMany},
		{"step of a column too many", table(0), mapped(table(2), col(1)), data, api.ErrName},
		{"step by what is no condition", table(0), filter(more(0), table(2)), data, api.ErrType},
		{"step ahead of how it fits", table(0), mapped(table(3), col(0), col(0)), late, api.ErrName},
		{"a column too many", table(0), mapped(table(2), col(0), col(0)), data, api.ErrFit},
		{"a column too few", table(0), mapped(table(2)), data, api.ErrFit},
		{"another table", table(1), table(0), data, api.ErrFit},
		{"a column too many ahead of another type", table(0), twoTypes, data, api.ErrFit},
		{"a column too many ahead of data", table(0), table(1), late, api.ErrFit},
		{"another type", table(0), mapped(table(1), col(1)), data, api.ErrType},
		{"another type, the last one", table(1), mapped(table(2), col(0), col(0)), data, api.ErrType},
		{"what is not known, where a number was", table(0), mapped(table(2), lit(null)), data, api.ErrType},
		{"a number, where what is not known was", mapped(table(0), lit(null)), table(0), data, api.ErrType},
		{"another type ahead of data", table(0), mapped(table(2), isNull(0)), late, api.ErrType},
		{"no data", table(0), table(2), nil, api.ErrFit},
		{"too few lists", table(0), table(2), data[:1], api.ErrFit},
		{"a list for the last table", table(0), table(2), []rows{data[0], data[1], nil}, api.ErrFit},
		{"no weight", table(0), table(2), late, api.ErrRange},
		{"too much weight", table(0), table(2), []rows{{row(most+1, num(1))}, nil}, api.ErrRange},
		{"rows that fall", table(0), table(2), []rows{ones(2, 1), nil}, api.ErrForm},
		{"a row twice", table(0), table(2), []rows{ones(1, 1), nil}, api.ErrForm},
		{"too many rows", table(0), table(2), []rows{run(0, api.MaxRows+1), nil}, api.ErrMany},
		{"a value that is none", table(0), table(2), []rows{{row(1, api.Val{})}, nil}, api.ErrKind},
		{"a value too few", table(0), table(2), []rows{data[0], ones(1)}, api.ErrFit},
		{"a value of another type", table(0), table(2), []rows{{row(1, text("a"))}, data[1]}, api.ErrType},
		{"the first table ahead of the second one", table(0), table(2), []rows{{row(1, text("a"))}, {row(0)}}, api.ErrType},
		{"a table that nobody asks for", table(0), table(0), []rows{nil, ones(2, 1)}, api.ErrForm},
		{"data ahead of what is not plain", table(0), plan(api.PDistinct, table(2)), late, api.ErrRange},
		{"data ahead of what comes too large", plan(api.PAdd, table(0), table(0)), table(2), []rows{{row(most, num(1))}, {row(0)}}, api.ErrRange},
	} {
		given{tables, c.seed, c.step, c.data}.checkWrong(t, c.what, c.want)
	}
}

func TestJ1WrongTables(t *testing.T) {
	full := slices.Repeat([][]int{{integer}}, api.MaxTables)
	data := make([]rows, api.MaxTables)
	given{full, table(0), table(0), data}.checkWrong(t, "no room for one table more", api.ErrMany)
	given{full, table(0), table(api.MaxTables), nil}.checkWrong(t, "no room for one table more, ahead of data", api.ErrMany)
	given{full, table(api.MaxTables), table(0), data}.checkWrong(t, "seed ahead of too many tables", api.ErrName)
	given{append(full, nil), table(-1), table(0), data}.checkWrong(t, "too many tables ahead of seed", api.ErrMany)
	given{[][]int{{0}}, table(-1), table(0), nil}.checkWrong(t, "no kind of values", api.ErrKind)
	given{[][]int{{api.VText + 1}}, table(0), table(0), nil}.checkWrong(t, "no kind of values, by one", api.ErrKind)
	given{[][]int{make([]int, api.MaxCols+1)}, table(0), table(0), nil}.checkWrong(t, "too many columns", api.ErrMany)
	given{nil, table(0), table(0), nil}.checkWrong(t, "no tables", api.ErrName)
}

// Seed and step are each as large and as deep as may be, by themselves.
func TestJ1Large(t *testing.T) {
	tables := [][]int{{integer}}
	large := mapped(added(29, table(0)), col(0))
	large = filter(lit(yes), filter(lit(yes), large))
	given{tables, large, filter(lit(yes), filter(lit(yes), mapped(added(29, table(1)), col(0)))), []rows{ones(1)}}.check(t, "as many nodes as may be", ones(1), 1)
	given{tables, nested(api.MaxNest-1, table(0)), nested(api.MaxNest-1, table(1)), []rows{ones(1)}}.check(t, "as deep as may be", ones(1), 1)
}

// The first error is told, wherever it comes; what is too large on the way is, even if less would be left of it.
func TestJ1TooLarge(t *testing.T) {
	tables := [][]int{{integer}}
	heavy := plan(api.PAdd, table(0), table(0))
	pairs := mapped(join(lit(yes), table(1), table(1)), col(0))
	light := filter(made(api.XLt, lit(num(0)), col(0)), table(0))
	for _, c := range []struct {
		what       string
		seed, step api.Plan
		data       rows
		want       api.Errno
	}{
		{"seed too heavy", heavy, table(1), rows{row(most, num(1))}, api.ErrRange},
		{"seed too heavy where it goes", heavy, table(1), rows{row(-most, num(1))}, api.ErrRange},
		{"seed too heavy, even if nothing is left", filter(lit(no), heavy), table(1), rows{row(most, num(1))}, api.ErrRange},
		{"seed ahead of step", heavy, mapped(join(lit(yes), light, light), col(0)), append(rows{row(most, num(0))}, run(1, 21)...), api.ErrRange},
		{"step by itself", table(0), mapped(join(lit(yes), light, light), col(0)), append(rows{row(most, num(0))}, run(1, 21)...), api.ErrMany},
		{"step too heavy", table(0), mapped(join(lit(yes), table(0), table(1)), lit(num(9))), rows{row(most, num(1)), row(1, num(2))}, api.ErrRange},
		{"step too many, even if nothing is left", table(0), filter(lit(no), pairs), run(0, 400), api.ErrMany},
		{"together too many", table(0), mapped(table(1), made(api.XAdd, col(0), lit(num(201)))), run(0, 201), api.ErrMany},
		{"too many the second time", table(0), mapped(table(1), made(api.XAdd, col(0), lit(num(150)))), run(0, 150), api.ErrMany},
	} {
		given{tables, c.seed, c.step, []rows{c.data}}.checkError(t, c.what, c.want)
	}
	next := mapped(filter(below(0, 200), table(1)), made(api.XAdd, col(0), lit(num(200))))
	given{tables, table(0), next, []rows{run(0, 200)}}.check(t, "together as many as may be", run(0, 400), 2)
}

// columnsOf is so many rows, that have the number 0 and one of their own; each step has all of them, with the next number.
func columnsOf(n int64) given {
	var z rows
	for i := range n {
		z = append(z, row(1, num(0), num(i)))
	}
	return given{[][]int{{integer, integer}}, table(0), mapped(table(1), more(0), col(1)), []rows{z}}
}

// What is wrong the last time is told, and what would be wrong after it is not.
func TestJ1TheLastTime(t *testing.T) {
	columnsOf(8).checkError(t, "too many the last time", api.ErrMany)
	columnsOf(7).checkError(t, "too many only after it", api.ErrSteps)
	columnsOf(9).checkError(t, "too many ahead of it", api.ErrMany)
}
