package fix

import (
	"testing"

	"tidemark/api"
)

// stand is the nodes above one place where a table stands, and by which kid each leads there.
type stand struct{ kinds, kids []int }

// standing is all places in p where table n stands.
func standing(p api.Plan, n int, above stand) (out []stand) {
	if p.Kind == api.PTable && p.N == n {
		return []stand{above}
	}
	for i, k := range p.Kids {
		there := stand{append(above.kinds[:len(above.kinds):len(above.kinds)], p.Kind), append(above.kids[:len(above.kids):len(above.kids)], i)}
		out = append(out, standing(k, n, there)...)
	}
	return out
}

func takesAway(p api.Plan) bool {
	taken := p.Kind == api.PSub
	for _, k := range p.Kids {
		taken = taken || takesAway(k)
	}
	return taken
}

// isPlain is what the chapter says of steps that are, word by word.
func isPlain(step api.Plan, last int) bool {
	l := standing(step, last, stand{})
	if len(l) != 1 || takesAway(step) {
		return false
	}
	for i, kind := range l[0].kinds {
		switch kind {
		case api.PFilter, api.PMap, api.PJoin:
		case api.PSemi:
			if l[0].kids[i] != 0 {
				return false
			}
		default:
			return false
		}
	}
	return true
}

// two is two tables, and their rows; seeds and steps over them have two numbers.
func two() ([][]int, []rows) {
	return [][]int{{integer, integer}, {integer}}, []rows{edges([2]int64{1, 2}, [2]int64{2, 3}, [2]int64{3, 3}), ones(1, 3)}
}

// plains are steps over these that are plain; the last table is table 2.
func plains() map[string]api.Plan {
	last := table(2)
	yes := lit(yes)
	beside := func(p api.Plan) api.Plan { return mapped(join(same(1, 2), last, p), col(0), col(3)) }
	return map[string]api.Plan{
		"the last table":                    last,
		"PFilter":                           filter(below(0, 2), last),
		"PMap":                              mapped(last, col(1), col(0)),
		"PJoin, the first kid":              mapped(join(same(1, 2), last, table(0)), col(0), col(3)),
		"PJoin, the second kid":             mapped(join(same(1, 2), table(0), last), col(0), col(3)),
		"PJoin, nested":                     mapped(join(yes, table(1), join(yes, last, table(1))), col(1), col(3)),
		"PSemi":                             semi(same(0, 2), last, table(1)),
		"PSemi in the second kid of PJoin":  mapped(join(yes, table(1), semi(yes, last, table(1))), col(0), col(2)),
		"PSemi of PSemi":                    semi(same(0, 2), semi(same(1, 2), mapped(last, col(1), col(0)), table(1)), table(0)),
		"all of them":                       filter(below(0, 9), mapped(semi(same(0, 4), join(same(0, 2), filter(below(1, 9), last), table(0)), table(1)), col(3), col(0))),
		"beside PAnti":                      beside(by(api.PAnti, same(0, 2), table(0), table(1))),
		"beside PLeft":                      beside(mapped(by(api.PLeft, same(0, 2), table(0), table(1)), col(0), col(2))),
		"beside PAdd":                       beside(plan(api.PAdd, table(0), table(0))),
		"beside PPositive":                  beside(plan(api.PPositive, table(0))),
		"beside PDistinct":                  beside(plan(api.PDistinct, table(0))),
		"beside PGroup":                     beside(grouped(table(0), these(col(0)), agg(api.AgMax, col(1)))),
		"beside PTop of as many as tables":  beside(top(2, table(0), col(1))),
		"the second kid of PSemi, another":  semi(same(0, 2), last, by(api.PSemi, same(0, 1), table(1), table(1))),
		"PAnti in the second kid of PSemi":  semi(same(0, 2), last, by(api.PAnti, same(0, 1), table(1), table(0))),
		"PFilter with a number of its own":  {Kind: api.PFilter, N: 2, X: yes, Kids: []api.Plan{last}},
		"PDistinct with the table's number": beside(api.Plan{Kind: api.PDistinct, N: 2, Kids: []api.Plan{table(0)}}),
	}
}

func TestJ2Plain(t *testing.T) {
	tables, data := two()
	for what, step := range plains() {
		for _, seed := range []api.Plan{table(0), plan(api.PSub, table(0), filter(below(0, 2), table(0))), grouped(table(0), these(col(0)), agg(api.AgMin, col(1)))} {
			want, n, err := Fix(tables, seed, step, data)
			if err != api.OK || n == 0 {
				t.Errorf("%s: error %d comes, after %d times", what, err, n)
			}
			got, err := Quick(tables, seed, step, data)
			if err != api.OK || told(got) != told(want) {
				t.Errorf("%s: error %d and %s come, not %s", what, err, told(got), told(want))
			}
		}
		if !isPlain(step, 2) {
			t.Errorf("%s: this is not plain", what)
		}
	}
}

func TestJ2NotPlain(t *testing.T) {
	tables, data := two()
	last := table(2)
	yes := lit(yes)
	steps := map[string]api.Plan{
		"the last table nowhere":               table(0),
		"the last table nowhere, by a number":  {Kind: api.PFilter, N: 2, X: yes, Kids: []api.Plan{table(0)}},
		"the last table nowhere, by PTop":      top(2, table(0)),
		"twice, in PJoin":                      mapped(join(same(1, 2), last, last), col(0), col(3)),
		"twice, in PSemi":                      semi(same(1, 2), last, last),
		"twice, and once beside":               mapped(join(yes, last, by(api.PSemi, yes, table(1), last)), col(0), col(1)),
		"twice, in PAdd":                       plan(api.PAdd, last, last),
		"PSemi, the second kid":                semi(same(0, 2), table(0), last),
		"PSemi, the second kid, by PFilter":    semi(same(0, 2), table(0), filter(yes, last)),
		"PSemi, the second kid of another one": semi(same(0, 2), table(0), semi(yes, last, table(1))),
		"PAnti, the first kid":                 by(api.PAnti, same(0, 2), last, table(1)),
		"PAnti, the second kid":                by(api.PAnti, same(0, 2), table(0), last),
		"PLeft, the first kid":                 mapped(by(api.PLeft, same(0, 2), last, table(1)), col(0), col(1)),
		"PLeft, the second kid":                mapped(by(api.PLeft, same(0, 2), table(0), last), col(0), col(1)),
		"PAdd, the first kid":                  plan(api.PAdd, last, table(0)),
		"PAdd, the second kid":                 plan(api.PAdd, table(0), last),
		"PSub, the first kid":                  plan(api.PSub, last, table(0)),
		"PSub, the second kid":                 plan(api.PSub, table(0), last),
		"PPositive":                            plan(api.PPositive, last),
		"PDistinct":                            plan(api.PDistinct, last),
		"PGroup":                               grouped(last, these(col(0), col(1))),
		"PTop":                                 top(1, last, col(0)),
		"PSub beside it, in PJoin":             mapped(join(same(1, 2), last, plan(api.PSub, table(0), table(0))), col(0), col(3)),
		"PSub beside it, in PSemi":             semi(same(0, 2), last, filter(yes, plan(api.PSub, table(1), table(1)))),
		"PSub beside it, ahead":                mapped(join(same(1, 2), plan(api.PDistinct, plan(api.PSub, table(0), table(0))), last), col(0), col(3)),
	}
	for what, step := range steps {
		for over, p := range map[string]api.Plan{
			"":             step,
			"in PFilter: ": filter(yes, step),
			"in PMap: ":    mapped(step, col(0), col(1)),
			"in PJoin: ":   mapped(join(yes, table(1), step), col(1), col(2)),
			"in PSemi: ":   semi(yes, step, table(1)),
		} {
			given{tables, table(0), p, data}.checkQuick(t, over+what, api.ErrFit)
			given{tables, table(0), p, make([]rows, 2)}.checkQuick(t, over+what+", of nothing", api.ErrFit)
			if _, _, err := Fix(tables, table(0), p, data); err != api.OK {
				t.Errorf("%s%s: error %d comes", over, what, err)
			}
			if isPlain(p, 2) {
				t.Errorf("%s%s: this is plain", over, what)
			}
		}
	}
	for what, step := range plains() {
		for over, p := range map[string]api.Plan{
			"PAnti":     by(api.PAnti, yes, step, table(1)),
			"PLeft":     mapped(by(api.PLeft, yes, step, table(1)), col(0), col(1)),
			"PSemi":     semi(yes, table(0), step),
			"PAdd":      plan(api.PAdd, step, table(0)),
			"PSub":      plan(api.PSub, step, table(0)),
			"PPositive": plan(api.PPositive, step),
			"PDistinct": plan(api.PDistinct, step),
			"PGroup":    grouped(step, these(col(0), col(1))),
			"PTop":      top(9, step),
		} {
			given{tables, table(0), p, data}.checkQuick(t, over+" of "+what, api.ErrFit)
			if isPlain(p, 2) {
				t.Errorf("%s of %s: this is plain", over, what)
			}
		}
	}
}

// What is too large where seed is asked may be told, or not; what is not plain is told ahead of it.
func TestJ2NotPlainAheadOfTooLarge(t *testing.T) {
	heavy := plan(api.PAdd, table(0), table(0))
	given{[][]int{{integer}}, heavy, plan(api.PDistinct, table(1)), []rows{{row(most, num(1))}}}.checkQuick(t, "seed too heavy", api.ErrFit)
	given{[][]int{{integer}}, table(0), plan(api.PDistinct, table(1)), nil}.checkQuick(t, "no data", api.ErrFit)
}

// As often, and as many, as may be.
func TestJ2TheMost(t *testing.T) {
	climbing(ones(0), api.MaxRounds-1).check(t, "as often as may be", run(0, api.MaxRounds), api.MaxRounds)
	var chain rows
	for i := range int64(27) {
		chain = append(chain, row(most, num(i), num(i+1)))
	}
	var all rows
	for i := range int64(27) {
		for j := i + 1; j <= 27; j++ {
			all = append(all, row(1, num(i), num(j)))
		}
	}
	along(chain).check(t, "nearly as many as may be", all, 27)
	next := mapped(filter(below(0, 200), table(1)), made(api.XAdd, col(0), lit(num(200))))
	given{[][]int{{integer}}, table(0), next, []rows{run(0, 200)}}.check(t, "as many as may be", run(0, 400), 2)
}
