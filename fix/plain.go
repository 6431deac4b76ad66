package fix

import "tidemark/api"

// plain tells whether a step, of which nothing is wrong, makes of rows together what it makes of each: the last table stands in it once, where that holds of all above it, and nothing is taken away.
func plain(step api.Plan, last int) bool {
	stands, subs := 0, 0
	visit(step, func(p api.Plan) {
		switch {
		case isTable(p, last):
			stands++
		case p.Kind == api.PSub:
			subs++
		}
	})
	return stands == 1 && subs == 0 && leads(step, last)
}

func isTable(p api.Plan, n int) bool { return p.Kind == api.PTable && p.N == n }

// visit hands p and all nodes below it to seen.
func visit(p api.Plan, seen func(p api.Plan)) {
	seen(p)
	for _, k := range p.Kids {
		visit(k, seen)
	}
}

// leads tells whether a way goes from p down to the last table along nodes that take its rows one by one: a PSemi takes those of its first kid alone, a PJoin those of both.
func leads(p api.Plan, last int) bool {
	switch p.Kind {
	case api.PFilter, api.PMap, api.PSemi:
		return leads(p.Kids[0], last)
	case api.PJoin:
		return leads(p.Kids[0], last) || leads(p.Kids[1], last)
	}
	return isTable(p, last)
}
