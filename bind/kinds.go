package bind

import "tidemark/api"

// joins are the kinds of plans that sources are joined by.
func joins() map[int]int {
	return map[int]int{
		api.FromJoin: api.PJoin,
		api.FromSemi: api.PSemi,
		api.FromAnti: api.PAnti,
		api.FromLeft: api.PLeft,
	}
}

// aggregates are the kinds of aggregates that stand in expressions.
func aggregates() map[int]int {
	return map[int]int{
		api.XRows:  api.AgRows,
		api.XCount: api.AgCount,
		api.XSum:   api.AgSum,
		api.XMin:   api.AgMin,
		api.XMax:   api.AgMax,
	}
}

func isAggregate(x api.SExpr) bool { return aggregates()[x.Kind] != 0 }

// hasAggregate tells whether x is an aggregate, or one stands in it.
func hasAggregate(x api.SExpr) bool {
	if isAggregate(x) {
		return true
	}
	for _, k := range x.Kids {
		if hasAggregate(k) {
			return true
		}
	}
	return false
}
