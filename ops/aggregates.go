package ops

import (
	"slices"

	"tidemark/api"
	"tidemark/exprs"
	"tidemark/vals"
)

// aggregates is what aggs come to, of the rows of a part.
func aggregates(cols []int, aggs []api.Agg) (func(rows []api.ZRow) []api.Val, api.Errno) {
	totals := make([]func(rows []api.ZRow) api.Val, len(aggs))
	for i, g := range aggs {
		value, err := measured(cols, g)
		if err != api.OK {
			return nil, err
		}
		total := totalOf(g.Kind)
		totals[i] = func(rows []api.ZRow) api.Val { return total(known(rows, value)) }
	}
	return func(rows []api.ZRow) []api.Val {
		out := make([]api.Val, len(totals))
		for i, total := range totals {
			out[i] = total(rows)
		}
		return out
	}, api.OK
}

// measured is what an aggregate asks of each row.
func measured(cols []int, g api.Agg) (func(row []api.Val) api.Val, api.Errno) {
	switch g.Kind {
	case api.AgRows:
		// It is known of each row, so that each of them counts.
		return func([]api.Val) api.Val { return vals.Bool(true) }, api.OK
	case api.AgCount, api.AgSum, api.AgMin, api.AgMax:
	default:
		return nil, api.ErrKind
	}
	kind, value, err := exprs.Ready(cols, g.X)
	if err != api.OK {
		return nil, err
	}
	if g.Kind == api.AgSum && kind != api.VInt && kind != api.VNull {
		return nil, api.ErrType
	}
	return value, api.OK
}

// weighed is a value, and how often it is there.
type weighed struct {
	val api.Val
	w   int64
}

// known has what is asked of rows, without what is not known.
func known(rows []api.ZRow, value func(row []api.Val) api.Val) []weighed {
	var out []weighed
	for _, r := range rows {
		if v := value(r.Row); v.Kind != api.VNull {
			out = append(out, weighed{val: v, w: r.W})
		}
	}
	return out
}

// totalOf is what a kind of aggregates makes of what is known.
func totalOf(kind int) func(l []weighed) api.Val {
	switch kind {
	case api.AgSum:
		return ofSome(sum)
	case api.AgMin:
		return ofSome(least)
	case api.AgMax:
		return ofSome(greatest)
	}
	return count
}

// ofSome leaves to total what has at least one value: of none nothing is known.
func ofSome(total func(l []weighed) api.Val) func(l []weighed) api.Val {
	return func(l []weighed) api.Val {
		if len(l) == 0 {
			return vals.Null()
		}
		return total(l)
	}
}

func count(l []weighed) api.Val {
	var n int64
	for _, v := range l {
		n += v.w
	}
	return vals.Int(n)
}

// sum adds up the numbers' upper and lower halves by themselves: weights times numbers may be greater than an int64, and come to little all the same.
func sum(l []weighed) api.Val {
	const half = 100000000
	var upper, lower int64
	for _, v := range l {
		upper += v.w * (v.val.N / half)
		lower += v.w * (v.val.N % half)
	}
	upper += lower / half
	// The lower half that is left is less than one of the upper ones, so it can't bring more than one of them back.
	if upper < -api.MaxInt/half-1 || upper > api.MaxInt/half+1 {
		return vals.Null()
	}
	return vals.Int(upper*half + lower%half)
}

func least(l []weighed) api.Val { return slices.MinFunc(l, byValue).val }

func greatest(l []weighed) api.Val { return slices.MaxFunc(l, byValue).val }

func byValue(a, b weighed) int { return vals.Compare(a.val, b.val) }
