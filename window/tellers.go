package window

import (
	"tidemark/api"
	"tidemark/exprs"
	"tidemark/vals"
)

// teller is asked of the rows of one part, one after the other as they stand there, and keeps what it needs of those ahead.
type teller = func(p place) api.Val

// tellers is how wins begin with a part: what comes is asked of its rows, one after the other.
func tellers(cols []int, wins []api.Win) (func() func(p place) []api.Val, api.Errno) {
	begins := make([]func() teller, len(wins))
	for i, w := range wins {
		begin, err := tellerOf(cols, w)
		if err != api.OK {
			return nil, err
		}
		begins[i] = begin
	}
	return func() func(p place) []api.Val {
		tells := make([]teller, len(begins))
		for i, begin := range begins {
			tells[i] = begin()
		}
		return func(p place) []api.Val {
			out := make([]api.Val, len(tells))
			for i, tell := range tells {
				out[i] = tell(p)
			}
			return out
		}
	}, api.OK
}

// tellerOf is how a win begins with a part.
func tellerOf(cols []int, w api.Win) (func() teller, api.Errno) {
	switch w.Kind {
	case api.WinRow:
		return numbers, api.OK
	case api.WinRank:
		return ranks, api.OK
	case api.WinDense:
		return denseRanks, api.OK
	case api.WinSum, api.WinLag:
	default:
		return nil, api.ErrKind
	}
	kind, value, err := exprs.Ready(cols, w.X)
	if err != api.OK {
		return nil, err
	}
	if w.Kind == api.WinLag {
		return func() teller { return lags(value) }, api.OK
	}
	if kind != api.VInt && kind != api.VNull {
		return nil, api.ErrType
	}
	return func() teller { return sums(value) }, api.OK
}

func numbers() teller {
	var n int64
	return func(place) api.Val {
		n++
		return vals.Int(n)
	}
}

func ranks() teller {
	var n, rank int64
	isNew := changes()
	return func(p place) api.Val {
		n++
		if isNew(p) {
			rank = n
		}
		return vals.Int(rank)
	}
}

func denseRanks() teller {
	var rank int64
	isNew := changes()
	return func(p place) api.Val {
		if isNew(p) {
			rank++
		}
		return vals.Int(rank)
	}
}

// changes is whether order comes to something else of a row than of the one ahead; of a part's first row it does.
func changes() func(p place) bool {
	var ahead []api.Val
	isFirst := true
	return func(p place) bool {
		isNew := isFirst || vals.Rows(ahead, p.order) != 0
		ahead, isFirst = p.order, false
		return isNew
	}
}

// sums keeps the whole sum, even while it is too large to be told: it may come back. All rows of a set can't bring it beyond an int64.
func sums(value func(row []api.Val) api.Val) teller {
	var sum int64
	isKnown := false
	return func(p place) api.Val {
		if v := value(p.row); v.Kind != api.VNull {
			sum += v.N
			isKnown = true
		}
		if !isKnown {
			return vals.Null()
		}
		return vals.Int(sum)
	}
}

func lags(value func(row []api.Val) api.Val) teller {
	ahead := vals.Null()
	return func(p place) api.Val {
		v := ahead
		ahead = value(p.row)
		return v
	}
}
