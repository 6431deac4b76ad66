package ops

import (
	"slices"

	"tidemark/api"
	"tidemark/vals"
	"tidemark/zsets"
)

// pairs are two sets, and which rows of them hold with each other.
type pairs struct {
	a, b  []api.ZRow
	holds func(left, right []api.Val) bool
}

// paired is a and b as pairs, if nothing is wrong with them, nor with x.
func paired(left, right []int, x api.Expr, a, b []api.ZRow) (pairs, api.Errno) {
	if len(left)+len(right) > api.MaxCols {
		return pairs{}, api.ErrMany
	}
	holds, err := condition(slices.Concat(left, right), x)
	if err != api.OK {
		return pairs{}, err
	}
	if err := Wrong(left, a); err != api.OK {
		return pairs{}, err
	}
	if err := Wrong(right, b); err != api.OK {
		return pairs{}, err
	}
	return pairs{a: a, b: b, holds: ofBoth(holds)}, api.OK
}

// ofBoth asks of a row's values and then of another's; it lays all pairs into one room, as most of them don't hold.
func ofBoth(holds func(row []api.Val) bool) func(left, right []api.Val) bool {
	room := make([]api.Val, 0, api.MaxCols)
	return func(left, right []api.Val) bool {
		room = append(append(room[:0], left...), right...)
		return holds(room)
	}
}

// joined has the pairs that hold.
func joined(p pairs) []api.ZRow {
	var out []api.ZRow
	for _, l := range p.a {
		for _, r := range p.b {
			if p.holds(l.Row, r.Row) {
				out = append(out, api.ZRow{Row: slices.Concat(l.Row, r.Row), W: l.W * r.W})
			}
		}
	}
	return out
}

// isMatched is whether a row of a holds with one of b that is there.
func (p pairs) isMatched(l api.ZRow) bool {
	return slices.ContainsFunc(p.b, func(r api.ZRow) bool { return isThere(r) && p.holds(l.Row, r.Row) })
}

func matched(p pairs) []api.ZRow { return picked(p.a, p.isMatched) }

func unmatched(p pairs) []api.ZRow {
	return picked(p.a, func(l api.ZRow) bool { return !p.isMatched(l) })
}

// widened has z's rows with so many values more that are not known.
func widened(z []api.ZRow, more int) []api.ZRow {
	unknown := slices.Repeat([]api.Val{vals.Null()}, more)
	out := make([]api.ZRow, len(z))
	for i, r := range z {
		out[i] = api.ZRow{Row: slices.Concat(r.Row, unknown), W: r.W}
	}
	return out
}

// Join is the pairs of which x is true.
func Join(left, right []int, x api.Expr, a, b []api.ZRow) ([]api.ZRow, api.Errno) {
	return ofPairs(left, right, x, a, b, joined)
}

// Semi is the rows of a that have a partner in b.
func Semi(left, right []int, x api.Expr, a, b []api.ZRow) ([]api.ZRow, api.Errno) {
	return ofPairs(left, right, x, a, b, matched)
}

// Anti is the rows of a that have no partner in b.
func Anti(left, right []int, x api.Expr, a, b []api.ZRow) ([]api.ZRow, api.Errno) {
	return ofPairs(left, right, x, a, b, unmatched)
}

// Left is Join, and the rows of a that have no partner with what is not known in its place.
func Left(left, right []int, x api.Expr, a, b []api.ZRow) ([]api.ZRow, api.Errno) {
	return ofPairs(left, right, x, a, b, func(p pairs) []api.ZRow {
		return slices.Concat(joined(p), widened(unmatched(p), len(right)))
	})
}

// ofPairs is the set of the rows that are named, of pairs that are right.
func ofPairs(left, right []int, x api.Expr, a, b []api.ZRow, named func(p pairs) []api.ZRow) ([]api.ZRow, api.Errno) {
	p, err := paired(left, right, x, a, b)
	if err != api.OK {
		return nil, err
	}
	return zsets.Gather(named(p))
}
