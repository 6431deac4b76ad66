package ops

import (
	"slices"

	"tidemark/api"
	"tidemark/vals"
	"tidemark/zsets"
)

// keyed is a row, and what keys come to of it.
type keyed struct {
	keys []api.Val
	row  api.ZRow
}

// inOrder has the rows of a set that are there, in the order of their keys, then of the rows themselves.
func inOrder(z []api.ZRow, keysOf func(row []api.Val) []api.Val) []keyed {
	var out []keyed
	for _, r := range picked(z, isThere) {
		out = append(out, keyed{keys: keysOf(r.Row), row: r})
	}
	// A set's rows stand in order already, so those with the same keys just stay as they stand.
	slices.SortStableFunc(out, func(a, b keyed) int { return vals.Rows(a.keys, b.keys) })
	return out
}

// part is the rows with the same keys.
type part struct {
	keys []api.Val
	rows []api.ZRow
}

// parted has rows that stand in the order of their keys as parts.
func parted(l []keyed) []part {
	var out []part
	for _, k := range l {
		if len(out) == 0 || vals.Rows(out[len(out)-1].keys, k.keys) != 0 {
			out = append(out, part{keys: k.keys})
		}
		last := &out[len(out)-1]
		last.rows = append(last.rows, k.row)
	}
	return out
}

// Group is the rows that are there, parted by keys: of each part its keys, and what aggregates come to.
func Group(cols []int, keys []api.Expr, aggs []api.Agg, z []api.ZRow) ([]api.ZRow, api.Errno) {
	if len(keys)+len(aggs) > api.MaxCols {
		return nil, api.ErrMany
	}
	keysOf, err := List(cols, keys)
	if err != api.OK {
		return nil, err
	}
	totalsOf, err := aggregates(cols, aggs)
	if err != api.OK {
		return nil, err
	}
	if err := Wrong(cols, z); err != api.OK {
		return nil, err
	}
	parts := parted(inOrder(z, keysOf))
	if len(keys) == 0 && len(parts) == 0 {
		parts = []part{{}}
	}
	out := make([]api.ZRow, len(parts))
	for i, p := range parts {
		out[i] = api.ZRow{Row: slices.Concat(p.keys, totalsOf(p.rows)), W: 1}
	}
	return zsets.Gather(out)
}

// Top is the first k rows that are there, by keys.
func Top(cols []int, keys []api.Expr, k int, z []api.ZRow) ([]api.ZRow, api.Errno) {
	keysOf, err := List(cols, keys)
	if err != api.OK {
		return nil, err
	}
	if k < 0 || k > api.MaxTop {
		return nil, api.ErrRange
	}
	if err := Wrong(cols, z); err != api.OK {
		return nil, err
	}
	var out []api.ZRow
	left := int64(k)
	for _, r := range inOrder(z, keysOf) {
		w := min(r.row.W, left)
		left -= w
		out = append(out, api.ZRow{Row: r.row.Row, W: w})
	}
	return zsets.Gather(out)
}
