// Package vals has values, of which some are not known: see doc/01-vals.md.
package vals

import (
	"cmp"
	"slices"

	"tidemark/api"
)

// Wrong tells what is wrong with v; of a right value nothing is.
func Wrong(v api.Val) api.Errno {
	switch v.Kind {
	case api.VNull:
		return api.OK
	case api.VBool:
		if v.N != 0 && v.N != 1 {
			return api.ErrRange
		}
	case api.VInt:
		if !inRange(v.N) {
			return api.ErrRange
		}
	case api.VText:
		if len(v.Text) > api.MaxText {
			return api.ErrMuch
		}
	default:
		return api.ErrKind
	}
	return api.OK
}

func inRange(n int64) bool { return -api.MaxInt <= n && n <= api.MaxInt }

// Null is what is not known.
func Null() api.Val { return api.Val{Kind: api.VNull} }

// Bool is a truth.
func Bool(b bool) api.Val {
	if b {
		return api.Val{Kind: api.VBool, N: 1}
	}
	return api.Val{Kind: api.VBool}
}

// Int is a number, or what is not known, where the number is out of range.
func Int(n int64) api.Val {
	if !inRange(n) {
		return Null()
	}
	return api.Val{Kind: api.VInt, N: n}
}

// Bare is v without the fields that its kind has not.
func Bare(v api.Val) api.Val {
	switch v.Kind {
	case api.VBool, api.VInt:
		return api.Val{Kind: v.Kind, N: v.N}
	case api.VText:
		return api.Val{Kind: v.Kind, Text: v.Text}
	}
	return api.Val{Kind: v.Kind}
}

// Compare is the order of all values, those that are not known among them.
func Compare(a, b api.Val) int {
	if a.Kind != b.Kind {
		// The numbers of the kinds rise in the order that the chapter gives them.
		return cmp.Compare(a.Kind, b.Kind)
	}
	switch a.Kind {
	case api.VBool, api.VInt:
		return cmp.Compare(a.N, b.N)
	case api.VText:
		return cmp.Compare(a.Text, b.Text)
	}
	return 0
}

// Rows is the order of rows, value by value.
func Rows(a, b []api.Val) int { return slices.CompareFunc(a, b, Compare) }

// Equal is whether a and b are the same, if that can be known.
func Equal(a, b api.Val) api.Val {
	if !canTell(a, b) {
		return Null()
	}
	return Bool(Compare(a, b) == 0)
}

// Less is whether a is less than b, if that can be known.
func Less(a, b api.Val) api.Val {
	if !canTell(a, b) {
		return Null()
	}
	return Bool(Compare(a, b) < 0)
}

// canTell is whether two values can be held against each other at all.
func canTell(a, b api.Val) bool { return a.Kind == b.Kind && a.Kind != api.VNull }

// True is whether v is known, and true.
func True(v api.Val) bool { return v.Kind == api.VBool && v.N == 1 }

func isFalse(v api.Val) bool { return v.Kind == api.VBool && v.N == 0 }

// And is false as soon as one is, whatever the other one may turn out to be.
func And(a, b api.Val) api.Val {
	switch {
	case isFalse(a) || isFalse(b):
		return Bool(false)
	case True(a) && True(b):
		return Bool(true)
	}
	return Null()
}

// Or is true as soon as one is, whatever the other one may turn out to be.
func Or(a, b api.Val) api.Val {
	switch {
	case True(a) || True(b):
		return Bool(true)
	case isFalse(a) && isFalse(b):
		return Bool(false)
	}
	return Null()
}

// Not is the other truth, if a is known.
func Not(a api.Val) api.Val {
	switch {
	case True(a):
		return Bool(false)
	case isFalse(a):
		return Bool(true)
	}
	return Null()
}

// Reckon is what comes of two numbers and a sign: '+', '-' or '*'.
func Reckon(sign rune, a, b api.Val) api.Val {
	if !isNumber(a) || !isNumber(b) {
		return Null()
	}
	switch sign {
	case '+':
		return Int(a.N + b.N)
	case '-':
		return Int(a.N - b.N)
	case '*':
		return product(a.N, b.N)
	}
	return Null()
}

// isNumber leaves out numbers that are not right, so that sums and differences can't wrap round.
func isNumber(v api.Val) bool { return v.Kind == api.VInt && Wrong(v) == api.OK }

// product asks by dividing whether the number is too large: what wraps round may come to be in range again.
func product(a, b int64) api.Val {
	if a != 0 && size(b) > api.MaxInt/size(a) {
		return Null()
	}
	return Int(a * b)
}

func size(n int64) int64 {
	if n < 0 {
		return -n
	}
	return n
}

// Join is b behind a, if both are texts, and short enough together.
func Join(a, b api.Val) api.Val {
	if a.Kind != api.VText || b.Kind != api.VText || len(a.Text)+len(b.Text) > api.MaxText {
		return Null()
	}
	return api.Val{Kind: api.VText, Text: a.Text + b.Text}
}
