package sql

import "tidemark/api"

// called is a kind, and the word that it is written by.
type called struct {
	kind int
	word string
}

func types() []called {
	return []called{{api.VBool, "bool"}, {api.VInt, "int"}, {api.VText, "text"}}
}

// joins are those with a word ahead of `join`.
func joins() []called {
	return []called{{api.FromSemi, "semi"}, {api.FromAnti, "anti"}, {api.FromLeft, "left"}}
}

func aggregates() []called {
	return []called{{api.XCount, "count"}, {api.XSum, "sum"}, {api.XMin, "min"}, {api.XMax, "max"}}
}

// wordOf is the word of a kind; empty: it has none.
func wordOf(l []called, kind int) string {
	for _, c := range l {
		if c.kind == kind {
			return c.word
		}
	}
	return ""
}

// Levels of expressions, from the weakest.
const (
	orLevel = iota + 1
	andLevel
	notLevel
	compareLevel
	sumLevel
	productLevel
	textLevel
	pieceLevel
)

// infix is a kind that is written by a word or a sign between its kids.
type infix struct {
	kind  int
	sign  string
	level int
}

var infixes = [...]infix{
	{api.XOr, "or", orLevel},
	{api.XAnd, "and", andLevel},
	{api.XEq, "=", compareLevel},
	{api.XNe, "<>", compareLevel},
	{api.XLt, "<", compareLevel},
	{api.XLe, "<=", compareLevel},
	{api.XGt, ">", compareLevel},
	{api.XGe, ">=", compareLevel},
	{api.XAdd, "+", sumLevel},
	{api.XSub, "-", sumLevel},
	{api.XMul, "*", productLevel},
	{api.XCat, "||", textLevel},
}

// infixOf is how a kind is written between its kids; nothing, if it isn't.
func infixOf(kind int) infix {
	for _, i := range infixes {
		if i.kind == kind {
			return i
		}
	}
	return infix{}
}

// levelOf is how strongly an expression holds its kids together.
func levelOf(kind int) int {
	switch kind {
	case api.XNot:
		return notLevel
	case api.XIsNull:
		return compareLevel
	}
	if level := infixOf(kind).level; level != 0 {
		return level
	}
	return pieceLevel
}
