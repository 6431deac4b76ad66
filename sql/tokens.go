package sql

import (
	"strings"

	"tidemark/api"
)

// Sorts of tokens.
const (
	aWord = iota + 1
	aNumber
	aText
	aSign
	theEnd
)

// token is a word, a number, a text (what it stands for) or a sign, and where it begins; or the end, and where that is.
type token struct {
	sort int
	text string
	at   int
}

// maxDigits is how many digits a number has at most, whatever it is.
const maxDigits = 16

// signs has those ahead that begin with another one.
var signs = [...]string{"<>", "<=", ">=", "||", "<", ">", "=", "+", "-", "*", "(", ")", ",", ".", ";"}

// tokens is what s is made of, and the end behind it; it throws what is wrong with one.
func tokens(s string) []token {
	var out []token
	at := spanEnd(s, 0, isBlank)
	for at < len(s) {
		t, next := tokenAt(s, at)
		out = append(out, t)
		at = spanEnd(s, next, isBlank)
	}
	return append(out, token{sort: theEnd, at: at})
}

// tokenAt is the token that begins at a byte of s, and where it ends.
func tokenAt(s string, at int) (token, int) {
	switch c := s[at]; {
	case isLetter(c):
		end := wordEnd(s, at)
		return token{sort: aWord, text: strings.Clone(s[at:end]), at: at}, end
	case isDigit(c):
		return numberAt(s, at)
	case c == '\'':
		return textAt(s, at)
	}
	return signAt(s, at)
}

func numberAt(s string, at int) (token, int) {
	end := spanEnd(s, at, isDigit)
	if end-at > maxDigits {
		panic(fault(api.ErrRange, at))
	}
	return token{sort: aNumber, text: s[at:end], at: at}, end
}

func textAt(s string, at int) (token, int) {
	var out []byte
	for i := at + 1; i < len(s); i++ {
		if s[i] == '\'' {
			if !strings.HasPrefix(s[i+1:], "'") {
				return shortText(string(out), at), i + 1
			}
			i++
		}
		out = append(out, s[i])
	}
	panic(fault(api.ErrForm, at))
}

func shortText(s string, at int) token {
	if len(s) > api.MaxText {
		panic(fault(api.ErrMuch, at))
	}
	return token{sort: aText, text: s, at: at}
}

func signAt(s string, at int) (token, int) {
	for _, sign := range signs {
		if strings.HasPrefix(s[at:], sign) {
			return token{sort: aSign, text: sign, at: at}, at + len(sign)
		}
	}
	panic(fault(api.ErrForm, at))
}

// spanEnd is where the bytes of a class end that stand in s from at on.
func spanEnd(s string, at int, class func(c byte) bool) int {
	for at < len(s) && class(s[at]) {
		at++
	}
	return at
}

func wordEnd(s string, at int) int {
	return spanEnd(s, at, func(c byte) bool { return isLetter(c) || isDigit(c) })
}

func isBlank(c byte) bool { return c == ' ' || c == '\t' || c == '\n' }

func isLetter(c byte) bool { return 'a' <= c && c <= 'z' || c == '_' }

func isDigit(c byte) bool { return '0' <= c && c <= '9' }
