package source

import (
	"strings"

	"culprit/api"
)

// Classes of tokens.
const (
	noToken    = iota
	blankToken // not a token of the grammar: it is passed over
	wordToken  // a word that is no name
	nameToken
	numeralToken
	localToken
	signToken
)

// A token of words has the kind of the nodes that begin with it, and a sign of
// an operation has its level and its kind, so that each is looked up once.
type token struct {
	class       int
	text        string
	at          int
	level, kind int
}

// scan returns the first token from an offset on. It has no text if it is the
// end of s, or a byte at which no token begins.
func scan(s string, at int) token {
scanning:
	for at < len(s) {
		t := tokenAt(s[at:])
		switch {
		case t.text == "":
			break scanning
		case t.class != blankToken:
			t.at = at
			return t
		}
		at++
	}
	return token{at: at}
}

// tokenAt returns what a text begins with, which is not empty. What it returns
// has an empty text if no token begins there.
func tokenAt(s string) token {
	switch c := s[0]; {
	case c == ' ' || c == '\n':
		return token{class: blankToken, text: s[:1]}
	case isLetter(c):
		return wordOrName(s[:wordSize(s)])
	case isDigit(c):
		return token{class: numeralToken, text: s[:numeralSize(s)]}
	case c == '$':
		return token{class: localToken, text: s[:localSize(s)]}
	}
	for _, x := range signs {
		if strings.HasPrefix(s, x.text) {
			return token{class: signToken, text: x.text, level: x.level, kind: x.kind}
		}
	}
	return token{}
}

// wordOrName returns the token of a word. An empty text is no token in any
// case.
func wordOrName(text string) token {
	if text == elseWord {
		return token{class: wordToken, text: text, kind: none}
	}
	for kind, x := range shapes {
		if x.word == text {
			return token{class: wordToken, text: text, kind: kind}
		}
	}
	return token{class: nameToken, text: text}
}

func isLetter(c byte) bool { return 'a' <= c && c <= 'z' }

func isDigit(c byte) bool { return '0' <= c && c <= '9' }

// wordSize returns the number of bytes of the word at the beginning of s, or
// 0 if there is none.
func wordSize(s string) int {
	n := 0
	for n < len(s) && (isLetter(s[n]) || n > 0 && isDigit(s[n])) {
		n++
	}
	if n > api.MaxName {
		return 0
	}
	return n
}

// numeralSize returns the number of bytes of the numeral at the beginning of
// s, or 0 if there is none.
func numeralSize(s string) int {
	n := 0
	for n < len(s) && isDigit(s[n]) {
		n++
	}
	if n > maxDigits {
		return 0
	}
	return n
}

// localSize returns the number of bytes of the local at the beginning of s,
// where a "$" stands, or 0 if there is none.
func localSize(s string) int {
	inner := wordSize(s[1:])
	if inner == 0 {
		return 0
	}
	return 1 + inner
}
