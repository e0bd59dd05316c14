package lex

import (
	"strings"
	"sync"
	"sync/atomic"

	"cellar/api"
)

// maxDigits is how many digits a number may have.
const maxDigits = 10

// signs are those of one byte.
const signs = "{}()[];:,.=+-*/%&|^~!<"

// text is what one call of Words is of.
type text struct {
	s string

	cut    sync.Once    // it is asked for its words, and for its end
	passed atomic.Int32 // how many bytes lie behind
	found  []api.Token
}

func (t *text) words() []api.Token {
	t.cut.Do(t.cutAll)
	return t.found
}

// end is up to where there are words: the text's length, unless no word begins there.
func (t *text) end() int {
	t.cut.Do(t.cutAll)
	return t.at()
}

func (t *text) at() int {
	return int(t.passed.Load())
}

func (t *text) rest() string {
	return t.s[t.at():]
}

func (t *text) pass(n int) {
	t.passed.Add(int32(n))
}

func (t *text) cutAll() {
	t.pass(gap(t.rest()))
	for n := longest(t.rest()); n > 0; n = longest(t.rest()) {
		// A copy: a word that lives on does not hold the whole text.
		t.found = append(t.found, api.Token{Text: strings.Clone(t.rest()[:n]), At: t.at()})
		t.pass(n)
		t.pass(gap(t.rest()))
	}
}

// gap is how many bytes of s are passed over ahead of whatever is to be a word.
func gap(s string) int {
	passing := false
	for i := range len(s) {
		switch {
		case isLineEnd(s[i]):
			passing = false
		case s[i] == '#':
			passing = true
		case !passing && !isBlank(s[i]):
			return i
		}
	}
	return len(s)
}

// longest is how many bytes the longest word has with which s begins, 0 of none. What
// would go on as a name or a number, but may not be one, is not cut into shorter ones.
func longest(s string) int {
	switch {
	case s == "":
		return 0
	case isLetter(s[0]):
		return unlessAbove(api.MaxName, run(s, isInName))
	case s[0] == '0':
		return unlessAbove(1, run(s, isDigit))
	case isDigit(s[0]):
		return unlessAbove(maxDigits, run(s, isDigit))
	case isPair(s):
		return 2
	case strings.IndexByte(signs, s[0]) >= 0:
		return 1
	}
	return 0
}

// isWord is whether s is one word, and nothing beside it.
func isWord(s string) bool {
	return s != "" && longest(s) == len(s)
}

// isPair is whether s begins with a sign of two bytes.
func isPair(s string) bool {
	return strings.HasPrefix(s, "==") || strings.HasPrefix(s, "<<") || strings.HasPrefix(s, ">>")
}

// run is how many bytes are such, from the begin on.
func run(s string, is func(byte) bool) int {
	for i := range len(s) {
		if !is(s[i]) {
			return i
		}
	}
	return len(s)
}

func unlessAbove(most int, n int) int {
	if n > most {
		return 0
	}
	return n
}

func isLetter(b byte) bool {
	return b >= 'a' && b <= 'z'
}

func isDigit(b byte) bool {
	return b >= '0' && b <= '9'
}

func isInName(b byte) bool {
	return isLetter(b) || isDigit(b)
}

func isLineEnd(b byte) bool {
	return b == '\n' || b == '\r'
}

func isBlank(b byte) bool {
	return b == ' ' || b == '\t'
}
