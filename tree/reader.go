package tree

import (
	"sync"
	"sync/atomic"

	"cellar/api"
	"cellar/lex"
	"cellar/word"
)

// maxAround is how many statements, types and expressions may stand around another one.
const maxAround = 20

// reader goes through the words of one text, and makes its nodes. Where something is
// wrong it is at the end at once: no word fits any more, so that all that reads ends.
type reader struct {
	words  []api.Token
	end    int // the text's length
	next   int // how many words lie behind
	around int // how many statements, types and expressions are begun, and not ended

	made  atomic.Int32 // how many nodes came
	nodes []api.Node

	first sync.Once // of all that is wrong just what comes first is told
	at    int
	wrong api.Errno
}

func (r *reader) fail(at int, e api.Errno) {
	r.first.Do(func() { r.at, r.wrong = at, e })
	r.next = len(r.words)
}

// unfit is of the next word.
func (r *reader) unfit() {
	r.fail(r.here(), api.ErrParse)
}

func (r *reader) atEnd() bool {
	return r.next == len(r.words)
}

// here is where the next word begins.
func (r *reader) here() int {
	if r.atEnd() {
		return r.end
	}
	return r.words[r.next].At
}

// word is the next one; "", which is none, at the end.
func (r *reader) word() string {
	if r.atEnd() {
		return ""
	}
	return r.words[r.next].Text
}

// pass goes behind the next word, and tells it. It is asked only where there is one.
func (r *reader) pass() string {
	s := r.word()
	r.next++
	return s
}

// need passes the next word, if it is such.
func (r *reader) need(is func(string) bool) string {
	if !is(r.word()) {
		r.unfit()
		return ""
	}
	return r.pass()
}

func (r *reader) needWord(s string) {
	r.need(func(next string) bool { return next == s })
}

func (r *reader) needNumber() int {
	n, _ := lex.Number(r.need(isNumber))
	return n
}

// enter is asked where a statement, type or expression begins, whatever stands there.
func (r *reader) enter() {
	if r.around == maxAround {
		r.fail(r.here(), api.ErrLimit)
	}
	r.around++
}

func (r *reader) leave() {
	r.around--
}

// node makes one that ends with the word just passed, and tells its place.
func (r *reader) node(n api.Node) int {
	if r.wrong != api.OK {
		return 0
	}
	if r.made.Add(1) > api.MaxNodes {
		r.fail(r.words[r.next-1].At, api.ErrLimit)
		return 0
	}
	r.nodes = append(r.nodes, n)
	return len(r.nodes) - 1
}

func isNumber(s string) bool {
	_, e := lex.Number(s)
	return e == api.OK
}

// isName is of a word, or of "".
func isName(s string) bool {
	return s != "" && s[0] >= 'a' && s[0] <= 'z' && !lex.Keyword(s)
}

func isKind(s string) bool {
	_, e := word.Kind(s)
	return e == api.OK
}

func isKindOfNumbers(s string) bool {
	kind, e := word.Kind(s)
	return e == api.OK && kind != api.KPtr
}

func isTurn(s string) bool {
	return s == "-" || s == "~" || s == "!"
}

func isOperator(s string) bool {
	switch s {
	case "+", "-", "*", "/", "%", "&", "|", "^", "<<", ">>", "==", "<":
		return true
	}
	return false
}
