package lex_test

import (
	"math/rand"
	"regexp"
	"slices"
	"strings"
	"testing"

	"cellar/api"
	"cellar/lex"
	"cellar/samples"
)

// step is chapter 10's words on what comes next: what is passed over, a name, a number,
// a sign.
var step = regexp.MustCompile(`^(?:([ \t\n\r]|#[^\n\r]*)|([a-z][a-z0-9]*)|([0-9]+)|==|<<|>>|[{}()\[\];:,.=+*/%&|^~!<-])`)

// cut is chapter 10's words on a text.
func cut(s string) (l []api.Token, at int, e api.Errno) {
	for at < len(s) {
		found := step.FindStringSubmatch(s[at:])
		if found == nil || len(found[2]) > 8 || len(found[3]) > 10 || len(found[3]) > 1 && found[3][0] == '0' {
			return nil, at, api.ErrParse
		}
		if found[1] == "" {
			l = append(l, api.Token{Text: found[0], At: at})
		}
		at += len(found[0])
	}
	return l, 0, api.OK
}

// holds checks Words of a text that is not too long against the chapter's words.
func holds(t *testing.T, s string) (e api.Errno) {
	t.Helper()
	want, where, wrong := cut(s)
	l, at, e := lex.Words(s)
	if !slices.Equal(l, want) || at != where || e != wrong {
		t.Fatalf("Words(%q) = %s, %d, %d; want %s, %d, %d", s, words(l), at, e, words(want), where, wrong)
	}
	return e
}

// texts hands all texts of so many of these bytes to do.
func texts(many int, of string, do func(string)) {
	row := make([]byte, many)
	var from func(i int)
	from = func(i int) {
		if i == many {
			do(string(row))
			return
		}
		for _, b := range []byte(of) {
			row[i] = b
			from(i + 1)
		}
	}
	from(0)
}

// P10.1, Words: all texts of two bytes, and of more out of some.
func TestAllTexts(t *testing.T) {
	var all []byte
	for n := range 256 {
		all = append(all, byte(n))
	}
	try := func(s string) { holds(t, s) }
	texts(1, string(all), try)
	texts(2, string(all), try)
	texts(3, "az09 \t\n\r#{}()[];:,.=+-*/%&|^~!<>A_\x00\xc3\xa9", try)
	texts(5, "a01 \n#=<>", try)
	texts(12, "a0", try)
	texts(12, "10", try)
}

// P10.1, Words: whatever texts, glued of words and of what is none.
func TestWhatever(t *testing.T) {
	r := rand.New(rand.NewSource(1))
	right, wrong := samples.Words(), samples.NotWords()
	between := []string{"", "", " ", "\t", "\n", "\r\n", "# > 01\n", "#\r", "   "}
	told := map[api.Errno]int{}
	for range 30000 {
		var s strings.Builder
		for range r.Intn(40) {
			s.WriteString(right[r.Intn(len(right))])
			s.WriteString(between[r.Intn(len(between))])
			if r.Intn(60) == 0 {
				s.WriteString(wrong[r.Intn(len(wrong))])
			}
		}
		if s.Len() <= api.MaxText {
			told[holds(t, s.String())]++
		}
	}
	if told[api.OK] < 5000 || told[api.ErrParse] < 5000 {
		t.Errorf("only so many of each: %v", told)
	}
}
