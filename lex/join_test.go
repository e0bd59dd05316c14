package lex_test

import (
	"math/rand"
	"slices"
	"strconv"
	"strings"
	"testing"

	"cellar/api"
	"cellar/lex"
	"cellar/samples"
)

// P10.1, Number: words that are numbers, the edges among them.
func TestNumber(t *testing.T) {
	says := func(s string, want int) {
		t.Helper()
		if n, e := lex.Number(s); n != want || e != api.OK {
			t.Errorf("Number(%q) = %d, %d; want %d", s, n, e, want)
		}
	}
	says("0", 0)
	says("7", 7)
	says("10", 10)
	says("2147483648", 1<<31)
	says("4294967295", 1<<32-1)
	says("4294967296", 1<<32)
	says("9999999999", 9999999999)
	for n := range 20000 {
		says(strconv.Itoa(n), n)
	}
	for n := 1; n < 9999999999; n = n*3 + 1 {
		says(strconv.Itoa(n), n)
	}
}

// P10.1, Number: what is no word, or no number.
func TestNotNumber(t *testing.T) {
	for _, l := range [][]string{samples.NotWords(), samples.Signs(), samples.Keywords(), samples.Names(), {"10000000000", "99999999999", "18446744073709551617", "1,000", "1 ", "0b1", "0o7", "1;"}} {
		for _, s := range l {
			if n, e := lex.Number(s); n != 0 || e != api.ErrForm {
				t.Errorf("Number(%.20q) = %d, %d; want ErrForm", s, n, e)
			}
		}
	}
}

// P10.1, Keyword: those, and none else.
func TestKeyword(t *testing.T) {
	for _, s := range samples.Keywords() {
		if !lex.Keyword(s) {
			t.Errorf("Keyword(%q) is false", s)
		}
		for _, other := range []string{s + " ", " " + s, s + "x", s + "0", "x" + s, s[1:], s[:len(s)-1], strings.ToUpper(s), s + s, s + "\x00"} {
			if lex.Keyword(other) {
				t.Errorf("Keyword(%q) is true", other)
			}
		}
	}
	for _, l := range [][]string{samples.NotWords(), samples.Signs(), samples.Names(), samples.Numbers(), {"u64", "i64", "int", "do", "for", "return", "none", "main", "null", "array", "prog"}} {
		for _, s := range l {
			if lex.Keyword(s) {
				t.Errorf("Keyword(%.20q) is true", s)
			}
		}
	}
}

// P10.2, Join: what is told, written out.
func TestJoin(t *testing.T) {
	for _, c := range []struct {
		l    []string
		want string
	}{
		{nil, ""},
		{[]string{}, ""},
		{[]string{"a"}, "a"},
		{[]string{"a", "<<", "3"}, "a << 3"},
		{[]string{"<", "<"}, "< <"},
		{[]string{"a", "b", "1", "2"}, "a b 1 2"},
		{[]string{"var", "a", ":", "u8", ";", "stop", ";"}, "var a : u8 ; stop ;"},
		{[]string{"abcdefgh", "9999999999", "0", "0"}, "abcdefgh 9999999999 0 0"},
	} {
		if s, e := lex.Join(c.l...); s != c.want || e != api.OK {
			t.Errorf("Join(%q) = %q, %d; want %q", c.l, s, e, c.want)
		}
	}
}

// P10.2, Join: what is not one word, at whatever place.
func TestJoinOfWrong(t *testing.T) {
	for _, s := range samples.NotWords() {
		for _, l := range [][]string{{s}, {s, "a"}, {"a", s}, {"a", s, ";"}, {s, s}, {"1", "2", s, "3"}} {
			if joined, e := lex.Join(l...); joined != "" || e != api.ErrForm {
				t.Errorf("Join(%.20q) = %.20q, %d; want ErrForm", l, joined, e)
			}
		}
	}
}

// back checks P10.3 of a list of words: Words of Join are they, each one behind the
// blank behind the one ahead of it.
func back(t *testing.T, l []string) {
	t.Helper()
	var want []api.Token
	at := 0
	for _, s := range l {
		want = append(want, api.Token{Text: s, At: at})
		at += len(s) + 1
	}
	s, e := lex.Join(l...)
	if e != api.OK || len(s) != max(at-1, 0) {
		t.Fatalf("Join(%q) = %q, %d", l, s, e)
	}
	if found, at, e := lex.Words(s); !slices.Equal(found, want) || at != 0 || e != api.OK {
		t.Fatalf("Words(%q) = %v, %d, %d; want %v", s, found, at, e, want)
	}
}

// P10.3: of all rows of up to three of the samples' words, and of longer ones.
func TestWordsOfJoin(t *testing.T) {
	l := samples.Words()
	back(t, nil)
	back(t, l)
	for _, a := range l {
		back(t, []string{a})
		for _, b := range l {
			back(t, []string{a, b})
			for _, c := range l {
				back(t, []string{a, b, c})
			}
		}
	}
	r := rand.New(rand.NewSource(1))
	for range 2000 {
		var row []string
		for range r.Intn(180) {
			row = append(row, l[r.Intn(len(l))])
		}
		back(t, row)
	}
}

// P10.2 and P10.3: up to a text that Words takes, and beyond, where Join still tells it.
func TestJoinOfMany(t *testing.T) {
	back(t, slices.Repeat([]string{";"}, api.MaxText/2))
	l := append(slices.Repeat([]string{";"}, api.MaxText/2-1), "==")
	back(t, l)
	l[0] = "<<"
	s, e := lex.Join(l...)
	if len(s) != api.MaxText+1 || e != api.OK {
		t.Errorf("Join tells %d bytes, %d", len(s), e)
	}
	tooLong(t, s)
	if s, e := lex.Join(slices.Repeat([]string{"abc"}, 100000)...); len(s) != 399999 || e != api.OK {
		t.Errorf("Join of many tells %d bytes, %d", len(s), e)
	}
}
