package lex_test

import (
	"fmt"
	"slices"
	"strings"
	"testing"

	"cellar/api"
	"cellar/lex"
	"cellar/samples"
)

// The face: each line stops compiling if a signature changes.
var (
	_ func(string) ([]api.Token, int, api.Errno) = lex.Words
	_ func(string) (int, api.Errno)              = lex.Number
	_ func(string) bool                          = lex.Keyword
	_ func(...string) (string, api.Errno)        = lex.Join
)

// words is a short form of a text's words: each with its place.
func words(l []api.Token) string {
	var all []string
	for _, x := range l {
		all = append(all, fmt.Sprint(x.Text, "@", x.At))
	}
	return strings.Join(all, " ")
}

// has checks that Words tells just these of a text.
func has(t *testing.T, s string, want string) {
	t.Helper()
	if l, at, e := lex.Words(s); words(l) != want || at != 0 || e != api.OK {
		t.Errorf("Words(%q) = %s, %d, %d; want %s", s, words(l), at, e, want)
	}
}

// stops checks that Words tells that at a place there is no word.
func stops(t *testing.T, s string, want int) {
	t.Helper()
	if l, at, e := lex.Words(s); len(l) > 0 || at != want || e != api.ErrParse {
		t.Errorf("Words(%q) = %s, %d, %d; want ErrParse at %d", s, words(l), at, e, want)
	}
}

// tooLong checks that Words tells that a text is too long, and no more.
func tooLong(t *testing.T, s string) {
	t.Helper()
	if l, at, e := lex.Words(s); len(l) > 0 || at != 0 || e != api.ErrLimit {
		t.Errorf("Words of %d bytes (%.20q) = %s, %d, %d; want ErrLimit", len(s), s, words(l), at, e)
	}
}

// P10.1, Words: what is told, written out.
func TestWords(t *testing.T) {
	has(t, "a<<3", "a@0 <<@1 3@3") // the chapter's example
	has(t, "", "")
	has(t, "x", "x@0")
	has(t, "var a:u8; a=3:u8;", "var@0 a@4 :@5 u8@6 ;@8 a@10 =@11 3@12 :@13 u8@14 ;@16")
	has(t, "*i32(&p.next[(i + 1:i32)]) = -x;", "*@0 i32@1 (@4 &@5 p@6 .@7 next@8 [@12 (@13 i@14 +@16 1@18 :@19 i32@20 )@23 ]@24 )@25 =@27 -@29 x@30 ;@31")
	has(t, "\twhile (a < b)\r\n{\n}", "while@1 (@7 a@8 <@10 b@12 )@13 {@16 }@18")
}

// P10.1, Words: a word goes as far as it can, the next one may follow at once.
func TestLongest(t *testing.T) {
	has(t, "=", "=@0")
	has(t, "==", "==@0")
	has(t, "===", "==@0 =@2")
	has(t, "====", "==@0 ==@2")
	has(t, "= =", "=@0 =@2")
	has(t, "=\n=", "=@0 =@2")
	has(t, "<", "<@0")
	has(t, "<<<", "<<@0 <@2")
	has(t, "<<<<<", "<<@0 <<@2 <@4")
	has(t, "< <<", "<@0 <<@2")
	has(t, "<=", "<@0 =@1")
	has(t, "<==", "<@0 ==@1")
	has(t, "=<<", "=@0 <<@1")
	has(t, "!==", "!@0 ==@1")
	has(t, "!=", "!@0 =@1")
	has(t, ">>>>", ">>@0 >>@2")
	has(t, "&&||++--", "&@0 &@1 |@2 |@3 +@4 +@5 -@6 -@7")
	has(t, "a1b2", "a1b2@0")
	has(t, "a 1", "a@0 1@2")
	has(t, "1a", "1@0 a@1")
	has(t, "12ab34", "12@0 ab34@2")
	has(t, "0a", "0@0 a@1")
	has(t, "0x10", "0@0 x10@1")
	has(t, "0 1", "0@0 1@2")
	has(t, "0;0", "0@0 ;@1 0@2")
	has(t, "1.5", "1@0 .@1 5@2")
	has(t, "-1", "-@0 1@1")
	has(t, "u8u8", "u8u8@0")
	has(t, "ifx if x", "ifx@0 if@4 x@7")
	has(t, "123abcdefgh", "123@0 abcdefgh@3")
}

// P10.1, Words: blanks, line ends and what is passed over behind a #.
func TestBetween(t *testing.T) {
	for _, s := range []string{" ", "\t", "\n", "\r", " \t\r\n", "#", "##", "# all\xff of \x00 it > 01 é", "#\n", "#\r", "\n#", "#\n#\r#", "# a\n\r\n # b"} {
		has(t, s, "")
	}
	has(t, " a", "a@1")
	has(t, "a ", "a@0")
	has(t, "\r\n\t a\n", "a@4")
	has(t, "a#b", "a@0")
	has(t, "a#b\nc", "a@0 c@4")
	has(t, "a#b\rc", "a@0 c@4")
	has(t, "a#b\r\nc", "a@0 c@5")
	has(t, "a#b#c\nd#e", "a@0 d@6")
	has(t, "a # one\n#two\n\n b", "a@0 b@15")
	has(t, "1#\n2", "1@0 2@3")
	has(t, "=#=\n=", "=@0 =@4")
	has(t, "a#\xff\u00e9\n= 5", "a@0 =@6 5@8") // places are bytes, not runes
	has(t, "#\v\f\u2028\u0085 >\na", "a@11")   // no line ends
}

// P10.1, Words: where the first byte is at which no word begins.
func TestNoWord(t *testing.T) {
	stops(t, ">", 0)
	stops(t, "> >", 0)
	stops(t, "a >b", 2)
	stops(t, ">>>", 2)
	stops(t, ">=", 0)
	stops(t, "a # >\n >", 7)
	stops(t, "A", 0)
	stops(t, "aB", 1)
	stops(t, "abcdefghI", 8)
	stops(t, "12345678901_", 0)
	stops(t, "a_b", 1)
	stops(t, "_", 0)
	stops(t, "x = 'c';", 4)
	stops(t, "\"\"", 0)
	stops(t, "a\\", 1)
	stops(t, "a?b:c", 1)
	stops(t, "a\x00", 1)
	stops(t, "\va", 0)
	stops(t, "a\f", 1)
	stops(t, "\u00e9", 0)
	stops(t, "a\u00e9", 1)
	stops(t, "\u00a0", 0)
	stops(t, "a \u2028b", 2)
	stops(t, "a = \u0663;", 4)
	stops(t, "\xff", 0)
	stops(t, "\ufeffa", 0)
	stops(t, "a $ @ ?", 2) // the first one
	stops(t, "01 >", 0)
	stops(t, "> 01", 0)
	stops(t, "a > abcdefghi", 2)
}

// P10.1, Words: names and numbers that are too long, a 0 ahead of digits: from both
// sides of each edge, told where they begin.
func TestTooLongWords(t *testing.T) {
	for n := 1; n < 30; n++ {
		for _, s := range []string{strings.Repeat("a", n), "z" + strings.Repeat("0", n-1), strings.Repeat("b7", n)[:n]} {
			for _, behind := range []string{"", " ", ";", ".a", "#", "\n1"} {
				if n > api.MaxName {
					stops(t, s+behind, 0)
					stops(t, "x = "+s+behind, 4)
					stops(t, "12"+s+behind, 2)
				} else if l, at, e := lex.Words(s + behind); l[0] != (api.Token{Text: s}) || at != 0 || e != api.OK {
					t.Errorf("Words(%q) = %v, %d, %d", s+behind, l, at, e)
				}
			}
		}
		for _, s := range []string{strings.Repeat("1", n), "9" + strings.Repeat("0", n-1), strings.Repeat("9", n)} {
			for _, behind := range []string{"", " ", ";", ":u8", "a", "abcdefgh", "#"} {
				if n > 10 {
					stops(t, s+behind, 0)
					stops(t, "x="+s+behind, 2)
				} else if l, at, e := lex.Words(s + behind); l[0] != (api.Token{Text: s}) || at != 0 || e != api.OK {
					t.Errorf("Words(%q) = %v, %d, %d", s+behind, l, at, e)
				}
			}
		}
		stops(t, "0"+strings.Repeat("1", n), 0)
		stops(t, strings.Repeat("0", n+1), 0)
		stops(t, "1 0"+strings.Repeat("9", n)+" 1", 2)
		stops(t, "1.0"+strings.Repeat("5", n), 2)
	}
	has(t, "a01", "a01@0") // a 0 within a name, or behind other digits, is fine
	has(t, "100", "100@0")
	has(t, "a.0 0a", "a@0 .@1 0@2 0@4 a@5")
	stops(t, "a.0 00a", 4)
}

// P10.1, Words: MaxText, from both sides, ahead of what else is wrong; it counts bytes,
// whatever they are.
func TestMaxText(t *testing.T) {
	for _, s := range []string{" ", "\n", "#", ";"} {
		all := strings.Repeat(s, api.MaxText)
		l, at, e := lex.Words(all)
		want := 0
		if s == ";" {
			want = api.MaxText
		}
		if len(l) != want || at != 0 || e != api.OK {
			t.Errorf("Words of as many %q as may be: %d words, %d, %d", s, len(l), at, e)
		}
		tooLong(t, all+s)
		tooLong(t, strings.Repeat(s, 1<<20))
	}
	has(t, strings.Repeat(" ", api.MaxText-1)+"a", "a@1999")
	stops(t, strings.Repeat(" ", api.MaxText-1)+">", api.MaxText-1)
	stops(t, strings.Repeat(";", api.MaxText-9)+"abcdefghi", api.MaxText-9)
	tooLong(t, strings.Repeat(" ", api.MaxText-1)+">>")
	tooLong(t, ">"+strings.Repeat(" ", api.MaxText))
	tooLong(t, strings.Repeat("a", api.MaxText+1))
	has(t, "#"+strings.Repeat("\u00e9", api.MaxText/2-1)+"\n", "")
	tooLong(t, "#"+strings.Repeat("\u00e9", api.MaxText/2)+"\n")
}

// P10.1, Words: all bytes, alone, on both sides of a word and of a sign, and passed over.
func TestAllBytes(t *testing.T) {
	for n := range 256 {
		s := string([]byte{byte(n)})
		has(t, "#"+strings.Trim(s, "\n\r")+"\na", fmt.Sprint("a@", 2+len(strings.Trim(s, "\n\r"))))
		switch {
		case strings.Contains(" \t\n\r", s):
			has(t, s, "")
			has(t, "a"+s+"b", "a@0 b@2")
			has(t, "="+s+"=", "=@0 =@2")
		case s == "#":
			has(t, "a"+s+"b", "a@0")
		case strings.Contains("abcdefghijklmnopqrstuvwxyz", s):
			has(t, s, s+"@0")
			has(t, "a"+s+"b", "a"+s+"b@0")
			has(t, "="+s+"=", "=@0 "+s+"@1 =@2")
		case strings.Contains("0123456789", s):
			has(t, s, s+"@0")
			has(t, "a"+s+"b", "a"+s+"b@0")
			has(t, "="+s+"=", "=@0 "+s+"@1 =@2")
		case strings.Contains("{}()[];:,.=+-*/%&|^~!<", s):
			has(t, s, s+"@0")
			has(t, "a"+s+"b", "a@0 "+s+"@1 b@2")
			has(t, ";"+s+";", ";@0 "+s+"@1 ;@2")
		default:
			stops(t, s, 0)
			stops(t, "a"+s+"b", 1)
			stops(t, "; "+s+" a", 2)
		}
	}
}

// R2: what is told is new memory, spare room too.
func TestNewMemory(t *testing.T) {
	const s = "var a:u8; # a\n a=3:u8; stop;"
	one, _, _ := lex.Words(s)
	other, _, _ := lex.Words(s)
	want := slices.Clone(other)
	_ = append(one, api.Token{Text: "more", At: 99})
	all := one[:cap(one)]
	for i := range all {
		all[i] = api.Token{Text: "spoilt", At: 98}
	}
	again, _, _ := lex.Words(s)
	if !slices.Equal(other, want) || !slices.Equal(again, want) {
		t.Errorf("%v and %v share with what is told; want %v", other, again, want)
	}
	l := samples.Words()
	if lex.Join(l...); !slices.Equal(l, samples.Words()) {
		t.Errorf("Join changed what was handed in to %v", l)
	}
}

// R1: the same, whoever calls at the same time.
func TestTogether(t *testing.T) {
	l := samples.Words()
	samples.Together(func() {
		s, e := lex.Join(l...)
		found, at, f := lex.Words(s)
		if len(found) != len(l) || at != 0 || e != api.OK || f != api.OK {
			t.Errorf("Join = %q, %d; its Words = %v, %d, %d", s, e, found, at, f)
		}
		if found, at, e := lex.Words("a > b"); len(found) > 0 || at != 2 || e != api.ErrParse {
			t.Errorf("Words = %v, %d, %d", found, at, e)
		}
		if n, e := lex.Number("4294967295"); n != 1<<32-1 || e != api.OK || !lex.Keyword("while") {
			t.Errorf("Number = %d, %d", n, e)
		}
	})
}
