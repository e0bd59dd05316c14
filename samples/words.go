package samples

import "strings"

// Signs are the words that are neither names nor numbers.
func Signs() []string {
	return strings.Fields("{ } ( ) [ ] ; : , . = + - * / % & | ^ ~ ! < == << >>")
}

// Keywords are the words that have a meaning of their own.
func Keywords() []string {
	return strings.Fields("var struct union if else while read new free stop u8 i8 u16 i16 u32 i32 ptr")
}

// Names are words that are names: the edges among them.
func Names() []string {
	return strings.Fields("a z q7 a0 z9 x1y abcdefgh a1234567 zzzzzzzz a9999999")
}

// Numbers are words that are numbers: the edges among them.
func Numbers() []string {
	return strings.Fields("0 1 9 10 42 255 90000 4294967295 4294967296 1000000000 9999999999")
}

// Words are some of each kind.
func Words() []string {
	var l []string
	for _, more := range [][]string{Signs(), Keywords(), Names(), Numbers()} {
		l = append(l, more...)
	}
	return l
}

// NotWords are none, or more than just one word.
func NotWords() []string {
	l := []string{"", "#", "#a", "a#", "5#", ">>#", "abcdefghi", "structure", "a12345678", "12345678901", "00000000000", strings.Repeat("a", 100000), strings.Repeat("1", 100000), strings.Repeat("0", 100000)}
	l = append(l, "00", "01", "007", "0a", "1a", "12ab", "a.b", "u8.", "a;", ";;", "()", "1.0", "-1", "+1", "0x1", "1e3", "1_0", "a_", "_a", "a b", "1 2")
	l = append(l, ">", ">=", "> >", "<=", "!=", "= =", "<<<", "<<=", "===", "====", ">>>", ">>>>", "++", "&&", "//", "A", "aB", "Var", "VAR", "é", "aé", "\u00b2", "\u0661", "\"", "'", "`", "$", "@", "?", "\\", "\xff", "a\xff", "\x80")
	for _, s := range []string{" ", "\t", "\n", "\r", "\x00", "\v", "\f", "\u00a0"} {
		l = append(l, s, s+s, "a"+s, s+"a", "1"+s, s+"1", ";"+s, s+";", "a"+s+"a", "="+s+"=", "var"+s, s+"u8")
	}
	return l
}
