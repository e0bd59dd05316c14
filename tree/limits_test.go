package tree_test

import (
	"strings"
	"testing"

	"cellar/api"
	"cellar/tree"
)

// many checks that Parse tells a tree of so many nodes.
func many(t *testing.T, s string, want int) {
	t.Helper()
	if l, at, e := tree.Parse(s); len(l) != want || at != 0 || e != api.OK {
		t.Errorf("Parse(%q) = %d nodes, %d, %d; want %d", s, len(l), at, e, want)
	}
}

func times(n int, s string) string {
	return strings.Repeat(s, n)
}

// P11.1, Parse: as many nodes as may be, told at the last word of one more, whichever
// it is: so many statements ahead are a node each.
func TestMaxNodes(t *testing.T) {
	for _, s := range []string{"", " ", " # more", "\n\n"} {
		many(t, times(299, "stop;")+s, 300)
		tells(t, times(300, "stop;")+s, 1499, api.ErrLimit) // NProg's last word
		tells(t, times(301, "stop;")+s, 1504, api.ErrLimit)
	}
	tells(t, times(300, "stop;")+" )", 1501, api.ErrParse) // NProg did not end there
	for _, c := range []struct {
		s    string
		ends []int // where its nodes' last words begin
	}{
		{"read a ;", []int{5, 7}},
		{"read a . b ;", []int{5, 9, 11}},
		{"read a [ b ] ;", []int{5, 9, 11, 13}},
		{"read * u8 ( a ) ;", []int{12, 14, 16}},
		{"free 10 : u8 ;", []int{10, 13}},
		{"free & a ;", []int{7, 7, 9}},
		{"free - ~ ! a ;", []int{11, 11, 11, 11, 13}},
		{"free i8 ( a ) ;", []int{10, 12, 14}},
		{"free ( a << b ) ;", []int{7, 12, 14, 16}},
		{"new a , 4 ;", []int{4, 10}},
		{"a = b ;", []int{0, 4, 6}},
		{"if a { }", []int{3, 7, 7}},
		{"if a { stop ; } ", []int{3, 12, 14, 14}},
		{"if a { } else { }", []int{3, 7, 16, 16}},
		{"if a { if b { } }", []int{3, 10, 14, 14, 16, 16}},
		{"while a { while b { } } # more", []int{6, 16, 20, 20, 22, 22}},
	} {
		ends := append(c.ends, c.ends[len(c.ends)-1]) // NProg's
		for i, end := range ends {
			tells(t, times(300-i, "stop;")+c.s, 5*(300-i)+end, api.ErrLimit)
		}
		many(t, times(300-len(ends), "stop;")+c.s, 300)
	}
	tells(t, times(298, "stop;")+"if a { } ;", 1497, api.ErrLimit) // NIf, ahead of what does not fit
	tells(t, times(298, "stop;")+"if a { } else ;", 1504, api.ErrParse)
	tells(t, times(298, "stop;")+"if a { } else { }", 1506, api.ErrLimit)
}

// P11.1, Parse: declarations' nodes count, too.
func TestMaxNodesOfTypes(t *testing.T) {
	for _, c := range []struct {
		s    string
		ends []int
	}{
		{"var b : u16 ;", []int{8, 12}},
		{"var b : u16 [ 2 ] [ 3 ] ;", []int{8, 16, 22, 24}},
		{"var b : union { x : ptr ; } ;", []int{20, 24, 26, 28}},
		{"var b : struct { x : u8 ; y : u8 ; } [ 1 ] ;", []int{21, 24, 30, 33, 35, 41, 43}},
	} {
		ends := append(c.ends, c.ends[len(c.ends)-1])
		for i, end := range ends {
			ahead := times((300-i)/2, "var a:u8;")
			if i%2 == 1 {
				ahead = "var a:u8[1];" + times((300-i)/2-1, "var a:u8;")
			}
			tells(t, ahead+c.s, len(ahead)+end, api.ErrLimit)
		}
	}
	many(t, times(149, "var a:u8;")+"stop;", 300)
	many(t, "var a:u8"+times(297, "[1]")+";", 300)
	tells(t, "var a:u8"+times(298, "[1]")+";", 8+3*298, api.ErrLimit)
	tells(t, "var a:u8"+times(300, "[1]")+";", 8+3*299+2, api.ErrLimit)
	many(t, "read a"+times(297, ".b")+";", 300)
	tells(t, "read a"+times(300, ".b")+";", 6+2*299+1, api.ErrLimit)
}

// P11.1, Parse: expressions in one another. Behind free there is a statement around the
// first one: so in 18 more the last one may stand, not in 19.
func TestDeepExpressions(t *testing.T) {
	for _, c := range []struct {
		begin, end string
	}{{"-", ""}, {"~", ""}, {"!", ""}, {"u8(", ")"}, {"(", "+b)"}, {"*u8(", ")"}, {"a[", "]"}, {"a.b[", "].c"}, {"&a[", "]"}, {"&*ptr(", ").b"}} {
		wrap := func(n int, s string) string { return times(n, c.begin) + s + times(n, c.end) }
		deepest := 5 + 19*len(c.begin)
		for n := range 30 {
			if _, at, e := tree.Parse("free " + wrap(n, "a") + ";"); n < 19 && (at != 0 || e != api.OK) {
				t.Errorf("%d times %s tells %d, %d", n, c.begin, at, e)
			}
			if n >= 19 {
				tells(t, "free "+wrap(n, "a")+";", deepest, api.ErrLimit)
			}
		}
		tells(t, "free "+times(19, c.begin)+" # more\n 1:u8;", deepest+9, api.ErrLimit)
		for _, s := range []string{"&a", "-a", "(a+b)", "u8(a)", "*u8(a)", "1:u8"} {
			tells(t, "free "+wrap(19, s)+";", deepest, api.ErrLimit)
		}
		// What stands there need not fit; at the end it is the text's length.
		for _, s := range []string{")", ";", "stop", "var", "}", "==", "ptr", "struct", ","} {
			tells(t, "free "+times(19, c.begin)+s, deepest, api.ErrLimit)
			tells(t, "free "+times(18, c.begin)+s, 5+18*len(c.begin), api.ErrParse)
		}
		tells(t, "free "+times(19, c.begin), deepest, api.ErrLimit)
		tells(t, "free "+times(19, c.begin)+" # ", deepest+3, api.ErrLimit)
		tells(t, "free "+times(18, c.begin)+" # ", 5+18*len(c.begin)+3, api.ErrParse)
	}
	tells(t, "free "+times(18, "-")+"(b+a);", 24, api.ErrLimit)
	tells(t, "free "+times(17, "-")+"(b+-a);", 26, api.ErrLimit) // the second one is as deep as the first
	many(t, "free "+times(16, "-")+"(-b+-a);", 23)
}

// P11.1, Parse: what is no expression of its own stands around nothing.
func TestNotDeep(t *testing.T) {
	many(t, "free "+times(18, "-")+"a.b.c.d;", 24)
	many(t, "free "+times(18, "-")+"&a.b;", 23)
	many(t, "free "+times(17, "-")+"a[b][c][d];", 26)
	tells(t, "free "+times(18, "-")+"a[b];", 25, api.ErrLimit)
	tells(t, "free "+times(18, "-")+"&a[b];", 26, api.ErrLimit)
	tells(t, "free "+times(17, "-")+"a[b][-c];", 28, api.ErrLimit)
	// Around an item's number of a statement's own place there is just the statement.
	many(t, "read a["+times(18, "-")+"b];", 23)
	tells(t, "read a["+times(19, "-")+"b];", 26, api.ErrLimit)
	tells(t, "a["+times(19, "-")+"b]=c;", 21, api.ErrLimit)
	tells(t, "a="+times(19, "-")+"b;", 21, api.ErrLimit)
	tells(t, "new *ptr("+times(19, "-")+"b),1;", 28, api.ErrLimit)
	tells(t, "if "+times(19, "-")+"b { }", 22, api.ErrLimit)
	tells(t, "while "+times(19, "-")+"b { }", 25, api.ErrLimit)
	// What ended is not around any more.
	many(t, times(40, "free -a;"), 121)
	many(t, "free (((a+b)+(a+b))+((a+b)+(a+b)));", 17)
	many(t, times(50, "if a{stop;}"), 201)
	many(t, times(60, "var a:struct{x:u8;};"), 241)
}

// P11.1, Parse: statements in one another. In 19 a statement may stand that has no
// expression of its own: the condition of a 20th one is in 20.
func TestDeepStatements(t *testing.T) {
	for _, begin := range []string{"if a{", "while a{", "if a{}else{", "while a{}if a{"} {
		to := strings.Index(begin, "a") // the condition, where a 20th one begins
		for n := range 30 {
			for _, s := range []string{"", "stop;", "read b;", "new c,1;", "stop;stop;"} {
				text := times(n, begin) + s + times(n, "}")
				if _, at, e := tree.Parse(text); n < 20 && (at != 0 || e != api.OK) {
					t.Errorf("Parse(%q) = %d, %d", text, at, e)
				}
				if n >= 20 {
					tells(t, text, 19*len(begin)+to, api.ErrLimit)
				}
			}
		}
		ahead := 19 * len(begin)
		tells(t, times(19, begin)+"b=c;", ahead+2, api.ErrLimit)
		tells(t, times(19, begin)+"free c;", ahead+5, api.ErrLimit)
		tells(t, times(19, begin)+"b[c]=d;", ahead+2, api.ErrLimit)
		tells(t, times(19, begin)+"b=", ahead+2, api.ErrLimit)
		tells(t, times(19, begin)+"if # more", ahead+9, api.ErrLimit)
		tells(t, times(19, begin)+"while {", ahead+6, api.ErrLimit)
		tells(t, times(18, begin)+"b=-c;", 18*len(begin)+3, api.ErrLimit)
		tells(t, times(18, begin)+"b=;", 18*len(begin)+2, api.ErrParse)
		for _, s := range []string{")", ";", "else", "var", "1", "{"} {
			tells(t, times(19, begin)+s, ahead, api.ErrParse)
		}
		tells(t, times(19, begin)+" ", ahead+1, api.ErrParse)
		tells(t, times(19, begin)+times(20, "}"), ahead+19, api.ErrParse)
	}
}

// P11.1, Parse: types in one another; a declaration is none of what counts, nor is an
// array around what it is of.
func TestDeepTypes(t *testing.T) {
	for _, begin := range []string{"struct{x:", "union{x:", "struct{y:u8;x:"} {
		wrap := func(n int, s string) string {
			return "var a:" + times(n, begin) + s + times(n, ";}") + ";"
		}
		to := strings.Index(begin, "u8") // in 20 of them u8 is the first one that is too deep
		if to < 0 {
			to = len(begin)
		}
		for n := range 30 {
			for _, s := range []string{"u8", "ptr[1][2]", "i32" + times(22, "[1]")} {
				if _, at, e := tree.Parse(wrap(n, s)); n < 20 && (at != 0 || e != api.OK) {
					t.Errorf("Parse(%q) = %d, %d", wrap(n, s), at, e)
				}
				if n >= 20 {
					tells(t, wrap(n, s), 6+19*len(begin)+to, api.ErrLimit)
				}
			}
		}
	}
	many(t, "var a:struct{x:"+times(18, "struct{x:")+"u8"+times(18, ";}")+";y:u8[2];};", 44)
	ahead := "var a:" + times(20, "union{x:")
	for _, s := range []string{";", "b", "1", "stop", "}", "["} {
		tells(t, ahead+s, len(ahead), api.ErrLimit)
		tells(t, ahead[:len(ahead)-8]+s, len(ahead)-8, api.ErrParse)
	}
	tells(t, ahead, len(ahead), api.ErrLimit)
	tells(t, ahead+" \n", len(ahead)+2, api.ErrLimit)
	tells(t, ahead[:len(ahead)-8]+" \n", len(ahead)-6, api.ErrParse)
	tells(t, ahead[:len(ahead)-2], len(ahead)-2, api.ErrParse)
	many(t, times(10, "var a:struct{x:u8[1][1];};")+"stop;", 62)
}
