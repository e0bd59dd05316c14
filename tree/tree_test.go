package tree_test

import (
	"fmt"
	"slices"
	"strings"
	"testing"

	"cellar/api"
	"cellar/lex"
	"cellar/samples"
	"cellar/tree"
)

// The face: each line stops compiling if a signature changes.
var (
	_ func(string) ([]api.Node, int, api.Errno) = tree.Parse
	_ func([]api.Node) api.Errno                = tree.Check
	_ func([]api.Node) (string, api.Errno)      = tree.Print
	_ func([]api.Node) (int, api.Errno)         = tree.Count
)

// ops are short forms of a node's.
var ops = strings.Fields("none prog var kind array struct union field name dot at deref num ref cast un bin set read new free if while stop block")

// short is a short form of nodes: Op, Name, N (unless it is 0), Parts.
func short(t []api.Node) string {
	var all []string
	for _, n := range t {
		s := fmt.Sprint(n.Op)
		if n.Op >= 0 && n.Op < len(ops) {
			s = ops[n.Op]
		}
		if n.Name != "" {
			s += " " + n.Name
		}
		if n.N != 0 {
			s += fmt.Sprint(" ", n.N)
		}
		if len(n.Parts) > 0 {
			s += fmt.Sprint(n.Parts)
		}
		all = append(all, s)
	}
	return strings.Join(all, ", ")
}

func same(a []api.Node, b []api.Node) bool {
	return slices.EqualFunc(a, b, func(x api.Node, y api.Node) bool {
		return x.Op == y.Op && x.Name == y.Name && x.N == y.N && slices.Equal(x.Parts, y.Parts)
	})
}

// has checks that Parse tells just these nodes of a text.
func has(t *testing.T, s string, want string) {
	t.Helper()
	if l, at, e := tree.Parse(s); short(l) != want || at != 0 || e != api.OK {
		t.Errorf("Parse(%q) = %s, %d, %d; want %s", s, short(l), at, e, want)
	}
}

// P11.1, Parse: what is told, written out.
func TestParse(t *testing.T) {
	has(t, "stop ;", "stop, prog[0]") // the chapter's example
	has(t, "", "prog")
	has(t, " # nothing\n", "prog")
	has(t, "stop;stop;stop;", "stop, stop, stop, prog[0 1 2]")
	has(t, "var a:u8; a=3:u8;", "kind u8, var a[0], name a, num u8 3, set[2 3], prog[1 4]")
	has(t, "var a:u8; var b:ptr;", "kind u8, var a[0], kind ptr, var b[2], prog[1 3]")
	has(t, "a=b;", "name a, name b, set[0 1], prog[2]")
	has(t, "x9=0:i32;", "name x9, num i32, set[0 1], prog[2]")
}

// P11.1, Parse: types.
func TestTypes(t *testing.T) {
	for _, s := range strings.Fields("u8 i8 u16 i16 u32 i32 ptr") {
		has(t, "var a:"+s+";", "kind "+s+", var a[0], prog[1]")
	}
	has(t, "var a:u8[3];", "kind u8, array 3[0], var a[1], prog[2]")
	has(t, "var a:u8[3][5][0];", "kind u8, array 3[0], array 5[1], array[2], var a[3], prog[4]")
	has(t, "var a:ptr[9999999999];", "kind ptr, array 9999999999[0], var a[1], prog[2]")
	has(t, "var a:struct{x:u8;};", "kind u8, field x[0], struct[1], var a[2], prog[3]")
	has(t, "var a:union{x:u8;};", "kind u8, field x[0], union[1], var a[2], prog[3]")
	has(t, "var a:struct{x:u8;y:i16;x:ptr;};", "kind u8, field x[0], kind i16, field y[2], kind ptr, field x[4], struct[1 3 5], var a[6], prog[7]")
	has(t, "var a:struct{x:union{y:u8[2];z:u16;}[4];w:ptr;}[6];",
		"kind u8, array 2[0], field y[1], kind u16, field z[3], union[2 4], array 4[5], field x[6], kind ptr, field w[8], struct[7 9], array 6[10], var a[11], prog[12]")
}

// P11.1, Parse: places.
func TestPlaces(t *testing.T) {
	has(t, "read a;", "name a, read[0], prog[1]")
	has(t, "read a.b;", "name a, dot b[0], read[1], prog[2]")
	has(t, "read a.b.c;", "name a, dot b[0], dot c[1], read[2], prog[3]")
	has(t, "read a[1:i32];", "name a, num i32 1, at[0 1], read[2], prog[3]")
	has(t, "read a[b][c];", "name a, name b, at[0 1], name c, at[2 3], read[4], prog[5]")
	has(t, "read a[b[c]];", "name a, name b, name c, at[1 2], at[0 3], read[4], prog[5]")
	has(t, "read a[b].c;", "name a, name b, at[0 1], dot c[2], read[3], prog[4]")
	has(t, "read a.b[c];", "name a, dot b[0], name c, at[1 2], read[3], prog[4]")
	for _, s := range strings.Fields("u8 i8 u16 i16 u32 i32 ptr") {
		has(t, "read *"+s+"(p);", "name p, deref "+s+"[0], read[1], prog[2]")
	}
	has(t, "read *ptr(p).a[i];", "name p, deref ptr[0], dot a[1], name i, at[2 3], read[4], prog[5]")
	has(t, "read *u8(*ptr(&p));", "name p, ref[0], deref ptr[1], deref u8[2], read[3], prog[4]")
}

// P11.1, Parse: expressions.
func TestExpressions(t *testing.T) {
	for _, s := range strings.Fields("u8 i8 u16 i16 u32 i32") {
		has(t, "free 9:"+s+";", "num "+s+" 9, free[0], prog[1]")
		has(t, "free "+s+"(9:"+s+");", "num "+s+" 9, cast "+s+"[0], free[1], prog[2]")
	}
	has(t, "free 0:u8;", "num u8, free[0], prog[1]")
	has(t, "free 9999999999:u8;", "num u8 9999999999, free[0], prog[1]")
	has(t, "free a;", "name a, free[0], prog[1]")
	has(t, "free a[b].c;", "name a, name b, at[0 1], dot c[2], free[3], prog[4]")
	has(t, "free *u8(a);", "name a, deref u8[0], free[1], prog[2]")
	has(t, "free &a;", "name a, ref[0], free[1], prog[2]")
	has(t, "free &a.b[c];", "name a, dot b[0], name c, at[1 2], ref[3], free[4], prog[5]")
	has(t, "free &*ptr(a);", "name a, deref ptr[0], ref[1], free[2], prog[3]")
	for _, s := range strings.Fields("- ~ !") {
		has(t, "free "+s+"a;", "name a, un "+s+"[0], free[1], prog[2]")
		has(t, "free "+s+s+"1:u8;", "num u8 1, un "+s+"[0], un "+s+"[1], free[2], prog[3]")
	}
	has(t, "free -a.b;", "name a, dot b[0], un -[1], free[2], prog[3]")
	for _, s := range strings.Fields("+ - * / % & | ^ << >> == <") {
		has(t, "free (a"+s+"b);", "name a, name b, bin "+s+"[0 1], free[2], prog[3]")
		has(t, "free (a"+s+"-b);", "name a, name b, un -[1], bin "+s+"[0 2], free[3], prog[4]")
		has(t, "free (a"+s+"*u8(b));", "name a, name b, deref u8[1], bin "+s+"[0 2], free[3], prog[4]")
		has(t, "free (a"+s+"&b);", "name a, name b, ref[1], bin "+s+"[0 2], free[3], prog[4]")
	}
	has(t, "free ((a+b)-(c*d));", "name a, name b, bin +[0 1], name c, name d, bin *[3 4], bin -[2 5], free[6], prog[7]")
	has(t, "free i8((a+u8(b)));", "name a, name b, cast u8[1], bin +[0 2], cast i8[3], free[4], prog[5]")
}

// P11.1, Parse: statements.
func TestStatements(t *testing.T) {
	has(t, "a=-b;", "name a, name b, un -[1], set[0 2], prog[3]")
	has(t, "a.b=c;", "name a, dot b[0], name c, set[1 2], prog[3]")
	has(t, "*u8(a)=1:u8;", "name a, deref u8[0], num u8 1, set[1 2], prog[3]")
	has(t, "new a,5;", "name a, new 5[0], prog[1]")
	has(t, "new a.b,0;", "name a, dot b[0], new[1], prog[2]")
	has(t, "new *ptr(a),9999999999;", "name a, deref ptr[0], new 9999999999[1], prog[2]")
	has(t, "if a { }", "name a, block, if[0 1], prog[2]")
	has(t, "if a { } else { }", "name a, block, block, if[0 1 2], prog[3]")
	has(t, "if a { stop; stop; } else { stop; }", "name a, stop, stop, block[1 2], stop, block[4], if[0 3 5], prog[6]")
	has(t, "if a{if b{}else{}}", "name a, name b, block, block, if[1 2 3], block[4], if[0 5], prog[6]")
	has(t, "if a{if b{}}else{}", "name a, name b, block, if[1 2], block[3], block, if[0 4 5], prog[6]")
	has(t, "while (a<b) { a=b; }", "name a, name b, bin <[0 1], name a, name b, set[3 4], block[5], while[2 6], prog[7]")
	has(t, "while a {} stop;", "name a, block, while[0 1], stop, prog[2 3]")
	has(t, "var a:u8; while a { if a { while a { } } stop; }",
		"kind u8, var a[0], name a, name a, name a, block, while[4 5], block[6], if[3 7], stop, block[8 9], while[2 10], prog[1 11]")
}

// P11.1 and P11.3: texts of all kinds are trees, that print as texts of the same tree.
func TestTexts(t *testing.T) {
	for _, s := range samples.Texts() {
		l, at, e := tree.Parse(s)
		if at != 0 || e != api.OK {
			t.Errorf("Parse(%q) = %d, %d", s, at, e)
			continue
		}
		printsAs(t, l, spaced(s))
	}
}

// spaced is a text's words with a blank between.
func spaced(s string) string {
	words, _, _ := lex.Words(s)
	var l []string
	for _, w := range words {
		l = append(l, w.Text)
	}
	return strings.Join(l, " ")
}

// printsAs checks that a list of nodes is a tree, which prints as that text.
func printsAs(t *testing.T, l []api.Node, want string) {
	t.Helper()
	if e := tree.Check(l); e != api.OK {
		t.Fatalf("Check(%s) = %d", short(l), e)
	}
	s, e := tree.Print(l)
	if s != want || e != api.OK {
		t.Fatalf("Print(%s) = %q, %d; want %q", short(l), s, e, want)
	}
	back, at, e := tree.Parse(s)
	if !same(back, l) || at != 0 || e != api.OK {
		t.Fatalf("Parse(%q) = %s, %d, %d; want %s", s, short(back), at, e, short(l))
	}
}

// spoil writes over whatever a list of nodes has, and appends to it.
func spoil(l []api.Node) {
	for _, n := range l {
		_ = append(n.Parts, 77)
		parts := n.Parts[:cap(n.Parts)]
		for i := range parts {
			parts[i] = 99
		}
	}
	_ = append(l, api.Node{Op: api.NStop})
	l = l[:cap(l)]
	for i := range l {
		l[i] = api.Node{Op: api.NProg, Name: "spoilt", N: 5, Parts: []int{1}}
	}
}

// R2: what is told is new memory, spare room too; no two lists of it share any.
func TestNewMemory(t *testing.T) {
	for _, s := range samples.Texts() {
		one, _, _ := tree.Parse(s)
		other, _, _ := tree.Parse(s)
		want := short(other)
		for i, n := range one {
			_ = append(n.Parts, 77)
			parts := n.Parts[:cap(n.Parts)]
			for k := range parts {
				parts[k] = 99
			}
			for k, m := range one {
				if k > i && !slices.Equal(m.Parts, other[k].Parts) {
					t.Errorf("Parse(%q): the parts of %d and %d share", s, i, k)
				}
			}
		}
		spoil(one)
		again, _, _ := tree.Parse(s)
		if short(other) != want || short(again) != want {
			t.Errorf("Parse(%q): %s and %s share with what was told; want %s", s, short(other), short(again), want)
		}
		tree.Check(other)
		tree.Print(other)
		tree.Count(other)
		if short(other) != want {
			t.Errorf("%s was changed to %s", want, short(other))
		}
	}
}

// R1: the same, whoever calls at the same time.
func TestTogether(t *testing.T) {
	const s = "var a:u8; while a { if a { a=(a-1:u8); } }"
	want, _, _ := tree.Parse(s)
	samples.Together(func() {
		if l, at, e := tree.Parse(s); !same(l, want) || at != 0 || e != api.OK {
			t.Errorf("Parse = %s, %d, %d", short(l), at, e)
		}
		if l, at, e := tree.Parse("a=;"); len(l) > 0 || at != 2 || e != api.ErrParse {
			t.Errorf("Parse = %s, %d, %d", short(l), at, e)
		}
		p, e := tree.Print(want)
		n, f := tree.Count(want)
		if p != spaced(s) || n != 3 || e != api.OK || f != api.OK {
			t.Errorf("Print = %q, %d; Count = %d, %d", p, e, n, f)
		}
	})
}
