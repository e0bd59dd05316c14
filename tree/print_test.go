package tree_test

import (
	"testing"

	"cellar/api"
	"cellar/tree"
)

// noTree checks that a list of nodes is none.
func noTree(t *testing.T, l []api.Node) {
	t.Helper()
	was := short(l)
	e := tree.Check(l)
	s, f := tree.Print(l)
	n, g := tree.Count(l)
	if e != api.ErrForm || s != "" || f != api.ErrForm || n != 0 || g != api.ErrForm {
		t.Fatalf("Check(%s) = %d, Print = %q, %d, Count = %d, %d; want ErrForm", was, e, s, f, n, g)
	}
	if short(l) != was {
		t.Fatalf("%s was changed to %s", was, short(l))
	}
}

// prog is a list of nodes with an NProg of these places behind.
func prog(places []int, l ...api.Node) []api.Node {
	return append(l, api.Node{Op: api.NProg, Parts: places})
}

// P11.1, Print: what is told, written out.
func TestPrint(t *testing.T) {
	printsAs(t, prog([]int{0}, api.Node{Op: api.NStop}), "stop ;") // the chapter's example
	printsAs(t, prog(nil), "")
	printsAs(t, prog([]int{}), "")
	printsAs(t, prog([]int{0, 1}, api.Node{Op: api.NStop, Parts: []int{}}, api.Node{Op: api.NStop}), "stop ; stop ;")
	for _, c := range [][2]string{
		{"a=b;", "a = b ;"},
		{"free-1:u8;", "free - 1 : u8 ;"},
		{"free (a<<(b>>c));", "free ( a << ( b >> c ) ) ;"},
		{"free ((a==b)<c);", "free ( ( a == b ) < c ) ;"},
		{"var a:struct{x:union{y:u8;}[3];z:ptr[2][4];};", "var a : struct { x : union { y : u8 ; } [ 3 ] ; z : ptr [ 2 ] [ 4 ] ; } ;"},
		{"*ptr(&a.b)[i32(-c)].d=~!0:u8;", "* ptr ( & a . b ) [ i32 ( - c ) ] . d = ~ ! 0 : u8 ;"},
		{"read a;new b.c,9999999999;free d;stop;", "read a ; new b . c , 9999999999 ; free d ; stop ;"},
		{"if a{stop;}else{}if b{}while c{if d{}else{stop;}}", "if a { stop ; } else { } if b { } while c { if d { } else { stop ; } }"},
	} {
		l, _, _ := tree.Parse(c[0])
		printsAs(t, l, c[1])
	}
}

// P11.1, Check: MaxText of the words with a blank between, from both sides, where the
// text of which the nodes came is short enough.
func TestMaxText(t *testing.T) {
	// "read aaaaaaaa ;" and a blank are 16 bytes, the whole has no blank at its end.
	whole := func(more string) []api.Node {
		l, at, e := tree.Parse(times(124, "read aaaaaaaa;") + more)
		if at != 0 || e != api.OK {
			t.Fatalf("Parse = %d, %d", at, e)
		}
		return l
	}
	for _, c := range []struct {
		more string
		size int
	}{{"read a;", 1992}, {"read aaaaaaaa;", 1999}, {"aaaaaaa=b;", 1997}, {"aaaaaaaa=bb;", 1999}, {"aaaaaaaa=bbb;", 2000}, {"aaaaaaaa=bbbb;", 2001}, {"aaaaaaaa=bbbbbb;", 2003}, {"read a;read b;", 2001}, {"a=-bbbbbbbb;", 2000}, {"aa=-bbbbbbbb;", 2001}} {
		l := whole(c.more)
		if c.size > api.MaxText {
			noTree(t, l)
			continue
		}
		s, e := tree.Print(l)
		if len(s) != c.size || e != api.OK {
			t.Errorf("Print, with %q, tells %d bytes, %d; want %d", c.more, len(s), e, c.size)
		}
		printsAs(t, l, s)
	}
}

// P11.1, Check: MaxNodes, from both sides, of lists that are in order.
func TestMaxNodesOfTree(t *testing.T) {
	fields := func(dots int) []api.Node {
		l := []api.Node{{Op: api.NName, Name: "a"}}
		for i := range dots {
			l = append(l, api.Node{Op: api.NDot, Name: "b", Parts: []int{i}})
		}
		l = append(l, api.Node{Op: api.NRead, Parts: []int{dots}})
		return prog([]int{dots + 1}, l...)
	}
	for n := range 310 {
		if l := fields(n); len(l) > api.MaxNodes {
			noTree(t, l)
		} else {
			printsAs(t, l, "read a"+times(n, " . b")+" ;")
		}
	}
}

// P11.2, Count: statements, in one another, too.
func TestCount(t *testing.T) {
	for s, want := range map[string]int{
		"":                       0,
		"var a:u8;var b:ptr[3];": 0,
		"stop;":                  1,
		"a=b;":                   1,
		"read a;":                1,
		"new a,1;":               1,
		"free a;":                1,
		"if a{}":                 1,
		"if a{}else{}":           1,
		"while a{}":              1,
		"stop;stop;stop;":        3,
		"if a{stop;}":            2,
		"if a{stop;}else{a=b;}":  3,
		"while a{if b{while c{stop;}}else{read d;}}free e;": 6,
		"free ((a+b)-u8(*u8(&c[d])));":                      1,
		times(285, "stop;"):                                 285,
	} {
		l, _, _ := tree.Parse(s)
		if n, e := tree.Count(l); n != want || e != api.OK {
			t.Errorf("Count of %q = %d, %d; want %d", s, n, e, want)
		}
	}
	l, _, _ := tree.Parse(times(286, "stop;")) // with blanks between its words it is too long
	noTree(t, l)
}

// P11.1, Check: lists of nodes that are no tree, written out.
func TestNoTree(t *testing.T) {
	noTree(t, nil)
	noTree(t, []api.Node{})
	noTree(t, make([]api.Node, 5))
	noTree(t, make([]api.Node, 100000))
	name, stop, block := api.Node{Op: api.NName, Name: "a"}, api.Node{Op: api.NStop}, api.Node{Op: api.NBlock}
	kind := api.Node{Op: api.NKind, Name: "u8"}
	node := func(op int, parts ...int) api.Node { return api.Node{Op: op, Parts: parts} }
	for _, l := range [][]api.Node{
		{stop},
		{kind},
		{name},
		{block},
		{{}},
		{stop, stop},
		{stop, node(api.NBlock, 0)},
		prog([]int{0}),
		prog([]int{0}, prog(nil)...),
		prog([]int{0}, block),
		prog([]int{0}, name),
		prog([]int{0}, kind),
		prog(nil, stop),
		prog([]int{0}, stop, stop),
		prog([]int{1}, stop, stop),
		prog([]int{1, 0}, stop, stop),
		prog([]int{0, 0}, stop),
		prog([]int{0, 0}, stop, stop),
		prog([]int{0, 1, 1}, stop, stop),
		prog([]int{1}, stop),
		prog([]int{-1}, stop),
		prog([]int{0, 2}, stop, stop),
		prog([]int{2}, name, name, node(api.NSet, 1, 0)),
		prog([]int{2}, name, name, node(api.NSet, 0, 0)),
		prog([]int{1}, name, node(api.NSet, 0, 0)),
		prog([]int{1}, name, node(api.NSet, 0)),
		prog([]int{3}, name, name, name, node(api.NSet, 0, 1, 2)),
		prog([]int{0}, node(api.NSet)),
		prog([]int{1}, node(api.NRead, 1), name),
		prog([]int{1}, name, node(api.NRead, 1)),
		prog([]int{0}, node(api.NRead, 0), name),
		prog([]int{0}, node(api.NRead, 1)),
		prog([]int{3}, name, block, block, node(api.NIf, 0, 1)),
		prog([]int{4}, name, block, block, block, node(api.NIf, 0, 1, 2, 3)),
		prog([]int{3}, name, block, block, node(api.NWhile, 0, 1, 2)),
		prog([]int{1}, name, node(api.NIf, 0)),
		prog([]int{2}, block, block, node(api.NIf, 0, 1)),
		prog([]int{2}, name, stop, node(api.NIf, 0, 1)),
		prog([]int{0, 2}, stop, kind, api.Node{Op: api.NVar, Name: "a", Parts: []int{1}}), // a declaration behind
		prog([]int{1}, api.Node{Op: api.NStruct}, api.Node{Op: api.NVar, Name: "a", Parts: []int{0}}),
		prog([]int{2}, kind, node(api.NStruct, 0), api.Node{Op: api.NVar, Name: "a", Parts: []int{1}}),
		// A cycle, and what would have very many words.
		{node(api.NProg, 0)},
		{node(api.NBlock, 1), node(api.NProg, 0)},
		{node(api.NBlock, 1), node(api.NBlock, 0), node(api.NProg, 1)},
		{stop, node(api.NBlock, 0, 0), node(api.NBlock, 1, 1), node(api.NBlock, 2, 2), node(api.NProg, 3, 3)},
	} {
		noTree(t, l)
	}
	row := []api.Node{stop}
	for i := range 200 {
		row = append(row, node(api.NBlock, i, i, i, i))
	}
	noTree(t, prog([]int{200}, row...))
	noTree(t, prog([]int{0}, api.Node{Op: api.NStop, Parts: make([]int, 1<<20)}))
	long := []api.Node{name}
	for i := range 100000 {
		long = append(long, api.Node{Op: api.NUn, Name: "-", Parts: []int{i}})
	}
	noTree(t, long)
	// Too many nodes, which are in order.
	var places []int
	var stops []api.Node
	for i := range api.MaxNodes {
		places, stops = append(places, i), append(stops, stop)
	}
	noTree(t, prog(places, stops...))
}
