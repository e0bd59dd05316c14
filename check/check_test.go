package check_test

import (
	"fmt"
	"reflect"
	"slices"
	"strings"
	"testing"

	"cellar/api"
	"cellar/check"
	"cellar/lex"
	"cellar/prog"
	"cellar/samples"
	"cellar/tree"
)

// The face: each line stops compiling if a signature changes.
var (
	_ func([]api.Node) ([]api.Type, []int, api.Errno)       = check.Types
	_ func([]api.Node, api.Abi) (api.Program, api.Errno)    = check.Program
	_ func(text string, a api.Abi) (api.Program, api.Errno) = check.Read
)

var little = api.Abi{Ptr: 4}

// Short forms: of kinds, of expressions' ops, of statements'.
var (
	kinds = strings.Fields("- u8 i8 u16 i16 u32 i32 ptr array struct union")
	exprs = strings.Fields("- num addr load cast neg not zero add sub mul div rem and or xor shl shr eq less move apart same")
	stmts = strings.Fields("- set read new free if while stop")
)

// shortType is a short form of a type; beside its own fields it tells those that are not 0.
func shortType(x api.Type) string {
	s := kinds[x.Kind]
	if x.Kind == api.KArray {
		return fmt.Sprint(s, " ", x.N, " of ", x.Of) + rest(len(x.Names) > 0 || len(x.Parts) > 0)
	}
	for i, name := range x.Names {
		s += fmt.Sprint(" ", name, " ", x.Parts[i])
	}
	return s + rest(x.N != 0 || x.Of != 0 || len(x.Names) != len(x.Parts))
}

func rest(is bool) string {
	if is {
		return " and more"
	}
	return ""
}

func shortTypes(l []api.Type) string {
	var all []string
	for _, x := range l {
		all = append(all, shortType(x))
	}
	return strings.Join(all, ", ")
}

func shortExpr(x api.Expr) string {
	s := exprs[x.Op] + " " + kinds[x.Kind]
	switch {
	case x.Op <= api.EAddr:
		return s + fmt.Sprint(" ", x.N)
	case x.Op <= api.EZero:
		return s + fmt.Sprint(" ", x.A)
	}
	return s + fmt.Sprint(" ", x.A, " ", x.B)
}

func shortStmt(x api.Stmt) string {
	s := stmts[x.Op]
	switch x.Op {
	case api.SSet:
		return s + fmt.Sprint(" ", x.To, " ", kinds[x.Kind], " ", x.E)
	case api.SRead:
		return s + fmt.Sprint(" ", x.To, " ", kinds[x.Kind])
	case api.SNew:
		return s + fmt.Sprint(" ", x.To, " ", x.N)
	case api.SFree:
		return s + fmt.Sprint(" ", x.E)
	case api.SIf:
		return s + fmt.Sprintf(" %d%v%v", x.E, x.Body, x.Else)
	case api.SWhile:
		return s + fmt.Sprintf(" %d%v", x.E, x.Body)
	}
	return s
}

// short is a short form of a program, but for its machine: blocks' sizes, expressions,
// statements, which are the outermost.
func short(p api.Program) string {
	var l, m []string
	for _, x := range p.Exprs {
		l = append(l, shortExpr(x))
	}
	for _, x := range p.Stmts {
		m = append(m, shortStmt(x))
	}
	return fmt.Sprintf("%v %v ", p.Vars, p.News) + strings.Join(l, ", ") + " | " + strings.Join(m, ", ") + fmt.Sprint(" ", p.Main)
}

func isNothing(p api.Program) bool {
	return reflect.DeepEqual(p, api.Program{})
}

// tells checks that a text is just that program: of it, and of its tree. A program that
// may be has nothing but what a short form tells.
func tells(t *testing.T, a api.Abi, s string, want string) {
	t.Helper()
	p, e := check.Read(s, a)
	if e != api.OK || p.Abi != a || short(p) != want || prog.Check(p) != api.OK {
		t.Errorf("Read(%q) = %s, %d; want %s", s, short(p), e, want)
	}
	l, _, _ := tree.Parse(s)
	if q, e := check.Program(l, a); e != api.OK || !same(p, q) {
		t.Errorf("Program(%q) = %s, %d; want %s", s, short(q), e, want)
	}
}

// same is whether two programs are, a nil list and an empty one being one.
func same(p api.Program, q api.Program) bool {
	return fmt.Sprint(p) == fmt.Sprint(q)
}

// fails checks that of a text that has a tree just that error is told.
func fails(t *testing.T, a api.Abi, s string, want api.Errno) {
	t.Helper()
	if p, e := check.Read(s, a); e != want || !isNothing(p) {
		t.Errorf("Read(%q) = %s, %d; want %d", s, short(p), e, want)
	}
	l, _, f := tree.Parse(s)
	if p, e := check.Program(l, a); f != api.OK || e != want || !isNothing(p) {
		t.Errorf("Program(%q) = %s, %d; want %d", s, short(p), e, want)
	}
}

// P14.1: all types of each declaration as their nodes stand, and which one is its.
func TestTypes(t *testing.T) {
	for _, c := range []struct {
		s, want string
		vars    []int
	}{
		{"", "", nil},
		{"stop;", "", nil},
		{"var a:u8; a=3:u8;", "u8", []int{0}},
		{"var a:u8;var b:i8;var c:u16;var d:i16;", "u8, i8, u16, i16", []int{0, 1, 2, 3}},
		{"var a:u32;var b:i32;var c:ptr;", "u32, i32, ptr", []int{0, 1, 2}},
		{"var a:u8;var b:u8;", "u8, u8", []int{0, 1}},
		{"var a:u8[3];", "u8, array 3 of 0", []int{1}},
		{"var a:u8[3][16];var b:ptr[1];", "u8, array 3 of 0, array 16 of 1, ptr, array 1 of 3", []int{2, 4}},
		{"var a:struct{x:u8;};", "u8, struct x 0", []int{1}},
		{"var a:union{x:u8;y2:i16;};", "u8, i16, union x 0 y2 1", []int{2}},
		{"var a:struct{x:u8;y:union{z:ptr;w:u8[4];};v:i32;}[2];var b:i8;",
			"u8, ptr, u8, array 4 of 2, union z 1 w 3, i32, struct x 0 y 4 v 5, array 2 of 6, i8", []int{7, 8}},
		{"var a:struct{x:struct{x:struct{x:u8;};};};", "u8, struct x 0, struct x 1, struct x 2", []int{3}},
		{"*u16(p)=u32(a); if *i8(q) { }", "", nil},
	} {
		l, _, _ := tree.Parse(c.s)
		got, vars, e := check.Types(l)
		if shortTypes(got) != c.want || !slices.Equal(vars, c.vars) || e != api.OK {
			t.Errorf("Types(%q) = %s, %v, %d; want %s, %v", c.s, shortTypes(got), vars, e, c.want, c.vars)
		}
	}
}

// P14.1: types are told, too, of which there is no program, as nothing else is asked.
func TestTypesThatMayNotBe(t *testing.T) {
	for _, c := range []struct{ s, want string }{
		{"var a:u8[0];", "u8, array 0 of 0"},
		{"var a:u8[9999999999];", "u8, array 9999999999 of 0"},
		{"var a:struct{x:u8;x:u8;};", "u8, u8, struct x 0 x 1"},
		{"var a:u8;var a:i8;", "u8, i8"},
		{"var a:u32[16][16][16];", "u32, array 16 of 0, array 16 of 1, array 16 of 2"},
		{"var a:struct{a:u8;b:u8;c:u8;d:u8;e:u8;f:u8;g:u8;};", "u8, u8, u8, u8, u8, u8, u8, struct a 0 b 1 c 2 d 3 e 4 f 5 g 6"},
		{"var a:u8" + strings.Repeat("[1]", 40) + ";", "u8" + row(40, func(i int) string { return fmt.Sprint(", array 1 of ", i) })},
		{row(20, func(i int) string { return fmt.Sprint("var a", i, ":u8;") }), "u8" + strings.Repeat(", u8", 19)},
		{"nope=-nope.x; " + strings.Repeat("stop;", 60), ""},
	} {
		l, _, _ := tree.Parse(c.s)
		if got, _, e := check.Types(l); shortTypes(got) != c.want || e != api.OK {
			t.Errorf("Types(%q) = %s, %d; want %s", c.s, shortTypes(got), e, c.want)
		}
	}
}

// row is many texts, one behind the other.
func row(many int, one func(i int) string) string {
	var b strings.Builder
	for i := range many {
		b.WriteString(one(i))
	}
	return b.String()
}

// notTrees are none, but for one thing.
func notTrees() [][]api.Node {
	l := [][]api.Node{nil, {}, {{}}, {{Op: api.NStop}}, slices.Repeat([]api.Node{{Op: api.NStop}}, 1000)}
	but := func(do func(l []api.Node) []api.Node) {
		good, _, _ := tree.Parse("var a:struct{x:u8;y:ptr[2];};if 1:i32{a.x=3:u8;}else{new a.y[0:i32],4;}")
		l = append(l, do(good))
	}
	but(func(l []api.Node) []api.Node { return l[:len(l)-1] })
	but(func(l []api.Node) []api.Node { return l[1:] })
	but(func(l []api.Node) []api.Node { return append(l, l[len(l)-1]) })
	but(func(l []api.Node) []api.Node { return append(l, api.Node{Op: api.NProg}) })
	good, _, _ := tree.Parse("var a:struct{x:u8;y:ptr[2];};if 1:i32{a.x=3:u8;}else{new a.y[0:i32],4;}")
	for i := range good {
		for _, op := range []int{-1, 0, 25, 1000} {
			but(func(l []api.Node) []api.Node { l[i].Op = op; return l })
		}
		but(func(l []api.Node) []api.Node { l[i].Name = "Not"; return l })
		but(func(l []api.Node) []api.Node { l[i].N = -1; return l })
		but(func(l []api.Node) []api.Node { l[i].Parts = append(l[i].Parts, i); return l })
		but(func(l []api.Node) []api.Node { l[i].Parts = append(l[i].Parts, -1); return l })
		but(func(l []api.Node) []api.Node { l[i].Parts = append(l[i].Parts, 1<<40); return l })
	}
	return l
}

// P14.1 and P14.2: of what is no tree just the error is told.
func TestNotTrees(t *testing.T) {
	for i, l := range notTrees() {
		if got, vars, e := check.Types(l); got != nil || vars != nil || e != api.ErrForm {
			t.Errorf("%d: Types(%v) = %v, %v, %d", i, l, got, vars, e)
		}
		for _, a := range append(samples.Machines(), samples.NotMachines()...) {
			if p, e := check.Program(l, a); !isNothing(p) || e != api.ErrForm {
				t.Errorf("%d: Program(%v, %v) = %s, %d", i, l, a, short(p), e)
			}
		}
	}
}

// P14.2 and P14.3: of a machine that may not be just the error is told, ahead of all else
// but Parse's error.
func TestNotMachines(t *testing.T) {
	for _, a := range samples.NotMachines() {
		for _, s := range append(samples.Texts(), strings.Repeat("stop;", 41), "var a:u8;var a:u8;", "nope=1:u8;", "var a:u8[0];", "free 1:u8;") {
			fails(t, a, s, api.ErrForm)
		}
		if p, e := check.Read("a=;", a); !isNothing(p) || e != api.ErrParse {
			t.Errorf("Read = %s, %d", short(p), e)
		}
	}
}

// P14.3: Parse's errors; of a text whose tree is not, as it prints too long, Program's.
func TestRead(t *testing.T) {
	for _, c := range []struct {
		s    string
		want api.Errno
	}{
		{"stop", api.ErrParse}, {"a $", api.ErrParse}, {"var a:u8", api.ErrParse}, {"}", api.ErrParse}, {"\x00", api.ErrParse},
		{"if=1:u8;", api.ErrParse}, {"a=007:u8;", api.ErrParse}, {"stop;var a:u8;", api.ErrParse},
		{strings.Repeat(" ", api.MaxText+1), api.ErrLimit}, {"a=" + strings.Repeat("-", 19) + "a;", api.ErrLimit},
		{strings.Repeat("stop;", api.MaxNodes), api.ErrLimit}, {strings.Repeat("if a {", 20) + "stop;", api.ErrLimit},
		{strings.Repeat("stop;", 285), api.ErrLimit},
		{strings.Repeat("stop;", 286), api.ErrForm}, // it prints as a text of 2001 bytes
		{"", api.OK}, {" # nothing\n", api.OK}, {strings.Repeat(" ", api.MaxText), api.OK},
	} {
		for _, a := range samples.Machines() {
			p, e := check.Read(c.s, a)
			if e != c.want || e != api.OK && !isNothing(p) || e == api.OK && !same(p, api.Program{Abi: a}) {
				t.Errorf("Read(%q) = %s, %d; want %d", c.s, short(p), e, c.want)
			}
		}
	}
}

// P14.2 and P14.3: a text that parses, but prints as a longer one than there may be, has
// no tree that may be, and is no program, be all else right.
func TestTooLongInPrint(t *testing.T) {
	many := strings.Repeat("if i32(i32(4294967295:i32)){}else{}", api.MaxStmts)
	for _, c := range []struct {
		vars  string
		print int
		want  api.Errno
	}{
		{"var abcdefgh:i16;var bcdefghi:u8;", api.MaxText, api.OK},
		{"var abcdefgh:i16;var bcdefghi:i16;", api.MaxText + 1, api.ErrForm},
	} {
		s := c.vars + many
		words, _, _ := lex.Words(s)
		print := len(words) - 1
		for _, w := range words {
			print += len(w.Text)
		}
		if p, e := check.Read(s, little); e != c.want || print != c.print || len(s) >= api.MaxText || e != api.OK && !isNothing(p) || e == api.OK && len(p.Exprs) != api.MaxExprs {
			t.Errorf("Read(%q) = %s, %d; want %d; prints as %d", s, short(p), e, c.want, print)
		}
	}
}

// P14.3, Null: there is none of the grammar.
func TestNull(t *testing.T) {
	for _, s := range []string{"var p:ptr;p=0:ptr;", "var p:ptr;if (p==0:ptr) { }", "var p:ptr;p=ptr(0:i32);", "var p:ptr;p=ptr(p);"} {
		if p, e := check.Read(s, little); !isNothing(p) || e != api.ErrParse {
			t.Errorf("Read(%q) = %s, %d", s, short(p), e)
		}
	}
	for _, s := range []string{"var p:ptr;p=0:i32;", "var p:ptr;p=0:u32;", "var p:ptr;if (p==0:i32) { }", "var p:ptr;p=!p;"} {
		fails(t, little, s, api.ErrType)
	}
}

// P14.4: texts of all kinds are programs that may be, on all machines; where a byte
// stands does not matter to what they are made of.
func TestTexts(t *testing.T) {
	for _, s := range samples.Texts() {
		for _, a := range samples.Machines() {
			p, e := check.Read(s, a)
			if e != api.OK || p.Abi != a || prog.Check(p) != api.OK {
				t.Errorf("Read(%q, %v) = %s, %d", s, a, short(p), e)
			}
			other, _ := check.Read(s, api.Abi{Big: !a.Big, Ptr: a.Ptr})
			if short(p) != short(other) {
				t.Errorf("Read(%q, %v) = %s; other %s", s, a, short(p), short(other))
			}
			l, _, _ := tree.Parse(s)
			print, _ := tree.Print(l)
			if q, e := check.Read(print, a); !same(p, q) || e != api.OK {
				t.Errorf("Read(%q, %v) = %s, %d", print, a, short(q), e)
			}
		}
	}
}
