package check_test

import (
	"fmt"
	"strings"
	"testing"

	"cellar/api"
	"cellar/check"
	"cellar/run"
)

// P14.2: statements, and how they are numbered.
func TestStatements(t *testing.T) {
	tells(t, little, "", "[] []  |  []")
	tells(t, little, "stop;", "[] []  | stop [0]")
	// the chapter's example: one statement, two expressions
	tells(t, little, "var a:u8; a=3:u8;", "[1] [] addr ptr 1, num u8 3 | set 0 u8 1 [0]")
	tells(t, little, "var a:i8;var b:u16;read b;read a;", "[1 2] [] addr ptr 2, addr ptr 1 | read 0 u16, read 1 i8 [0 1]")
	tells(t, little, "var p:ptr;new p,1;", "[4] [1] addr ptr 1 | new 0 2 [0]")
	tells(t, little, "var a:u8;var p:ptr;new p,32;new p,7;", "[1 4] [32 7] addr ptr 2, addr ptr 2 | new 0 3, new 1 4 [0 1]")
	tells(t, little, "var p:ptr;free p;free &p;", "[4] [] addr ptr 1, load ptr 0, addr ptr 1 | free 1, free 2 [0 1]")
	tells(t, little, "if 0:i32 { }", "[] [] num i32 0 | if 0[][] [0]")
	tells(t, little, "if 0:i32 { } else { }", "[] [] num i32 0 | if 0[][] [0]")
	tells(t, little, "while 1:i32 { }", "[] [] num i32 1 | while 0[] [0]")
	tells(t, little, "if 0:i32 { stop; stop; } else { stop; } stop;", "[] [] num i32 0 | if 0[1 2][3], stop, stop, stop, stop [0 4]")
	tells(t, little, "if 0:i32 { } else { stop; }", "[] [] num i32 0 | if 0[][1], stop [0]")
	tells(t, little, "stop; while 9:i32 { if 1:i32 { stop; } else { while 2:i32 { } } stop; } if 3:i32 { stop; }",
		"[] [] num i32 9, num i32 1, num i32 2, num i32 3 | stop, while 0[2 5], if 1[3][4], stop, while 2[], stop, if 3[7][], stop [0 1 6]")
	tells(t, little, "var p:ptr; if 1:i32 { new p,3; } else { if 2:i32 { } else { new p,4; } }",
		"[4] [3 4] num i32 1, addr ptr 1, num i32 2, addr ptr 1 | if 0[1][2], new 1 2, if 2[][3], new 3 3 [0]")
	tells(t, little, "var p:ptr; while 0:i32 { } new p,3;", "[4] [3] num i32 0, addr ptr 1 | while 0[], new 1 2 [0 1]")
}

// P14.2: what is set, by the kinds there are.
func TestKinds(t *testing.T) {
	for _, c := range []struct {
		kind  string
		size  int
		great int
	}{{"u8", 1, 255}, {"i8", 1, 255}, {"u16", 2, 65535}, {"i16", 2, 65535}, {"u32", 4, 4294967295}, {"i32", 4, 4294967295}} {
		for _, n := range []int{0, 1, c.great/2 + 1, c.great} {
			tells(t, little, fmt.Sprintf("var a:%s;a=%d:%s;", c.kind, n, c.kind),
				fmt.Sprintf("[%d] [] addr ptr 1, num %s %d | set 0 %s 1 [0]", c.size, c.kind, n, c.kind))
		}
		tells(t, little, "var a:"+c.kind+";a=a;", fmt.Sprintf("[%d] [] addr ptr 1, addr ptr 1, load %s 1 | set 0 %s 2 [0]", c.size, c.kind, c.kind))
		for _, n := range []int{c.great + 1, 9999999999} {
			fails(t, little, fmt.Sprintf("var a:%s;a=%d:%s;", c.kind, n, c.kind), api.ErrForm)
		}
	}
	tells(t, little, "var a:ptr;a=a;", "[4] [] addr ptr 1, addr ptr 1, load ptr 1 | set 0 ptr 2 [0]")
	tells(t, api.Abi{Ptr: 2}, "var a:ptr;a=a;", "[2] [] addr ptr 1, addr ptr 1, load ptr 1 | set 0 ptr 2 [0]")
}

// P14.2: places' addresses.
func TestPlaces(t *testing.T) {
	s := "var s:struct{x:u8;y:u16;z:struct{v:ptr;w:i8[3];};};"
	tells(t, little, s+"s.x=1:u8;", "[12] [] addr ptr 1, num i32 0, move ptr 0 1, num u8 1 | set 2 u8 3 [0]")
	tells(t, little, s+"read s.y;", "[12] [] addr ptr 1, num i32 2, move ptr 0 1 | read 2 u16 [0]")
	tells(t, little, s+"new s.z.v,5;", "[12] [5] addr ptr 1, num i32 4, move ptr 0 1, num i32 0, move ptr 2 3 | new 4 2 [0]")
	tells(t, little, s+"read s.z.w[2:i32];",
		"[12] [] addr ptr 1, num i32 4, move ptr 0 1, num i32 4, move ptr 2 3, num i32 2, num i32 1, mul i32 5 6, move ptr 4 7 | read 8 i8 [0]")
	tells(t, api.Abi{Ptr: 2}, s+"read s.z.w[2:i32];",
		"[10] [] addr ptr 1, num i32 4, move ptr 0 1, num i32 2, move ptr 2 3, num i32 2, num i32 1, mul i32 5 6, move ptr 4 7 | read 8 i8 [0]")
	u := "var u:union{n:u32;b:u8[4];};"
	tells(t, little, u+"read u.n;", "[4] [] addr ptr 1, num i32 0, move ptr 0 1 | read 2 u32 [0]")
	tells(t, little, u+"read u.b[9:i32];", "[4] [] addr ptr 1, num i32 0, move ptr 0 1, num i32 9, num i32 1, mul i32 3 4, move ptr 2 5 | read 6 u8 [0]")
	a := "var i:i32;var a:u16[3][2];"
	tells(t, little, a+"read a[1:i32][i];",
		"[4 12] [] addr ptr 2, num i32 1, num i32 6, mul i32 1 2, move ptr 0 3, addr ptr 1, load i32 5, num i32 2, mul i32 6 7, move ptr 4 8 | read 9 u16 [0]")
	tells(t, little, "var i:i32;var a:struct{x:u8;y:u16;}[2];read a[-i].y;",
		"[4 8] [] addr ptr 2, addr ptr 1, load i32 1, neg i32 2, num i32 4, mul i32 3 4, move ptr 0 5, num i32 2, move ptr 6 7 | read 8 u16 [0]")
	for i, kind := range strings.Fields("u8 i8 u16 i16 u32 i32") {
		tells(t, little, "var p:ptr;read *"+kind+"(p);", "[4] [] addr ptr 1, load ptr 0 | read 1 "+kinds[i+1]+" [0]")
	}
	tells(t, little, "var p:ptr;*ptr(&p)=*ptr(p);", "[4] [] addr ptr 1, addr ptr 1, load ptr 1, load ptr 2 | set 0 ptr 3 [0]")
	tells(t, little, "var p:ptr;read *u8(*ptr(*ptr(p)));", "[4] [] addr ptr 1, load ptr 0, load ptr 1, load ptr 2 | read 3 u8 [0]")
}

// P14.2: expressions of one.
func TestOne(t *testing.T) {
	for _, kind := range strings.Fields("u8 i8 u16 i16 u32 i32") {
		tells(t, little, "if i32(-5:"+kind+") { }", "[] [] num "+kind+" 5, neg "+kind+" 0, cast i32 1 | if 2[][] [0]")
		tells(t, little, "if i32(~5:"+kind+") { }", "[] [] num "+kind+" 5, not "+kind+" 0, cast i32 1 | if 2[][] [0]")
		tells(t, little, "if !5:"+kind+" { }", "[] [] num "+kind+" 5, zero i32 0 | if 1[][] [0]")
		for _, to := range strings.Fields("u8 i8 u16 i16 u32 i32") {
			tells(t, little, "if !"+to+"(5:"+kind+") { }", "[] [] num "+kind+" 5, cast "+to+" 0, zero i32 1 | if 2[][] [0]")
		}
	}
	tells(t, little, "var p:ptr;if !p { }", "[4] [] addr ptr 1, load ptr 0, zero i32 1 | if 2[][] [0]")
	tells(t, little, "var p:ptr;if !!&p { }", "[4] [] addr ptr 1, zero i32 0, zero i32 1 | if 2[][] [0]")
	tells(t, little, "var s:struct{x:u8;}[2];free &s;free &s[1:i32];free &s[1:i32].x;",
		"[2] [] addr ptr 1, addr ptr 1, num i32 1, num i32 1, mul i32 2 3, move ptr 1 4, "+
			"addr ptr 1, num i32 1, num i32 1, mul i32 7 8, move ptr 6 9, num i32 0, move ptr 10 11 | free 0, free 5, free 12 [0 1 2]")
	tells(t, little, "var p:ptr;free &*u8(p);", "[4] [] addr ptr 1, load ptr 0 | free 1 [0]")
}

// signs of expressions of two, and what each one is.
var signs = strings.Fields("+ add - sub * mul / div % rem & and | or ^ xor << shl >> shr == eq < less")

// P14.2: expressions of two: of all signs, of all kinds on both sides.
func TestTwo(t *testing.T) {
	const ahead = "var p:ptr;"
	all := strings.Fields("u8 i8 u16 i16 u32 i32 ptr")
	of := func(kind string) string {
		if kind == "ptr" {
			return "&p"
		}
		return "7:" + kind
	}
	made := func(kind string) string {
		if kind == "ptr" {
			return "addr ptr 1"
		}
		return "num " + kind + " 7"
	}
	for i := 0; i < len(signs); i += 2 {
		for _, a := range all {
			for _, b := range all {
				s := ahead + "if !(" + of(a) + signs[i] + of(b) + ") { }"
				want := ""
				switch {
				case a == "ptr" && b == "i32" && signs[i] == "+":
					want = "move ptr"
				case a == "ptr" && b == "ptr" && signs[i] == "-":
					want = "apart i32"
				case a == "ptr" && b == "ptr" && signs[i] == "==":
					want = "same i32"
				case a == "ptr" || a != b:
					fails(t, little, s, api.ErrType)
					continue
				case signs[i] == "==" || signs[i] == "<":
					want = signs[i+1] + " i32"
				default:
					want = signs[i+1] + " " + a
				}
				tells(t, little, s, "[4] [] "+made(a)+", "+made(b)+", "+want+" 0 1, zero i32 2 | if 3[][] [0]")
			}
		}
	}
}

// P14.2: expressions stand one behind the other, as the text ends them.
func TestOrder(t *testing.T) {
	tells(t, little, "var a:i32;a=((a+1:i32)*-(a-(2:i32%3:i32)));",
		"[4] [] addr ptr 1, addr ptr 1, load i32 1, num i32 1, add i32 2 3, addr ptr 1, load i32 5, "+
			"num i32 2, num i32 3, rem i32 7 8, sub i32 6 9, neg i32 10, mul i32 4 11 | set 0 i32 12 [0]")
	tells(t, little, "var i:i32[2];i[i[0:i32]]=i[1:i32];",
		"[8] [] addr ptr 1, addr ptr 1, num i32 0, num i32 4, mul i32 2 3, move ptr 1 4, load i32 5, num i32 4, mul i32 6 7, move ptr 0 8, "+
			"addr ptr 1, num i32 1, num i32 4, mul i32 11 12, move ptr 10 13, load i32 14 | set 9 i32 15 [0]")
	tells(t, little, "var p:ptr;var x:u8;while (p==&x) { *u8((p+1:i32))=x; if (&x-p) { free p; } }",
		"[4 1] [] addr ptr 1, load ptr 0, addr ptr 2, same i32 1 2, "+
			"addr ptr 1, load ptr 4, num i32 1, move ptr 5 6, addr ptr 2, load u8 8, "+
			"addr ptr 2, addr ptr 1, load ptr 11, apart i32 10 12, addr ptr 1, load ptr 14 | "+
			"while 3[1 2], set 7 u8 9, if 13[3][], free 15 [0]")
}

// P14.2: names: fields may be called as declarations are, or as fields of others.
func TestNames(t *testing.T) {
	tells(t, little, "var a:struct{a:struct{a:u8;b:u8;};};var b:i8;read a.a.b;read b;",
		"[2 1] [] addr ptr 1, num i32 0, move ptr 0 1, num i32 1, move ptr 2 3, addr ptr 2 | read 4 u8, read 5 i8 [0 1]")
	tells(t, little, "var a:struct{x:u8;};var b:union{x:u16;};read b.x;read a.x;",
		"[1 2] [] addr ptr 2, num i32 0, move ptr 0 1, addr ptr 1, num i32 0, move ptr 3 4 | read 2 u16, read 5 u8 [0 1]")
	tells(t, little, "var abcdefgh:u8;var abcdefg:u16;read abcdefg;", "[1 2] [] addr ptr 2 | read 0 u16 [0]")
}

// P14.2: programs do what their texts say: the numbers that stand in the first variable
// at the end, or what goes wrong.
func TestRuns(t *testing.T) {
	for _, c := range []struct {
		s    string
		want []int
		bad  api.Alarm
	}{
		{"var a:u8; a=3:u8;", []int{3}, api.Alarm{}},
		{"var a:u8[4];var i:i32; i=0:i32; while (i<4:i32) { a[i]=u8((i*i)); i=(i+1:i32); }", []int{0, 1, 4, 9}, api.Alarm{}},
		{"var a:u8[4];var i:i32; i=0:i32; while (i<5:i32) { a[i]=u8((i*i)); i=(i+1:i32); }", []int{0, 1, 4, 9}, api.Alarm{At: 2, What: api.BadBounds}},
		{"var a:struct{x:u8;y:u8[2];z:u8;};var p:ptr; p=&a.y; *u8((p+-1:i32))=7:u8; *u8(p)=8:u8; *u8((p+1:i32))=9:u8; a.z=u8((p-&a));", []int{7, 8, 9, 1}, api.Alarm{}},
		{"var a:union{n:u32;b:u8[4];}; a.n=67305985:u32; a.b[2:i32]=(a.b[2:i32]<<a.b[0:i32]);", []int{1, 2, 6, 4}, api.Alarm{}},
		{"var a:u8[2];var p:ptr; new p,8; *ptr((p+4:i32))=&a[1:i32]; *u8(*ptr((p+4:i32)))=5:u8; a[0:i32]=u8((*ptr((p+4:i32))==&a[1:i32])); free p; *u8(p)=1:u8;", []int{1, 5}, api.Alarm{At: 5, What: api.BadNull}},
		{"var a:i8; a=-128:i8;", nil, api.Alarm{At: 0, What: api.BadOver}},
		{"var a:i8; a=128:i8;", []int{128}, api.Alarm{}},
		{"var a:u8; if !1:u8 { a=1:u8; } else { if (1:i8<255:i8) { a=2:u8; } else { a=3:u8; stop; } } a=4:u8;", []int{3}, api.Alarm{}},
	} {
		p, e := check.Read(c.s, little)
		l, f := run.Run(p, api.Script{}, api.MaxSteps)
		if e != api.OK || f != api.OK {
			t.Errorf("%q: %d, %d", c.s, e, f)
			continue
		}
		last := l[len(l)-1]
		if !run.Ended(last) || last.Bad != c.bad {
			t.Errorf("%q ends at %+v", c.s, last)
		}
		for i, n := range c.want {
			if b := last.Blocks[1].Bytes[i]; b != (api.Byte{State: api.IsByte, N: n}) {
				t.Errorf("%q: byte %d is %v, want %d", c.s, i, b, n)
			}
		}
	}
}
