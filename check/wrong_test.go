package check_test

import (
	"fmt"
	"strings"
	"testing"

	"cellar/api"
	"cellar/check"
	"cellar/samples"
)

// ahead declares p, a pointer; s, a struct with an array of i32 x and a pointer p; i, an
// i32; n, a u8.
const ahead = "var p:ptr;var s:struct{x:i32[2];p:ptr;};var i:i32;var n:u8;"

// eachFails checks that of each text, behind ahead, just that error is told, whatever
// stands behind it.
func eachFails(t *testing.T, want api.Errno, l ...string) {
	t.Helper()
	for _, s := range l {
		fails(t, little, ahead+s, want)
		fails(t, little, ahead+"n=1:u8;"+s+"free 0:u8; read nope; n=256:u8;", want)
	}
}

// P14.2: names that are none's.
func TestNoNames(t *testing.T) {
	eachFails(t, api.ErrName,
		"read nope;", "nope=1:u8;", "n=nope;", "new nope,4;", "free nope;", "if nope { }", "while nope { }",
		"n=-nope;", "n=u8(nope);", "n=(nope+1:u8);", "n=(1:u8+nope);", "p=&nope;", "*u8(nope)=1:u8;",
		"read nope.x;", "read nope[0:i32];", "read s.x[nope];", "read x;", "read s.s;", "read s.nope;", "p=&s.nope;",
		"read s.x2;", "read s.y;", "read s.p2;", "read a;", "if 1:i32 { read nope; }", "if 1:i32 { } else { read nope; }", "while 1:i32 { read nope; }")
	fails(t, little, "read nope;", api.ErrName)
	fails(t, little, "var s:struct{x:struct{y:u8;};};read s.y;", api.ErrName)
	fails(t, little, "var s:union{x:struct{y:u8;};};read s.x.x;", api.ErrName)
	fails(t, little, "var s:struct{x:u8;}[2];read s[0:i32].y;", api.ErrName)
}

// P14.2: kinds that do not go together: places.
func TestPlaceKinds(t *testing.T) {
	eachFails(t, api.ErrType,
		"read n.x;", "read p.x;", "read s.x.y;", "read s.x[0:i32].y;", "read *u8(p).x;", "read *ptr(p).x;", "p=&n.x;",
		"read n[0:i32];", "read p[0:i32];", "read s[0:i32];", "read s.p[0:i32];", "read s.x[0:i32][0:i32];", "read *u8(p)[0:i32];", "read *ptr(p)[0:i32];", "p=&n[0:i32];",
		"read *u8(n);", "read *i32(i);", "p=&*u8(n);", "read *u8(0:i32);", "read *u8(!p);", "read *u8(s.x[0:i32]);")
	for _, kind := range []string{"u8", "i8", "u16", "i16", "u32"} {
		eachFails(t, api.ErrType, "s.x[0:"+kind+"]=1:i32;", "p=&s.x[0:"+kind+"];", "read *u8("+kind+"(i));")
	}
	eachFails(t, api.ErrType, "s.x[p]=1:i32;", "s.x[&i]=1:i32;", "s.x[n]=1:i32;")
	fails(t, little, "var u:union{x:u8;};read u[0:i32];", api.ErrType)
	fails(t, little, "var a:struct{x:u8;}[2];read a.x;", api.ErrType)
}

// P14.2: kinds that do not go together: expressions. Of what is no scalar there is none.
func TestExpressionKinds(t *testing.T) {
	eachFails(t, api.ErrType, "n=s;", "n=s.x;", "if !s { }", "n=u8(s);", "n=-s.x;", "n=(s+1:u8);", "n=(1:u8+s.x);", "free s;", "if s { }", "read *u8(s);", "s.x[s]=1:i32;",
		"n=u8(p);", "n=u8(&n);", "p=-p;", "p=~p;", "p=-&n;", "n=-p;",
		"p=(1:i32+p);", "p=(p+n);", "p=(p+p);", "p=(p-i);", "i=(p<p);", "i=(p==i);", "i=(i==p);", "p=(p*i);", "p=(p&p);", "n=(n+i);", "i=(n<i);", "i=(n==i);", "n=(n<<i);")
	fails(t, little, "var u:union{x:u8;};u.x=u;", api.ErrType)
}

// P14.2: kinds that do not go together: statements.
func TestStatementKinds(t *testing.T) {
	eachFails(t, api.ErrType, "s=1:u8;", "s=s;", "s.x=s.x;", "read s;", "read s.x;", "new s,4;", "new s.x,4;", "new n,4;", "new i,4;", "new s.x[0:i32],4;", "new *u8(p),4;",
		"read p;", "read s.p;", "read *ptr(p);", "free n;", "free i;", "free 0:i32;", "free s.x[0:i32];", "if p { }", "while p { }", "if &p { }", "if n { }", "while n { }", "p=i;", "i=p;")
	all := strings.Fields("u8 i8 u16 i16 u32 i32")
	for _, kind := range all {
		for _, other := range all {
			s := "var a:" + kind + ";a=1:" + other + ";"
			if kind != other {
				fails(t, little, s, api.ErrType)
			} else {
				tells(t, little, s, fmt.Sprintf("[%d] [] addr ptr 1, num %s 1 | set 0 %s 1 [0]", map[string]int{"8": 1, "6": 2, "2": 4}[kind[len(kind)-1:]], kind, kind))
			}
		}
		eachFails(t, api.ErrType, "new *"+kind+"(p),4;", "free 0:"+kind+";", "*ptr(p)=0:"+kind+";", "*"+kind+"(p)=p;")
		if kind != "i32" {
			eachFails(t, api.ErrType, "if 1:"+kind+" { }", "while 1:"+kind+" { }", "if *"+kind+"(p) { }")
		}
	}
}

// P14.2: what is to be made: not in a loop, of a size; numbers of their kinds.
func TestForms(t *testing.T) {
	eachFails(t, api.ErrForm, "while 1:i32 { new p,4; }", "while 1:i32 { if 1:i32 { new p,4; } }", "while 1:i32 { if 1:i32 { } else { new p,4; } }", "while 1:i32 { while 0:i32 { } new p,4; }", "if 1:i32 { while 1:i32 { new p,4; } }",
		"new p,0;", "new p,33;", "new s.p,100;", "new *ptr(p),9999999999;", "if 1:i32 { new p,0; }",
		"n=256:u8;", "n=9999999999:u8;", "i=4294967296:i32;", "i=i32(256:i8);", "s.x[4294967296:i32]=1:i32;", "if 4294967296:i32 { }", "if !65536:u16 { }", "if !65536:i16 { }", "if !4294967296:u32 { }")
	for _, size := range []int{1, 2, 31, 32} {
		tells(t, little, fmt.Sprintf("var p:ptr;new p,%d;", size), fmt.Sprintf("[4] [%d] addr ptr 1 | new 0 2 [0]", size))
	}
}

// P14.2: within a statement what is met first is told: what it is made of, as the text
// goes, then its own.
func TestOrderOfErrors(t *testing.T) {
	eachFails(t, api.ErrName,
		"n=(nope+256:u8);", "n=(nope*-p);", "n=u8((p*nope));", "p=-nope;", "free u8(nope);", "if u8(nope) { n=256:u8; }", "*u8(nope)=256:u8;",
		"read nope[256:u8];", "read nope.x;", "read s.nope[256:u8];", "read s.nope[-p];", "s.x[nope]=256:u8;", "n=1:u8;read nope;",
		"nope=256:u8;", "nope=-p;", "new nope,0;", "n=nope;new n,0;", "while nope { new p,4; }", "if nope { free n; }", "p=(nope+256:u8);", "i=(p==nope);", "p=(p+nope);", "read s.nope.x;")
	eachFails(t, api.ErrForm,
		"n=(256:u8+nope);", "n=(256:u8+-p);", "n=-(256:u8+p);", "p=256:u8;", "i=256:u8;", "free 256:u8;", "if 256:u8 { free n; }", "while 256:u8 { read nope; }", "*u8(256:u8)=nope;",
		"s.x[256:u8]=nope;", "n=256:u8;read nope;", "n=u8((256:u8<nope));", "while 1:i32 { new nope,4; }", "while 1:i32 { new n,4; }", "while 1:i32 { new n.x[nope],0; }", "n=-256:u8;", "p=-256:u8;", "i=(p+256:u8);")
	eachFails(t, api.ErrType,
		"n=(-p+nope);", "n=(u8(p)+256:u8);", "read n.nope;", "read n[nope];", "read n[256:u8];", "read s[nope];", "p=&s.p.x[nope];", "s=nope;", "s=256:u8;", "s.x=nope;", "n=(s.x+nope);",
		"read p;read nope;", "new n,0;", "new s,100;", "free n;n=256:u8;", "if n { read nope; } else { n=256:u8; }", "while p { new p,4; }", "while n { n=256:u8; }",
		"s.x[n]=nope;", "s.x[n]=256:u8;", "i=(s==nope);", "n=i;n=nope;", "if -p { read nope; }", "if 1:i32 { free n; } else { read nope; }", "if 1:i32 { n=p; n=256:u8; }")
}

// P14.2: what is told ahead of all statements, in its order.
func TestOrderOfAll(t *testing.T) {
	const (
		limit = "var a1:u8;var a2:u8;var a3:u8;var a4:u8;var a5:u8;"
		twice = "var b:u8;var b:u8;"
		form  = "var c:u8[0];"
		later = "read nope;free 1:u8;new p,0;"
	)
	for _, c := range []struct {
		s    string
		want api.Errno
	}{
		{limit + twice + form + later, api.ErrLimit}, {form + twice + limit + later, api.ErrLimit}, {limit + later, api.ErrLimit},
		{limit, api.ErrLimit}, {twice + form + later, api.ErrName}, {form + twice + later, api.ErrName}, {twice, api.ErrName}, {form, api.ErrForm},
		{form + later, api.ErrForm}, {form + "free 1:u8;", api.ErrForm}, {later, api.ErrName},
		{form + strings.Repeat("stop;", 41), api.ErrLimit}, {twice + strings.Repeat("stop;", 41), api.ErrLimit}, {"read nope;" + strings.Repeat("stop;", 40), api.ErrLimit},
		{twice + "new b,0;new b,0;new b,0;", api.ErrLimit}, {"while 1:u8 { new b,0;new b,0;new b,0; }", api.ErrLimit},
		{"var a:struct{x:u8;x:u8;x:u8;x:u8;x:u8;x:u8;x:u8;};read nope;", api.ErrName}, {"var a:struct{x:u8[0];x:u8[99];};", api.ErrName},
	} {
		fails(t, little, c.s, c.want)
	}
}

// P14.2: names that stand twice.
func TestTwice(t *testing.T) {
	for _, s := range []string{
		"var a:u8;var a:u8;", "var a:u8;var b:u8;var a:i8;", "var b:u8;var a:u8;var c:u8;var a:i8;", "var a:struct{x:u8;};var a:u8;stop;",
		"var a:struct{x:u8;x:u8;};", "var a:union{x:u8;y:u8;x:ptr;};", "var b:u8;var a:struct{x:union{z:u8;y:u8;y:u8;};}[2];", "var a:struct{x:struct{x:u8;};x:u8;};",
	} {
		for _, a := range samples.Machines() {
			fails(t, a, s, api.ErrName)
		}
	}
}

// P14.2: types that may not be, be they asked for or not, on the machine there is.
func TestTypesOfPrograms(t *testing.T) {
	small := api.Abi{Ptr: 2}
	for _, c := range []struct {
		s      string
		sizes  []int
		little bool // whether they may be where pointers have four bytes
	}{
		{"var a:u8[1];", []int{1}, true}, {"var a:u8[16];", []int{16}, true}, {"var a:u8[0];", nil, false}, {"var a:u8[17];", nil, false}, {"var a:u8[9999999999];", nil, false},
		{"var a:ptr[8];var b:ptr;", []int{16, 2}, true}, {"var a:ptr[16];", []int{32}, false}, {"var a:struct{x:u8[15];y:ptr[8];};", []int{32}, false},
		{"var a:u32[8];", []int{32}, true}, {"var a:u32[9];", nil, false}, {"var a:u16[16];", []int{32}, true}, {"var a:u16[16][2];", nil, false},
		{"var a:struct{x:u16[8];y:u16[8];z:u8;};", nil, false}, {"var b:u8;var a:struct{x:u16[8];y:u8[15];z:u8;};", []int{1, 32}, true},
		{"var a:union{x:u8[16];y:u8[16];z:u8[16];v:u8[16];};", []int{16}, true}, {"var a:union{x:u8[16];y:u8[16];z:u8[16];v:u8[16];w:u8;};", nil, false},
		{"var a:struct{a:u8;b:u8;c:u8;d:u8;e:u8;f:u8;};", []int{6}, true}, {"var a:struct{a:u8;b:u8;c:u8;d:u8;e:u8;f:u8;g:u8;};", nil, false},
		{"var a:union{a:u8;b:u8;c:u8;d:u8;e:u8;f:u8;};", []int{1}, true}, {"var a:union{a:u8;b:u8;c:u8;d:u8;e:u8;f:u8;g:u8;};", nil, false},
	} {
		if c.sizes == nil {
			fails(t, small, c.s, api.ErrForm)
		} else {
			tells(t, small, c.s, fmt.Sprint(c.sizes)+" []  |  []")
		}
		if !c.little {
			fails(t, little, c.s, api.ErrForm)
			fails(t, little, c.s+"stop;", api.ErrForm)
		}
	}
}

// nested is so many blocks in one another, with a statement in the innermost, if full.
func nested(many int, open string, shut string, full bool) string {
	s := strings.Repeat(open, many)
	if full {
		s += "stop;"
	}
	return s + strings.Repeat(shut, many)
}

// P14.2: how many of each there may be, from both sides.
func TestLimits(t *testing.T) {
	vars := func(n int) string { return row(n, func(i int) string { return fmt.Sprint("var a", i, ":u8;") }) }
	news := func(n int) string { return "var p:ptr;" + strings.Repeat("new p,4;", n) }
	types := func(n int) string { return "var a:u8" + strings.Repeat("[1]", n-1) + ";" }
	spread := func(n int) string {
		return "var a:u8[1];var b:struct{x:u8;};var c:u8" + strings.Repeat("[1]", n-5) + ";"
	}
	stops := func(n int) string { return strings.Repeat("stop;", n) }
	ifs := func(n int) string { return "if 1:i32 { " + stops((n-1)/2) + " } else { " + stops(n-1-(n-1)/2) + " }" }
	for name, c := range map[string]struct {
		text func(int) string
		most int
	}{"vars": {vars, 4}, "news": {news, 2}, "types": {types, 30}, "spread": {spread, 30}, "stops": {stops, 40}, "ifs": {ifs, 40}} {
		for n := c.most - 1; n < c.most+3; n++ {
			if n <= c.most {
				holds(t, c.text(n))
			} else {
				fails(t, little, c.text(n), api.ErrLimit)
			}
		}
		if t.Failed() {
			t.Fatal(name)
		}
	}
	for _, way := range [][2]string{{"if 1:i32 { ", " }"}, {"if 1:i32 { } else { ", " }"}, {"while 1:i32 { ", " }"}, {"if 1:i32 { ", " } else { stop; }"}} {
		holds(t, nested(5, way[0], way[1], true))
		fails(t, little, nested(6, way[0], way[1], true), api.ErrLimit)
		fails(t, little, nested(7, way[0], way[1], true), api.ErrLimit)
	}
	// an empty block is none
	holds(t, nested(6, "if 1:i32 { ", " }", false))
	holds(t, nested(6, "while 1:i32 { ", " }", false))
	fails(t, little, nested(7, "if 1:i32 { ", " }", false), api.ErrLimit)
	holds(t, nested(5, "while 1:i32 { ", " }", true)+nested(5, "while 1:i32 { ", " }", true))
	fails(t, little, "if 1:i32 { stop; } else { "+nested(5, "while 1:i32 { ", " }", true)+" }", api.ErrLimit)
}

// holds checks that a text is a program.
func holds(t *testing.T, s string) {
	t.Helper()
	if p, e := check.Read(s, little); e != api.OK {
		t.Errorf("Read(%q) = %s, %d", s, short(p), e)
	}
}

// filled are statements of so many expressions, of any number but one; behind ahead.
func filled(many int) string {
	var b strings.Builder
	for many >= 2 {
		one := min(many, 18)
		if many-one == 1 {
			one--
		}
		b.WriteString("n=" + strings.Repeat("-", one-2) + "1:u8;")
		many -= one
	}
	return b.String()
}

// P14.2: expressions, from both sides, of each way in which there comes one too many; and
// what else is wrong there.
func TestExprsLimit(t *testing.T) {
	for n := range 121 {
		if n == 1 {
			continue
		}
		p, e := check.Read(ahead+filled(n), little)
		if e != api.OK || len(p.Exprs) != n {
			t.Fatalf("%q has %d expressions (%d), not %d", filled(n), len(p.Exprs), e, n)
		}
	}
	for _, c := range []struct {
		s    string
		many int // how many expressions it has
	}{
		{"n=1:u8;", 2}, {"n=n;", 3}, {"n=-n;", 4}, {"n=u8(n);", 4}, {"n=(n+1:u8);", 5}, {"read n;", 1}, {"new p,4;", 1}, {"free p;", 2}, {"free &p;", 1},
		{"read *u8(p);", 2}, {"p=&s.p;", 4}, {"p=s.p;", 5}, {"i=s.x[i];", 10}, {"if 1:i32 { }", 1}, {"while !p { read n; }", 4}, {"i=!i;", 4}, {"p=(p+i);", 6}, {"i=(p-p);", 6}, {"i=(p==p);", 6},
	} {
		p, e := check.Read(ahead+filled(api.MaxExprs-c.many)+c.s, little)
		if e != api.OK || len(p.Exprs) != api.MaxExprs {
			t.Errorf("%q of %d: %d, %d", c.s, c.many, len(p.Exprs), e)
		}
		for more := 1; more <= c.many; more++ {
			if left := c.many - more; left != api.MaxExprs-1 {
				fails(t, little, ahead+filled(api.MaxExprs-left)+c.s, api.ErrLimit)
			}
		}
	}
}

// P14.2: where the last expression came, what is wrong ahead of the next one is told.
func TestExprsLimitAndMore(t *testing.T) {
	all := ahead + filled(api.MaxExprs)
	few := func(left int) string { return ahead + filled(api.MaxExprs-left) }
	for _, c := range []struct {
		s    string
		want api.Errno
	}{
		{all + "read nope;", api.ErrName}, {all + "read n;", api.ErrLimit}, {all + "while 1:i32 { new p,4; }", api.ErrLimit}, {all + "if 4294967296:i32 { }", api.ErrForm}, {all + "stop;", api.OK},
		{all + "free 256:u8;", api.ErrForm}, {all + "free 255:u8;", api.ErrLimit}, {all + "new p,0;", api.ErrLimit}, {few(1) + "new p,0;", api.ErrForm},
		{few(1) + "n=256:u8;", api.ErrForm}, {few(1) + "n=255:u8;", api.ErrLimit}, {few(1) + "n=nope;", api.ErrName}, {few(1) + "n=n;", api.ErrLimit}, {few(1) + "s=1:u8;", api.ErrType},
		{few(2) + "n=n;", api.ErrLimit}, {few(2) + "n=s;", api.ErrType}, {few(1) + "n=s;", api.ErrLimit}, {few(2) + "n=i;", api.ErrLimit}, {few(3) + "n=i;", api.ErrType},
		{few(3) + "n=-p;", api.ErrType}, {few(2) + "n=-p;", api.ErrLimit}, {few(3) + "n=-n;", api.ErrLimit}, {few(3) + "n=u8(p);", api.ErrType}, {few(3) + "n=u8(n);", api.ErrLimit},
		{few(4) + "n=(n+1:i8);", api.ErrType}, {few(4) + "n=(n+1:u8);", api.ErrLimit}, {few(3) + "n=(n+1:i8);", api.ErrLimit}, {few(3) + "n=(n+256:u8);", api.ErrForm},
		{few(1) + "read s.x;", api.ErrLimit}, {few(1) + "read s.nope;", api.ErrName}, {few(1) + "read n.x;", api.ErrType}, {few(2) + "read s.x;", api.ErrLimit}, {few(3) + "read s.x;", api.ErrType},
		{few(4) + "read s.x[0:u8];", api.ErrType}, {few(4) + "read s.x[0:i32];", api.ErrLimit}, {few(3) + "read s.x[0:u8];", api.ErrLimit}, {few(6) + "read s.x[0:i32];", api.ErrLimit}, {few(7) + "read s.x[0:i32];", api.OK},
		{few(1) + "read p;", api.ErrType}, {few(1) + "new n,4;", api.ErrType}, {few(1) + "free &n;", api.OK}, {few(1) + "if 1:u8 { read n; }", api.ErrType}, {few(1) + "if 1:i32 { read n; }", api.ErrLimit},
		{few(1) + "while 1:i32 { new p,4; }", api.ErrForm}, {few(1) + "while 1:i32 { if 1:u8 { } }", api.ErrLimit}, {few(1) + "*u8(n)=1:u8;", api.ErrLimit}, {few(2) + "*u8(n)=1:u8;", api.ErrType},
	} {
		if c.want == api.OK {
			holds(t, c.s)
		} else {
			fails(t, little, c.s, c.want)
		}
	}
}
