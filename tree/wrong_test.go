package tree_test

import (
	"strings"
	"testing"

	"cellar/api"
	"cellar/samples"
	"cellar/tree"
)

// tells checks that Parse tells this of a text, and no tree.
func tells(t *testing.T, s string, want int, wrong api.Errno) {
	t.Helper()
	if l, at, e := tree.Parse(s); len(l) > 0 || at != want || e != wrong {
		t.Errorf("Parse(%q) = %s, %d, %d; want %d, %d", s, short(l), at, e, want, wrong)
	}
}

// unfit checks that the word does not fit that is marked by a > (which is none); at the
// end the text's length is told.
func unfit(t *testing.T, marked string) {
	t.Helper()
	tells(t, strings.Replace(marked, ">", "", 1), strings.Index(marked, ">"), api.ErrParse)
}

// P11.1, Parse: lex.Words' errors, and where, ahead of all.
func TestNoWords(t *testing.T) {
	tells(t, "a $", 2, api.ErrParse)
	tells(t, ") $", 2, api.ErrParse) // also ahead of a word that does not fit
	tells(t, "stop; 01", 6, api.ErrParse)
	tells(t, "abcdefghi=1:u8;", 0, api.ErrParse)
	tells(t, "a=12345678901:u8;", 2, api.ErrParse)
	tells(t, strings.Repeat("-", 30)+"A", 30, api.ErrParse)
	tells(t, strings.Repeat("stop;", 310)+">", 1550, api.ErrParse)
	tells(t, strings.Repeat(" ", api.MaxText+1), 0, api.ErrLimit)
	tells(t, strings.Repeat(" ", api.MaxText)+">", 0, api.ErrLimit)
	tells(t, ")"+strings.Repeat(" ", api.MaxText), 0, api.ErrLimit)
	has(t, strings.Repeat(" ", api.MaxText), "prog")
	tells(t, ")"+strings.Repeat(" ", api.MaxText-1), 0, api.ErrParse)
}

// P11.1, Parse: the word that does not fit.
func TestUnfit(t *testing.T) {
	for _, s := range strings.Split(`>)
>1
>u8(a)=1:u8;
>&a=b;
>-a=b;
>{ }
>}
>else
>;
stop;>;
>(a=b);
stop>
stop >
stop >a;
stop;>)
stop; >1:u8;
stop; >}
a>
a>;
a >a;
a>==b;
a= >=b;
a=>
a=>;
a=b>
a=b # more >
a.>1
a.>u8=b;
a.>if=b;
a.>*=b;
a.>.b=c;
a[>]=b;
a[b>=c;
a[b>;]
a[b>,c]=d;
a[1>]=b;
a[1:i32]>1;
a>(b);
a>:
*>p
*>a(b)=c;
*>(u8)
*i32 >p=a;
*i32(>)=a;
*i32(p>=a;
*i32(p>,p)=a;
*i32(p)>(p)=a;
*>1
*>struct
*>*u8(a)=b;
var>
var>;
var >1:u8;
var >u8:u8;
var >ptr:u8;
var >read:u8;
var a>;
var a>=b;
var a:>
var a:>;
var a:>b;
var a:>8;
var a:>[1];
var a:>{x:u8;};
var a:u8>
var a:u8>=1;
var a:u8[>];
var a:u8[>a];
var a:u8[1>;
var a:u8[1>:i32];
var a:u8[>-1];
var a:u8[1] >1;
var a:u8>,b:u8;
var a:>var;
var a:struct>;
var a:struct >x:u8;
var a:struct{>};
var a:union{>};
var a:union{>;};
var a:struct{x>};
var a:struct{x:>};
var a:struct{x:u8>};
var a:struct{x:u8;>;};
var a:struct{x:u8;>
var a:struct{x:u8;}>
var a:struct{>u8:x;};
var a:struct{x:u8;>stop;};
var a:struct{>if:u8;};
var a:struct{>var x:u8;};
var a:>struct1{x:u8;};
var a:struct{x:u8;}>.x;
stop; >var a:u8;
a=b; >var
if a { >var b:u8; }
var a:u8; read a; >var b:u8;
free a>=b;
free >;
free a >1;
free >stop;
free >struct;
free >var;
free >)
free >else;
free >=
free >==a;
free 1>;
free 1 >u8;
free 1:>;
free 1:>ptr;
free 1:>a;
free 1:>1;
free 1:u8>:u8;
free 1>.b;
free 1:u8>.b;
free 1:u8>[a];
free &>1:u8;
free &>&a;
free &>-a;
free &>(a+b);
free &>u8(a);
free &>;
free &>if;
free (a&>);
free u8>;
free u8 >a;
free u8(>);
free u8(a>,b);
free u8(a>;
free >ptr(a);
free u8(a)>.b;
free i32>:1;
free ->;
free ->);
free ~>=;
free !>ptr(a);
free -a>-b;
free >+a;
free a>+b;
free a>*b;
free a.>.b;
free (>);
free (a>);
free (a+>);
free (a+b>;
free (a+b>+c);
free (a >a);
free (a>!b);
free (a>~b);
free (a>=b);
free (a< >=b);
free (a==>=b);
free (a<<>)
free (a<<>
free (a<< >==b);
free (*>b);
free (>+b);
free (a+>+b);
free (a+b)>.c;
free (a>,b);
free (a>:b);
read>;
read >1:u8;
read >-a;
read >&a;
read >u8(a);
read a>=b;
read a>,1;
read >read;
read a>
read >(a+b);
new>;
new >1,1;
new a>;
new a,>;
new a,>b;
new a,1>,1;
new a,1>:u8;
new a,1>
new a>=b;
new >&a,1;
new a,>-1;
new a >1;
if>
if >{ }
if a>;
if a >stop;
if a {>
if a { >else }
if a { }>;
if a { } else>;
if a { } else >stop;
if a { } else >if b { }
if a { } else {>
if a { } else { } >else { }
if a { } >}
if (a>) { }
if a { stop>}
if a { stop; >) }
if (a+b) { } else>(
while>
while >{ }
while a>;
while a { } >else { }
while a { while >}
while a { } >}
while a {>
while (a<b)>(a=b);
while a { >; }`, "\n") {
		unfit(t, s)
	}
	tells(t, "free (a>>", 9, api.ErrParse)
	tells(t, "free (a|)", 8, api.ErrParse)
	tells(t, "free (>>a);", 6, api.ErrParse)
	tells(t, "stop \n# more\n", 13, api.ErrParse) // the text's length, not the last word's end
	tells(t, "a\n= ;", 4, api.ErrParse)
}

// P11.1, Parse: a name is no keyword, wherever one stands; what only begins as one is.
func TestKeywords(t *testing.T) {
	for _, s := range samples.Keywords() {
		tells(t, "var "+s+":u8;", 4, api.ErrParse)
		tells(t, "var a:struct{"+s+":u8;};", 13, api.ErrParse)
		tells(t, "var a:union{x:u8;"+s+":u8;};", 17, api.ErrParse)
		tells(t, "read a."+s+";", 7, api.ErrParse)
		tells(t, "read "+s+";", 5, api.ErrParse)
		tells(t, "free &"+s+";", 6, api.ErrParse)
		tells(t, "new "+s+",1;", 4, api.ErrParse)
		has(t, "read "+s+"0."+s+"x;", "name "+s+"0, dot "+s+"x[0], read[1], prog[2]")
	}
	for _, s := range samples.Names() {
		has(t, "var "+s+":struct{"+s+":u8;};"+s+"."+s+"="+s+";", "kind u8, field "+s+"[0], struct[1], var "+s+"[2], name "+s+", dot "+s+"[4], name "+s+", set[5 6], prog[3 7]")
	}
}

// P11.1, Parse: as the words go, what comes first.
func TestFirst(t *testing.T) {
	tells(t, "a=;b=;", 2, api.ErrParse)
	tells(t, "a=)"+strings.Repeat("-", 40), 2, api.ErrParse)
	tells(t, "a="+strings.Repeat("-", 40)+")", 21, api.ErrLimit)
	tells(t, strings.Repeat("stop;", 301)+"a=;", 1504, api.ErrLimit)
	tells(t, strings.Repeat("stop;", 300)+"a=;", 1500, api.ErrLimit)
	tells(t, strings.Repeat("stop;", 299)+"a=;", 1497, api.ErrParse)
	tells(t, "a=;"+strings.Repeat("stop;", 310), 2, api.ErrParse)
}
