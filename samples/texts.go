package samples

// Texts are texts of programs: each part of the grammar is in one.
func Texts() []string {
	return []string{
		"",
		"stop;",
		"var a:u8; a=3:u8;",
		"var p:ptr; new p,4; *i32(p)=7:i32; free p;",
		"var a:u8; var b:i16; read a; b=i16(a); if (b<10:i16) { b=(b+1:i16); } else { stop; }",
		"var i:i32; i=0:i32; while (i<8:i32) { i=(i+1:i32); if (i==4:i32) { stop; } }",
		"var s:struct{x:u8;next:ptr;y:u16[2];}; s.x=1:u8; s.next=&s.x; s.y[1:i32]=u16(s.x); *u8(s.next)=2:u8;",
		"var u:union{n:u32;b:u8[4];p:ptr;}[2]; u[0:i32].n=1:u32; read u[1:i32].b[3:i32]; u[0:i32].b[0:i32]=~u[1:i32].b[3:i32];",
		"var q:ptr[3][2]; q[1:i32][2:i32]=&q[0:i32]; if !*ptr((q[1:i32][2:i32]+4:i32)) { } while !q[0:i32][0:i32] { }",
		"var a:i32; a=(((a*2:i32)/(a%3:i32))-((a|a)^(a&-a))); a=((a<<1:i32)==(a>>1:i32)); if a { if -a { free &a; } else { } }",
		"# a list of two\nvar l:ptr; var n:struct{v:i8;l:ptr;};\n\tnew l,8; if (l==&n) { stop; }\r\n\t*ptr((l+4:i32))=&n; # the end\n",
	}
}
