package check_test

import (
	"fmt"
	"math/rand"
	"slices"
	"strings"
	"testing"

	"cellar/api"
	"cellar/check"
	"cellar/prog"
	"cellar/samples"
	"cellar/tree"
)

// writer writes whatever text that is a program, or is almost one.
type writer struct {
	*rand.Rand
	wild   int // of a thousand, how often something is so as it may not be
	room   int // about how many nodes more there may be
	names  []string
	types  []*typ
	news   int
	looped int
}

func (w *writer) pick(l ...string) string { return l[w.Intn(len(l))] }
func (w *writer) errs() bool              { return w.Intn(1000) < w.wild }

// text is a type's.
func (x *typ) text() string {
	switch {
	case x.kind == "array":
		return x.of.text() + "[" + fmt.Sprint(x.n) + "]"
	case x.hasFields():
		s := x.kind + "{"
		for i, name := range x.names {
			s += name + ":" + x.parts[i].text() + ";"
		}
		return s + "}"
	}
	return x.kind
}

func (w *writer) scalar() string {
	return w.pick("u8", "i8", "u16", "i16", "u32", "i32", "i32", "i32", "ptr", "ptr")
}

// name is one that none of these has, seldom one of them.
func (w *writer) name(l []string) string {
	for {
		s := w.pick(append(samples.Names(), "a", "b", "c", "d", "x", "y", "p", "q")...)
		if !slices.Contains(l, s) || w.errs() {
			return s
		}
	}
}

func (w *writer) typ(deep int) *typ {
	w.room--
	switch n := w.Intn(7); {
	case deep > 0 && n == 0:
		x := &typ{kind: "array", n: 1 + w.Intn(1+w.Intn(4)), of: w.typ(deep - 1)}
		if w.errs() {
			x.n = []int{0, 16, 17, 33, 9999999999}[w.Intn(5)]
		}
		return x
	case deep > 0 && n < 4:
		x := &typ{kind: w.pick("struct", "struct", "union")}
		many := 1 + w.Intn(3)
		if w.errs() {
			many = 5 + w.Intn(3)
		}
		for range many {
			w.room--
			x.names = append(x.names, w.name(x.names))
			x.parts = append(x.parts, w.typ(deep-1))
		}
		return x
	}
	return &typ{kind: w.scalar()}
}

// declare writes declarations, seldom too many.
func (w *writer) declare() string {
	s := ""
	for range 1 + w.Intn(4) {
		s += w.declaration(w.typ(w.Intn(4)))
	}
	for w.errs() {
		s += w.declaration(w.typ(1))
	}
	return s
}

func (w *writer) declaration(x *typ) string {
	if size, _, _ := x.layout(little); size > api.MaxSize && w.wild < 900 && !w.errs() {
		x = &typ{kind: w.scalar()}
	}
	w.names, w.types = append(w.names, w.name(w.names)), append(w.types, x)
	return "var " + w.names[len(w.names)-1] + ":" + x.text() + ";"
}

// has is whether there is a place of a kind in x; of "" there always is.
func (x *typ) has(kind string) bool {
	return kind == "" || slices.ContainsFunc(x.inner(), func(y *typ) bool { return y.kind == kind })
}

// place is one of a kind, or of whatever type.
func (w *writer) place(kind string, deep int) string {
	w.room--
	var l []int
	for i, x := range w.types {
		if x.has(kind) {
			l = append(l, i)
		}
	}
	if w.errs() {
		return w.pick("nope", "a", "s", "x", "zz9")
	}
	if kind != "" && (len(l) == 0 || deep > 0 && w.Intn(5) == 0) {
		return "*" + kind + "(" + w.expr("ptr", deep-1) + ")"
	}
	i := l[w.Intn(len(l))]
	return w.inner(w.names[i], w.types[i], kind, deep)
}

// inner is a place in one of type x.
func (w *writer) inner(s string, x *typ, kind string, deep int) string {
	w.room -= 2
	switch {
	case w.errs():
		return s + w.pick(".nope", "[0:i32]", "[0:u8]", ".x", "")
	case x.kind == "array" && (kind != "" || w.Intn(3) > 0):
		index := w.expr("i32", deep-1)
		return w.inner(s+"["+index+"]", x.of, kind, deep-1)
	case x.hasFields() && (kind != "" || w.Intn(3) > 0):
		for {
			if k := w.Intn(len(x.parts)); x.parts[k].has(kind) {
				return w.inner(s+"."+x.names[k], x.parts[k], kind, deep)
			}
		}
	}
	return s
}

func (w *writer) number(kind string) string {
	top := 1<<samples.Width(slices.Index(kinds, kind)) - 1
	n := []int{0, 1, 2, w.Intn(10), w.Intn(top), top}[w.Intn(6)]
	if w.errs() {
		n = []int{top + 1, 9999999999}[w.Intn(2)]
	}
	return fmt.Sprint(n) + ":" + kind
}

// expr is one of a kind, seldom of another one.
func (w *writer) expr(kind string, deep int) string {
	w.room--
	if w.errs() {
		kind = w.scalar()
	}
	if kind == "ptr" {
		return w.pointer(deep)
	}
	if deep <= 0 || w.room < 0 {
		if w.Intn(3) > 0 {
			return w.number(kind)
		}
		return w.place(kind, deep-1)
	}
	switch n := w.Intn(8); {
	case n == 0:
		return kind + "(" + w.expr(w.pick(numbers...), deep-1) + ")"
	case n == 1:
		return w.pick("-", "~") + w.expr(kind, deep-1)
	case n < 4 && kind == "i32":
		return w.question(deep - 1)
	case n < 6:
		sign := w.pick("+", "-", "*", "/", "%", "&", "|", "^", "<<", ">>")
		return w.two(kind, sign, kind, deep-1)
	}
	return w.place(kind, deep-1)
}

func (w *writer) two(a string, sign string, b string, deep int) string {
	x := w.expr(a, deep)
	return "(" + x + sign + w.expr(b, deep) + ")"
}

func (w *writer) question(deep int) string {
	kind := w.pick(numbers...)
	switch w.Intn(6) {
	case 0:
		return "!" + w.expr(w.scalar(), deep)
	case 1:
		return w.two("ptr", "-", "ptr", deep)
	case 2:
		return w.two("ptr", "==", "ptr", deep)
	case 3:
		return w.two(kind, "==", kind, deep)
	}
	return w.two(kind, "<", kind, deep)
}

func (w *writer) pointer(deep int) string {
	switch n := w.Intn(4); {
	case deep <= 0 || w.room < 0 || n == 0:
		return "&" + w.place("", deep-1)
	case n == 1:
		return w.two("ptr", "+", "i32", deep-1)
	}
	return w.place("ptr", deep-1)
}

func (w *writer) stmt(deep int) string {
	w.room--
	how := 1 + w.Intn(4)
	switch n := w.Intn(14); {
	case n == 0:
		return "stop;"
	case n == 1:
		return "read " + w.place(w.pick(numbers...), how) + ";"
	case n == 2 && (w.looped == 0 && w.news < api.MaxNews || w.errs()):
		w.news++
		size := 1 + w.Intn(32)
		if w.errs() {
			size = []int{0, 33, 9999999999}[w.Intn(3)]
		}
		return "new " + w.place("ptr", how) + "," + fmt.Sprint(size) + ";"
	case n == 3:
		return "free " + w.expr("ptr", how) + ";"
	case n < 8 && (deep < api.MaxNest || w.errs()):
		return w.branch(how, deep)
	}
	kind := w.scalar()
	if w.errs() {
		kind = ""
	}
	to := w.place(kind, how)
	return to + "=" + w.expr(kind, how) + ";"
}

func (w *writer) branch(how int, deep int) string {
	s := w.expr("i32", how)
	switch w.Intn(3) {
	case 0:
		w.looped++
		s = "while " + s + w.block(deep)
		w.looped--
		return s
	case 1:
		return "if " + s + w.block(deep)
	}
	s = "if " + s + w.block(deep)
	return s + "else" + w.block(deep)
}

func (w *writer) block(deep int) string {
	s := "{"
	for w.room > 0 && w.Intn(3) > 0 {
		s += w.stmt(deep + 1)
	}
	return s + "}"
}

func (w *writer) program() string {
	s := w.declare()
	for w.room > 0 {
		s += w.stmt(0)
	}
	return s
}

// agrees checks all that is told of a text against the chapter's words.
func agrees(t *testing.T, s string, a api.Abi) (api.Program, api.Errno) {
	t.Helper()
	p, e := check.Read(s, a)
	l, _, f := tree.Parse(s)
	if f != api.OK {
		if e != f || !isNothing(p) {
			t.Fatalf("Read(%q) = %s, %d; want %d", s, short(p), e, f)
		}
		return p, e
	}
	q, g := check.Program(l, a)
	if e != g || !same(p, q) {
		t.Fatalf("%q: Read tells %s, %d, Program %s, %d", s, short(p), e, short(q), g)
	}
	if tree.Check(l) != api.OK {
		if e != api.ErrForm {
			t.Fatalf("Read(%q) = %s, %d", s, short(p), e)
		}
		return p, e
	}
	want, f := modelled(l, a)
	if e != f || !same(p, want) || e != api.OK && !isNothing(p) {
		t.Fatalf("Read(%q) = %s, %d; want %s, %d", s, short(p), e, short(want), f)
	}
	if e == api.OK && prog.Check(p) != api.OK {
		t.Fatalf("Read(%q) = %s, which may not be", s, short(p))
	}
	return p, e
}

// P14.1 to P14.4: whatever texts, right ones and almost right ones, against the chapter's
// words; each text that prints is the same program then.
func TestWhatever(t *testing.T) {
	told := map[api.Errno]int{}
	ops, done := map[int]int{}, map[int]int{}
	for i := range 8000 {
		w := &writer{Rand: rand.New(rand.NewSource(int64(i))), wild: []int{0, 0, 3, 10, 30}[i%5]}
		w.room = 10 + w.Intn(200)
		s := w.program()
		a := samples.Machines()[i%4]
		p, e := agrees(t, s, a)
		told[e]++
		if e != api.OK {
			continue
		}
		for _, x := range p.Exprs {
			ops[x.Op]++
		}
		for _, x := range p.Stmts {
			done[x.Op]++
		}
		l, _, _ := tree.Parse(s)
		print, _ := tree.Print(l)
		if q, e := check.Read(print, a); e != api.OK || !same(p, q) {
			t.Fatalf("Read(%q) = %s, %d; want %s", print, short(q), e, short(p))
		}
	}
	for _, e := range []api.Errno{api.OK, api.ErrForm, api.ErrLimit, api.ErrType, api.ErrName} {
		if told[e] < 150 {
			t.Errorf("%d was told %d times: %v", e, told[e], told)
		}
	}
	for op := api.ENum; op <= api.ESame; op++ {
		if ops[op] < 300 {
			t.Errorf("%s was made %d times", exprs[op], ops[op])
		}
	}
	for op := api.SSet; op <= api.SStop; op++ {
		if done[op] < 300 {
			t.Errorf("%s was made %d times", stmts[op], done[op])
		}
	}
}

// P14.1: whatever types against what the texts were written of.
func TestWhateverTypes(t *testing.T) {
	for i := range 3000 {
		w := &writer{Rand: rand.New(rand.NewSource(int64(i))), wild: i % 100}
		s := w.declare()
		l, _, _ := tree.Parse(s)
		got, vars, e := check.Types(l)
		if len(l) > 0 && (e != api.OK || len(vars) != len(w.types)) {
			t.Fatalf("Types(%q) = %v, %v, %d", s, got, vars, e)
		}
		made := 0
		for k, x := range w.types {
			if len(l) == 0 {
				break
			}
			if made += len(x.inner()); vars[k] != made-1 || back(got, vars[k]).text() != x.text() {
				t.Fatalf("Types(%q) = %v, %v: %d", s, got, vars, k)
			}
		}
		if len(l) > 0 && len(got) != made {
			t.Fatalf("Types(%q) = %v", s, got)
		}
	}
}

// back is a type as a text has it.
func back(l []api.Type, i int) *typ {
	x := &typ{kind: kinds[l[i].Kind], n: l[i].N, names: l[i].Names}
	if l[i].Kind == api.KArray {
		x.of = back(l, l[i].Of)
	}
	for _, part := range l[i].Parts {
		x.parts = append(x.parts, back(l, part))
	}
	return x
}

// other is another word of that sort.
func (w *writer) other(s string) string {
	switch {
	case slices.Contains(kinds[1:8], s):
		return w.pick(kinds[1:8]...)
	case s[0] >= '0' && s[0] <= '9':
		return w.pick("0", "1", "2", "16", "17", "32", "33", "255", "256", "4294967296")
	case slices.Contains(samples.Signs(), s):
		return w.pick("+", "-", "*", "&", "==", "<", "<<", "~", "!", s)
	case slices.Contains(samples.Keywords(), s):
		return w.pick("if", "while", "struct", "union", "read", "free", s)
	}
	return w.pick("nope", "a", "b", "c", "x", "y", w.pick(w.names...))
}

// P14.2: whatever programs in which a word or two are others.
func TestAlmost(t *testing.T) {
	told := map[api.Errno]int{}
	for i := range 4000 {
		w := &writer{Rand: rand.New(rand.NewSource(int64(i))), room: 10 + i%100}
		l, _, _ := tree.Parse(w.program())
		print, e := tree.Print(l)
		if e != api.OK {
			continue
		}
		row := strings.Fields(print)
		for range 8 {
			other := slices.Clone(row)
			for range 1 + w.Intn(2) {
				k := w.Intn(len(other))
				other[k] = w.other(other[k])
			}
			_, e := agrees(t, strings.Join(other, " "), samples.Machines()[w.Intn(4)])
			told[e]++
		}
	}
	for _, e := range []api.Errno{api.OK, api.ErrForm, api.ErrParse, api.ErrType, api.ErrName} {
		if told[e] < 300 {
			t.Errorf("%d was told %d times: %v", e, told[e], told)
		}
	}
}
