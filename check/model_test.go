package check_test

import (
	"slices"
	"strings"

	"cellar/api"
	"cellar/samples"
)

// typ is a type as a text has it: kind is a scalar's name, or one of those that are made
// of others.
type typ struct {
	kind  string
	n     int
	of    *typ
	names []string
	parts []*typ
}

var numbers = strings.Fields("u8 i8 u16 i16 u32 i32")

func (x *typ) isNumber() bool { return slices.Contains(numbers, x.kind) }
func (x *typ) isScalar() bool { return x.kind == "ptr" || x.isNumber() }
func (x *typ) hasFields() bool {
	return x.kind == "struct" || x.kind == "union"
}

// inner are all types that x is made of, and itself.
func (x *typ) inner() []*typ {
	l := []*typ{x}
	for _, part := range append(slices.Clone(x.parts), x.of) {
		if part != nil {
			l = append(l, part.inner()...)
		}
	}
	return l
}

// scalars is how many there are in x; beyond what there may be it is enough to say so.
func (x *typ) scalars() int {
	if x.isScalar() {
		return 1
	}
	many := 0
	if x.kind == "array" {
		many = min(x.n, 1000) * x.of.scalars()
	}
	for _, part := range x.parts {
		many += part.scalars()
	}
	return min(many, 1000)
}

// layout is chapter 7's words: size, align, where each field is.
func (x *typ) layout(a api.Abi) (size int, align int, at []int) {
	switch x.kind {
	case "ptr":
		return a.Ptr, a.Ptr, nil
	case "array":
		size, align, _ = x.of.layout(a)
		return min(x.n, 1000) * size, align, nil
	case "struct", "union":
		end, most := 0, 1
		for _, part := range x.parts {
			n, by, _ := part.layout(a)
			if x.kind == "union" {
				end = 0
			}
			for end%by != 0 {
				end++
			}
			at = append(at, end)
			end += n
			size, most = max(size, end), max(most, by)
		}
		for size%most != 0 {
			size++
		}
		return size, most, at
	}
	n := samples.Width(slices.Index(kinds, x.kind)) / 8
	return n, n, nil
}

// mayBe is chapter 7's words on a type whose parts may be.
func (x *typ) mayBe(a api.Abi) bool {
	if x.kind == "array" && (x.n < 1 || x.n > api.MaxArray) || len(x.parts) > api.MaxFields {
		return false
	}
	size, _, _ := x.layout(a)
	return size <= api.MaxSize && x.scalars() <= api.MaxScalars
}

// model is chapter 14's words on a tree, told node by node; it breaks off by a panic of
// what is wrong.
type model struct {
	*samples.Maker
	a     api.Abi
	t     []api.Node
	names []string
	types []*typ
	news  int
	made  int
}

// modelled is the program that a tree is, or what is wrong.
func modelled(t []api.Node, a api.Abi) (p api.Program, e api.Errno) {
	defer func() {
		if wrong := recover(); wrong != nil {
			p, e = api.Program{}, wrong.(api.Errno)
		}
	}()
	m := &model{a: a, t: t}
	whole := t[len(t)-1].Parts
	for len(whole) > 0 && t[whole[0]].Op == api.NVar {
		m.names = append(m.names, t[whole[0]].Name)
		m.types = append(m.types, m.typ(t[whole[0]].Parts[0]))
		whole = whole[1:]
	}
	m.checkAll(whole)
	var vars, news []int
	for _, x := range m.types {
		size, _, _ := x.layout(a)
		vars = append(vars, size)
	}
	for _, n := range t {
		if n.Op == api.NNew {
			news = append(news, n.N)
		}
	}
	m.Maker = samples.NewMaker(a, vars, news)
	m.stmts(whole, false)
	return m.Done(), api.OK
}

func (m *model) typ(i int) *typ {
	n := m.t[i]
	switch n.Op {
	case api.NKind:
		return &typ{kind: n.Name}
	case api.NArray:
		return &typ{kind: "array", n: n.N, of: m.typ(n.Parts[0])}
	}
	x := &typ{kind: map[int]string{api.NStruct: "struct", api.NUnion: "union"}[n.Op]}
	for _, field := range n.Parts {
		x.names = append(x.names, m.t[field].Name)
		x.parts = append(x.parts, m.typ(m.t[field].Parts[0]))
	}
	return x
}

// checkAll is what is looked at ahead of all statements.
func (m *model) checkAll(whole []int) {
	var all []*typ
	for _, x := range m.types {
		all = append(all, x.inner()...)
	}
	stmts, news := m.count(whole)
	need(len(m.types) <= api.MaxVars && news <= api.MaxNews && len(all) <= api.MaxTypes && stmts <= api.MaxStmts && m.deep(whole) <= api.MaxNest, api.ErrLimit)
	lists := [][]string{m.names}
	for _, x := range all {
		lists = append(lists, x.names)
	}
	for _, l := range lists {
		l = slices.Clone(l)
		slices.Sort(l)
		many := len(l)
		need(len(slices.Compact(l)) == many, api.ErrName)
	}
	for _, x := range all {
		need(x.mayBe(m.a), api.ErrForm)
	}
}

// bodies are those of a statement.
func (m *model) bodies(i int) [][]int {
	n := m.t[i]
	if n.Op != api.NIf && n.Op != api.NWhile {
		return nil
	}
	var l [][]int
	for _, block := range n.Parts[1:] {
		l = append(l, m.t[block].Parts)
	}
	return l
}

func (m *model) count(l []int) (stmts int, news int) {
	for _, i := range l {
		stmts++
		if m.t[i].Op == api.NNew {
			news++
		}
		for _, body := range m.bodies(i) {
			s, n := m.count(body)
			stmts, news = stmts+s, news+n
		}
	}
	return stmts, news
}

func (m *model) deep(l []int) int {
	most := 0
	for _, i := range l {
		for _, body := range m.bodies(i) {
			if len(body) > 0 {
				most = max(most, 1+m.deep(body))
			}
		}
	}
	return most
}

func need(is bool, e api.Errno) {
	if !is {
		panic(e)
	}
}

// next is asked ahead of each expression.
func (m *model) next() {
	need(m.made < api.MaxExprs, api.ErrLimit)
	m.made++
}

func (m *model) num(kind string, n int) int {
	m.next()
	return m.Num(slices.Index(kinds, kind), n)
}

func (m *model) one(op string, kind string, a int) int {
	m.next()
	return m.One(slices.Index(exprs, op), slices.Index(kinds, kind), a)
}

func (m *model) two(op string, kind string, a int, b int) int {
	m.next()
	return m.Two(slices.Index(exprs, op), slices.Index(kinds, kind), a, b)
}

func (m *model) place(i int) (int, *typ) {
	n := m.t[i]
	switch n.Op {
	case api.NDeref:
		at, kind := m.expr(n.Parts[0])
		need(kind == "ptr", api.ErrType)
		return at, &typ{kind: n.Name}
	case api.NDot:
		at, x := m.place(n.Parts[0])
		need(x.hasFields(), api.ErrType)
		k := slices.Index(x.names, n.Name)
		need(k >= 0, api.ErrName)
		_, _, places := x.layout(m.a)
		off := m.num("i32", places[k])
		return m.two("move", "ptr", at, off), x.parts[k]
	case api.NAt:
		at, x := m.place(n.Parts[0])
		need(x.kind == "array", api.ErrType)
		e, kind := m.expr(n.Parts[1])
		need(kind == "i32", api.ErrType)
		size, _, _ := x.of.layout(m.a)
		by := m.num("i32", size)
		by = m.two("mul", "i32", e, by)
		return m.two("move", "ptr", at, by), x.of
	}
	k := slices.Index(m.names, n.Name)
	need(k >= 0, api.ErrName)
	m.next()
	return m.Expr(api.EAddr, api.KPtr, k+1, 0, 0), m.types[k]
}

func (m *model) expr(i int) (int, string) {
	n := m.t[i]
	switch n.Op {
	case api.NNum:
		need(n.N < 1<<samples.Width(slices.Index(kinds, n.Name)), api.ErrForm)
		return m.num(n.Name, n.N), n.Name
	case api.NRef:
		at, _ := m.place(n.Parts[0])
		return at, "ptr"
	case api.NCast:
		a, kind := m.expr(n.Parts[0])
		need(kind != "ptr", api.ErrType)
		return m.one("cast", n.Name, a), n.Name
	case api.NUn:
		a, kind := m.expr(n.Parts[0])
		if n.Name == "!" {
			return m.one("zero", "i32", a), "i32"
		}
		need(kind != "ptr", api.ErrType)
		return m.one(map[string]string{"-": "neg", "~": "not"}[n.Name], kind, a), kind
	case api.NBin:
		a, x := m.expr(n.Parts[0])
		b, y := m.expr(n.Parts[1])
		op, kind := between(x, n.Name, y)
		return m.two(op, kind, a, b), kind
	}
	at, x := m.place(i)
	need(x.isScalar(), api.ErrType)
	m.next()
	return m.Load(slices.Index(kinds, x.kind), at), x.kind
}

// between is what stands between expressions of two kinds.
func between(a string, sign string, b string) (op string, kind string) {
	switch a + sign + b {
	case "ptr+i32":
		return "move", "ptr"
	case "ptr-ptr":
		return "apart", "i32"
	case "ptr==ptr":
		return "same", "i32"
	}
	need(a == b && a != "ptr", api.ErrType)
	if sign == "==" || sign == "<" {
		a = "i32"
	}
	return signs[slices.Index(signs, sign)+1], a
}

func (m *model) stmts(l []int, looped bool) {
	for _, i := range l {
		m.stmt(i, looped)
	}
}

func (m *model) stmt(i int, looped bool) {
	n := m.t[i]
	need(!looped || n.Op != api.NNew, api.ErrForm)
	switch n.Op {
	case api.NSet:
		to, x := m.place(n.Parts[0])
		need(x.isScalar(), api.ErrType)
		e, kind := m.expr(n.Parts[1])
		need(kind == x.kind, api.ErrType)
		m.Set(to, slices.Index(kinds, kind), e)
	case api.NRead:
		to, x := m.place(n.Parts[0])
		need(x.isNumber(), api.ErrType)
		m.Read(to, slices.Index(kinds, x.kind))
	case api.NNew:
		to, x := m.place(n.Parts[0])
		need(x.kind == "ptr", api.ErrType)
		need(n.N > 0 && n.N <= api.MaxSize, api.ErrForm)
		m.news++
		m.New(to, len(m.types)+m.news)
	case api.NFree:
		e, kind := m.expr(n.Parts[0])
		need(kind == "ptr", api.ErrType)
		m.Free(e)
	case api.NStop:
		m.Stop()
	default:
		m.branch(i, looped)
	}
}

func (m *model) branch(i int, looped bool) {
	e, kind := m.expr(m.t[i].Parts[0])
	need(kind == "i32", api.ErrType)
	bodies := append(m.bodies(i), nil)
	if m.t[i].Op == api.NWhile {
		m.While(e, func() { m.stmts(bodies[0], true) })
		return
	}
	m.If(e, func() { m.stmts(bodies[0], looped) }, func() { m.stmts(bodies[1], looped) })
}
