package tree_test

import (
	"math/rand"
	"strings"
	"testing"

	"cellar/api"
	"cellar/samples"
	"cellar/tree"
)

// maker makes words of a program, and its nodes as the words end them.
type maker struct {
	r     *rand.Rand
	words []string
	nodes []api.Node
	room  int // about how many words more there may be
	met   int // statements
}

func (m *maker) say(s string) {
	m.words = append(m.words, strings.Fields(s)...)
	m.room -= len(strings.Fields(s))
}

func (m *maker) pick(l []string) string {
	s := l[m.r.Intn(len(l))]
	m.say(s)
	return s
}

func (m *maker) name() string   { return m.pick(samples.Names()) }
func (m *maker) kind() string   { return m.pick(strings.Fields("u8 i8 u16 i16 u32 i32 ptr")) }
func (m *maker) number() string { return m.pick(strings.Fields("u8 i8 u16 i16 u32 i32")) }

func (m *maker) digits() int {
	l := []int{0, 1, 9, 10, 300, 4294967295, 9999999999, m.r.Intn(1000)}
	n := l[m.r.Intn(len(l))]
	m.say(decimal(n))
	return n
}

func decimal(n int) string {
	if n < 10 {
		return string(rune('0' + n))
	}
	return decimal(n/10) + string(rune('0'+n%10))
}

func (m *maker) node(op int, name string, n int, parts ...int) int {
	m.nodes = append(m.nodes, api.Node{Op: op, Name: name, N: n, Parts: parts})
	return len(m.nodes) - 1
}

// more is whether to go on: seldom, where there is little room.
func (m *maker) more() bool {
	return m.room > 0 && m.r.Intn(3) > 0
}

func (m *maker) program() {
	var parts []int
	for m.room > 0 && m.r.Intn(5) > 0 {
		m.say("var")
		parts = append(parts, m.declared(api.NVar))
	}
	for m.room > 0 {
		parts = append(parts, m.statement())
	}
	m.node(api.NProg, "", 0, parts...)
}

func (m *maker) declared(op int) int {
	name := m.name()
	m.say(":")
	of := m.typed()
	m.say(";")
	return m.node(op, name, 0, of)
}

func (m *maker) typed() int {
	var n int
	if m.room > 0 && m.r.Intn(2) == 0 {
		op := m.r.Intn(2)
		m.say([]string{"struct {", "union {"}[op])
		parts := []int{m.declared(api.NField)}
		for m.more() {
			parts = append(parts, m.declared(api.NField))
		}
		m.say("}")
		n = m.node(api.NStruct+op, "", 0, parts...)
	} else {
		n = m.node(api.NKind, m.kind(), 0)
	}
	for m.more() {
		m.say("[")
		many := m.digits()
		m.say("]")
		n = m.node(api.NArray, "", many, n)
	}
	return n
}

func (m *maker) place() int {
	var n int
	if m.more() {
		m.say("*")
		kind := m.kind()
		m.say("(")
		of := m.expression()
		m.say(")")
		n = m.node(api.NDeref, kind, 0, of)
	} else {
		n = m.node(api.NName, m.name(), 0)
	}
	for m.more() {
		if m.r.Intn(2) == 0 {
			m.say(".")
			n = m.node(api.NDot, m.name(), 0, n)
			continue
		}
		m.say("[")
		item := m.expression()
		m.say("]")
		n = m.node(api.NAt, "", 0, n, item)
	}
	return n
}

func (m *maker) expression() int {
	what := m.r.Intn(9)
	if m.room <= 0 {
		what %= 2
	}
	switch what {
	case 0:
		n := m.digits()
		m.say(":")
		return m.node(api.NNum, m.number(), n)
	case 2:
		m.say("&")
		return m.node(api.NRef, "", 0, m.place())
	case 3:
		kind := m.number()
		m.say("(")
		of := m.expression()
		m.say(")")
		return m.node(api.NCast, kind, 0, of)
	case 4, 5:
		sign := m.pick(strings.Fields("- ~ !"))
		return m.node(api.NUn, sign, 0, m.expression())
	case 6, 7:
		m.say("(")
		a := m.expression()
		sign := m.pick(strings.Fields("+ - * / % & | ^ << >> == <"))
		b := m.expression()
		m.say(")")
		return m.node(api.NBin, sign, 0, a, b)
	}
	return m.place()
}

func (m *maker) statement() int {
	m.met++
	switch m.r.Intn(8) {
	case 0:
		m.say("stop ;")
		return m.node(api.NStop, "", 0)
	case 1:
		m.say("read")
		to := m.place()
		m.say(";")
		return m.node(api.NRead, "", 0, to)
	case 2:
		m.say("new")
		to := m.place()
		m.say(",")
		n := m.digits()
		m.say(";")
		return m.node(api.NNew, "", n, to)
	case 3:
		m.say("free")
		of := m.expression()
		m.say(";")
		return m.node(api.NFree, "", 0, of)
	case 4:
		m.say("if")
		parts := []int{m.expression(), m.block()}
		if m.r.Intn(2) == 0 {
			m.say("else")
			parts = append(parts, m.block())
		}
		return m.node(api.NIf, "", 0, parts...)
	case 5:
		m.say("while")
		return m.node(api.NWhile, "", 0, m.expression(), m.block())
	}
	to := m.place()
	m.say("=")
	of := m.expression()
	m.say(";")
	return m.node(api.NSet, "", 0, to, of)
}

func (m *maker) block() int {
	m.say("{")
	var parts []int
	for m.more() {
		parts = append(parts, m.statement())
	}
	m.say("}")
	return m.node(api.NBlock, "", 0, parts...)
}

// glue is words as a text with little or much between, where they begin, its length.
func glue(r *rand.Rand, words []string) (string, []int) {
	var text strings.Builder
	var places []int
	between := strings.Split(" |\t|\n|\r\n|# > 01\n|   |#\r", "|")
	gap := func() string { return between[r.Intn(len(between))] }
	few := r.Intn(10)
	for i, w := range words {
		plain := i == 0 || strings.ContainsAny(words[i-1], "{}()[];:,.") || strings.ContainsAny(w, "{}()[];:,.")
		if !plain || r.Intn(10) < few {
			text.WriteString(gap())
		}
		places = append(places, text.Len())
		text.WriteString(w)
	}
	if r.Intn(2) == 0 {
		text.WriteString(gap())
	}
	return text.String(), append(places, text.Len())
}

// limited is whether a program has too many nodes, or parts too deep.
func limited(m *maker) bool {
	places := make([]int, len(m.words)+1)
	_, e := says(m.words, places)
	return e != api.OK
}

// P11.1 and P11.2: whatever programs: what Parse tells, how that prints, its statements.
func TestWhatever(t *testing.T) {
	r := rand.New(rand.NewSource(1))
	told := map[api.Errno]int{}
	for range 4000 {
		m := &maker{r: r, room: r.Intn(30) * (1 + r.Intn(15))}
		m.program()
		text, places := glue(r, m.words)
		if len(text) > api.MaxText {
			tells(t, text, 0, api.ErrLimit)
			continue
		}
		e := holds(t, m.words, places, text)
		if told[e]++; e != api.OK {
			continue
		}
		if l, _, _ := tree.Parse(text); !same(l, m.nodes) {
			t.Fatalf("Parse(%q) = %s; want %s", text, short(l), short(m.nodes))
		}
		holdsTree(t, m)
	}
	if told[api.OK] < 1000 || told[api.ErrLimit] < 200 {
		t.Errorf("only so many of each: %v", told)
	}
}

// holdsTree checks Check, Print and Count of a program within the limits of nodes.
func holdsTree(t *testing.T, m *maker) {
	t.Helper()
	want := strings.Join(m.words, " ")
	if len(want) > api.MaxText {
		noTree(t, m.nodes)
		return
	}
	printsAs(t, m.nodes, want)
	if n, e := tree.Count(m.nodes); n != m.met || e != api.OK {
		t.Fatalf("Count(%s) = %d, %d; want %d", short(m.nodes), n, e, m.met)
	}
}

// P11.1, Check and Print: whatever programs' nodes, beyond the limits, too, which no
// text has of which Parse tells them.
func TestBeyond(t *testing.T) {
	r := rand.New(rand.NewSource(2))
	beyond := 0
	for range 2000 {
		m := &maker{r: r, room: 100 + r.Intn(500)}
		m.program()
		if limited(m) {
			noTree(t, m.nodes)
			beyond++
			continue
		}
		holdsTree(t, m)
	}
	if beyond < 200 {
		t.Errorf("only %d were beyond the limits", beyond)
	}
}

// P11.1, Parse: whatever words, almost a program's: some out, in, twice, others.
func TestAlmost(t *testing.T) {
	r := rand.New(rand.NewSource(3))
	all := samples.Words()
	told := map[api.Errno]int{}
	for range 20000 {
		m := &maker{r: r, room: r.Intn(20) * (1 + r.Intn(8))}
		m.program()
		words := m.words
		for range 1 + r.Intn(2) {
			i, k := r.Intn(len(words)+1), r.Intn(len(words)+1)
			i, k = min(i, k), max(i, k)
			switch r.Intn(4) {
			case 0:
				words = words[:k]
			case 1:
				words = append(words[:i:i], words[min(i+1, len(words)):]...)
			case 2:
				words = append(append(words[:i:i], all[r.Intn(len(all))]), words[i:]...)
			case 3:
				words = append(append(words[:i:i], all[r.Intn(len(all))]), words[min(i+1, len(words)):]...)
			}
		}
		if text, places := glue(r, words); len(text) <= api.MaxText {
			told[holds(t, words, places, text)]++
		}
	}
	if told[api.OK] < 500 || told[api.ErrParse] < 5000 || told[api.ErrLimit] < 200 {
		t.Errorf("only so many of each: %v", told)
	}
}
