package tree

import (
	"slices"
	"strconv"
	"strings"
	"sync"

	"cellar/api"
	"cellar/lex"
)

// page is a list of nodes that one call is of, and its words as a text.
type page struct {
	nodes []api.Node

	set   sync.Once // the text is asked for its tree, and is told
	words []string
	found string
	wrong api.Errno
}

// isTree is whether the nodes' words are a text of just these nodes. A list in which a
// node is wrong, or has too few parts or too many, has words, too: of another tree.
func (p *page) isTree() bool {
	if len(p.nodes) > api.MaxNodes || !inOrder(p.nodes) {
		return false
	}
	s, e := p.text()
	if e != api.OK {
		return false
	}
	t, _, e := Parse(s)
	return e == api.OK && slices.EqualFunc(t, p.nodes, isSame)
}

// text is asked only of nodes that are in order: else its words might have no end.
func (p *page) text() (string, api.Errno) {
	p.set.Do(func() {
		p.write(len(p.nodes) - 1)
		p.found, p.wrong = lex.Join(p.words...)
	})
	return p.found, p.wrong
}

// write writes the words of a node.
func (p *page) write(i int) {
	n := p.nodes[i]
	rest := n.Parts
	for _, s := range strings.Fields(pattern(n)) {
		switch s {
		case "NAME":
			p.words = append(p.words, n.Name)
		case "NUMBER":
			p.words = append(p.words, strconv.Itoa(n.N))
		case "PART":
			rest = p.writeSome(rest, 1)
		case "PARTS":
			rest = p.writeSome(rest, len(rest))
		default:
			p.words = append(p.words, s)
		}
	}
}

// writeSome writes so many parts, if there are so many, and tells the others.
func (p *page) writeSome(parts []int, many int) []int {
	many = min(many, len(parts))
	for _, i := range parts[:many] {
		p.write(i)
	}
	return parts[many:]
}

// pattern is a node's words; of what it is made is written large.
func pattern(n api.Node) string {
	switch n.Op {
	case api.NProg:
		return "PARTS"
	case api.NVar:
		return "var NAME : PART ;"
	case api.NField:
		return "NAME : PART ;"
	case api.NArray:
		return "PART [ NUMBER ]"
	case api.NStruct:
		return "struct { PARTS }"
	case api.NUnion:
		return "union { PARTS }"
	case api.NKind, api.NName:
		return "NAME"
	case api.NDot:
		return "PART . NAME"
	case api.NAt:
		return "PART [ PART ]"
	case api.NDeref:
		return "* NAME ( PART )"
	case api.NNum:
		return "NUMBER : NAME"
	case api.NRef:
		return "& PART"
	case api.NCast:
		return "NAME ( PART )"
	case api.NUn:
		return "NAME PART"
	case api.NBin:
		return "( PART NAME PART )"
	}
	return statementPattern(n)
}

func statementPattern(n api.Node) string {
	switch n.Op {
	case api.NSet:
		return "PART = PART ;"
	case api.NRead:
		return "read PART ;"
	case api.NNew:
		return "new PART , NUMBER ;"
	case api.NFree:
		return "free PART ;"
	case api.NIf:
		if len(n.Parts) > 2 {
			return "if PART PART else PART"
		}
		return "if PART PART"
	case api.NWhile:
		return "while PART PART"
	case api.NStop:
		return "stop ;"
	case api.NBlock:
		return "{ PARTS }"
	}
	return ""
}

// inOrder is whether all are parts of the last one, and each one's parts stand just
// ahead of it, in order, with theirs.
func inOrder(t []api.Node) bool {
	var whole []int // those that are no part yet
	for i, n := range t {
		rest := len(whole) - len(n.Parts)
		if rest < 0 || !slices.Equal(whole[rest:], n.Parts) {
			return false
		}
		whole = append(whole[:rest], i)
	}
	return len(whole) == 1
}

// isSame is whether two nodes are alike; a list without parts is so in both its forms.
func isSame(a api.Node, b api.Node) bool {
	return a.Op == b.Op && a.Name == b.Name && a.N == b.N && slices.Equal(a.Parts, b.Parts)
}
