package tree_test

import (
	"math"
	"regexp"
	"slices"
	"strings"
	"testing"

	"cellar/api"
	"cellar/samples"
	"cellar/tree"
)

// Parts of the grammar, each with the ops that it may have.
const (
	types       = " 3 4 5 6 "
	places      = " 8 9 10 11 "
	expressions = places + " 12 13 14 15 16 "
	statements  = " 17 18 19 20 21 22 23 "
)

// formOf is what a node must be made of, by Op: its parts (of the last one any number),
// how many at least and at most, whether it has a name of which kind, a number.
func formOf(op int) (parts []string, least int, most int, name string, number bool) {
	const any = math.MaxInt
	switch op {
	case api.NVar, api.NField:
		return []string{types}, 1, 1, "NAME", false
	case api.NKind:
		return nil, 0, 0, "KIND", false
	case api.NArray:
		return []string{types}, 1, 1, "", true
	case api.NStruct, api.NUnion:
		return []string{" 7 "}, 1, any, "", false
	case api.NName:
		return nil, 0, 0, "NAME", false
	case api.NDot:
		return []string{places}, 1, 1, "NAME", false
	case api.NAt, api.NSet:
		return []string{places, expressions}, 2, 2, "", false
	case api.NDeref:
		return []string{expressions}, 1, 1, "KIND", false
	case api.NCast:
		return []string{expressions}, 1, 1, "NUMBERS", false
	case api.NNum:
		return nil, 0, 0, "NUMBERS", true
	case api.NRef, api.NRead:
		return []string{places}, 1, 1, "", false
	case api.NNew:
		return []string{places}, 1, 1, "", true
	case api.NUn:
		return []string{expressions}, 1, 1, "SIGN", false
	case api.NBin:
		return []string{expressions}, 2, 2, "OPERATOR", false
	case api.NFree:
		return []string{expressions}, 1, 1, "", false
	case api.NIf:
		return []string{expressions, " 24 "}, 2, 3, "", false
	case api.NWhile:
		return []string{expressions, " 24 "}, 2, 2, "", false
	case api.NStop:
		return nil, 0, 0, "", false
	case api.NBlock:
		return []string{statements}, 0, any, "", false
	}
	return nil, 1, 0, "", false
}

var name = regexp.MustCompile(`^[a-z][a-z0-9]{0,7}$`)

func isNamed(s string, want string) bool {
	switch want {
	case "":
		return s == ""
	case "SIGN":
		return s == "-" || s == "~" || s == "!"
	case "OPERATOR":
		return slices.Contains(strings.Fields("+ - * / % & | ^ << >> == <"), s)
	case "NAME":
		return name.MatchString(s) && !slices.Contains(samples.Keywords(), s)
	case "KIND":
		return s == "ptr" || isNamed(s, "NUMBERS")
	}
	return slices.Contains(strings.Fields("u8 i8 u16 i16 u32 i32"), s)
}

// isTree is chapter 11's words on a tree, node by node, within its limits.
func isTree(l []api.Node) bool {
	first := make([]int, len(l)) // where what a node is made of begins
	for i, n := range l {
		parts, least, most, name, number := formOf(n.Op)
		if n.Op == api.NProg {
			return i == len(l)-1 && isProgram(l, first)
		}
		if len(n.Parts) < least || len(n.Parts) > most || !isNamed(n.Name, name) || n.N < 0 || n.N > 9999999999 || !number && n.N != 0 {
			return false
		}
		if first[i] = standsBehind(l, first, i, parts); first[i] < 0 {
			return false
		}
	}
	return false
}

// standsBehind is where what node i is made of begins, if its parts are of these forms
// and stand just ahead of it; else it is -1.
func standsBehind(l []api.Node, first []int, i int, forms []string) int {
	begin := i
	for k := len(l[i].Parts) - 1; k >= 0; k-- {
		part := l[i].Parts[k]
		form := forms[min(k, len(forms)-1)]
		if part != begin-1 || part < 0 || !strings.Contains(form, " "+decimal(max(l[part].Op, 0))+" ") {
			return -1
		}
		begin = first[part]
	}
	return begin
}

func isProgram(l []api.Node, first []int) bool {
	last := len(l) - 1
	n := l[last]
	if n.Name != "" || n.N != 0 || standsBehind(l, first, last, []string{" 2 " + statements}) != 0 {
		return false
	}
	ended := false
	for _, i := range n.Parts {
		if ended && l[i].Op == api.NVar {
			return false
		}
		ended = ended || l[i].Op != api.NVar
	}
	return true
}

// holdsForm checks Check, Print and Count of whatever nodes against the chapter's words.
func holdsForm(t *testing.T, l []api.Node) bool {
	t.Helper()
	if !isTree(l) {
		noTree(t, l)
		return false
	}
	s, e := tree.Print(l)
	if e != api.OK {
		t.Fatalf("Print(%s) = %d", short(l), e)
	}
	printsAs(t, l, s)
	met := 0
	for _, n := range l {
		if strings.Contains(statements, " "+decimal(n.Op)+" ") {
			met++
		}
	}
	if n, e := tree.Count(l); n != met || e != api.OK {
		t.Fatalf("Count(%s) = %d, %d; want %d", short(l), n, e, met)
	}
	return true
}

// copied is nodes that share nothing with others.
func copied(l []api.Node) []api.Node {
	l = slices.Clone(l)
	for i := range l {
		l[i].Parts = slices.Clone(l[i].Parts)
	}
	return l
}

// changes hands to do each list that is one but for one thing.
func changes(l []api.Node, do func([]api.Node)) {
	change := func(turn func(l []api.Node) []api.Node) { do(turn(copied(l))) }
	at := func(i int, turn func(n *api.Node)) {
		change(func(l []api.Node) []api.Node { turn(&l[i]); return l })
	}
	names := append(append(samples.Words(), samples.NotWords()[:30]...), "a . b", "a [ b ]", "1 : u8", "u8 [ 3 ]", "( a + b )", "- -", "a ; stop", "b1", "q")
	for i, n := range l {
		for op := -1; op <= 26; op++ {
			at(i, func(n *api.Node) { n.Op = op })
		}
		for _, s := range names {
			at(i, func(n *api.Node) { n.Name = s })
		}
		for _, many := range []int{0, 1, -1, n.N + 1, -n.N, 9999999999, 10000000000, math.MaxInt, math.MinInt} {
			at(i, func(n *api.Node) { n.N = many })
		}
		for k := range n.Parts {
			for _, part := range []int{n.Parts[k] + 1, n.Parts[k] - 1, 0, i, -1, len(l), math.MaxInt, math.MinInt} {
				at(i, func(n *api.Node) { n.Parts[k] = part })
			}
			at(i, func(n *api.Node) { n.Parts = slices.Delete(n.Parts, k, k+1) })
			at(i, func(n *api.Node) { n.Parts = slices.Insert(n.Parts, k, n.Parts[k]) })
			at(i, func(n *api.Node) { n.Parts[0], n.Parts[k] = n.Parts[k], n.Parts[0] })
		}
		for _, part := range []int{0, i - 1, i, -1} {
			at(i, func(n *api.Node) { n.Parts = append(n.Parts, part) })
		}
		change(func(l []api.Node) []api.Node { return slices.Delete(l, i, i+1) })
		change(func(l []api.Node) []api.Node { return slices.Insert(l, i, l[i]) })
		change(func(l []api.Node) []api.Node { l[0], l[i] = l[i], l[0]; return l })
		change(func(l []api.Node) []api.Node { return l[:i] })
		change(func(l []api.Node) []api.Node { return l[i:] })
		change(func(l []api.Node) []api.Node { return append(l, l[i]) })
	}
}

// P11.1 and P11.2: all lists that are a tree but for one thing: some are trees again.
func TestChanges(t *testing.T) {
	trees, none := 0, 0
	for _, s := range append(samples.Texts(), "a.b=c;", "if a{}", "if a{}else{}", "var a:u8[3];", "new a,5;", "free (a+b);") {
		l, _, _ := tree.Parse(s)
		if !holdsForm(t, l) {
			t.Fatalf("%s is held to be no tree", short(l))
		}
		changes(l, func(l []api.Node) {
			if holdsForm(t, l) {
				trees++
			} else {
				none++
			}
		})
	}
	if trees < 1500 || none < 20000 {
		t.Errorf("%d were trees, %d none", trees, none)
	}
}
