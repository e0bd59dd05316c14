package tree

import "cellar/api"

// Each of these reads one part of the grammar, and tells its node's place.

func (r *reader) program() int {
	var parts []int
	for r.word() == "var" {
		parts = append(parts, r.declaration())
	}
	for !r.atEnd() {
		parts = append(parts, r.statement())
	}
	return r.node(api.Node{Op: api.NProg, Parts: parts})
}

func (r *reader) declaration() int {
	r.needWord("var")
	return r.named(api.NVar)
}

// named is what a declaration and a field have in common.
func (r *reader) named(op int) int {
	name := r.need(isName)
	r.needWord(":")
	of := r.fullType()
	r.needWord(";")
	return r.node(api.Node{Op: op, Name: name, Parts: []int{of}})
}

func (r *reader) fullType() int {
	r.enter()
	defer r.leave()
	n := r.plainType()
	for r.word() == "[" {
		r.pass()
		items := r.needNumber()
		r.needWord("]")
		n = r.node(api.Node{Op: api.NArray, N: items, Parts: []int{n}})
	}
	return n
}

// plainType is a type up to where it may become an array's.
func (r *reader) plainType() int {
	switch r.word() {
	case "struct":
		r.pass()
		return r.fields(api.NStruct)
	case "union":
		r.pass()
		return r.fields(api.NUnion)
	}
	return r.node(api.Node{Op: api.NKind, Name: r.need(isKind)})
}

func (r *reader) fields(op int) int {
	r.needWord("{")
	parts := []int{r.named(api.NField)}
	for !r.atEnd() && r.word() != "}" {
		parts = append(parts, r.named(api.NField))
	}
	r.needWord("}")
	return r.node(api.Node{Op: op, Parts: parts})
}

// place is where something lies in memory.
func (r *reader) place() int {
	n := r.plainPlace()
	for {
		switch r.word() {
		case ".":
			r.pass()
			n = r.node(api.Node{Op: api.NDot, Name: r.need(isName), Parts: []int{n}})
		case "[":
			r.pass()
			item := r.expression()
			r.needWord("]")
			n = r.node(api.Node{Op: api.NAt, Parts: []int{n, item}})
		default:
			return n
		}
	}
}

// plainPlace is a place up to where it may become a field or an item.
func (r *reader) plainPlace() int {
	if r.word() == "*" {
		r.pass()
		return r.called(api.NDeref, r.need(isKind))
	}
	return r.node(api.Node{Op: api.NName, Name: r.need(isName)})
}

// called is what follows on a kind's name, where a pointer or a number is taken as of it.
func (r *reader) called(op int, name string) int {
	r.needWord("(")
	of := r.expression()
	r.needWord(")")
	return r.node(api.Node{Op: op, Name: name, Parts: []int{of}})
}

func (r *reader) expression() int {
	r.enter()
	defer r.leave()
	next := r.word()
	switch {
	case isNumber(next):
		return r.number()
	case isKindOfNumbers(next):
		return r.called(api.NCast, r.pass())
	case isTurn(next):
		sign := r.pass()
		return r.node(api.Node{Op: api.NUn, Name: sign, Parts: []int{r.expression()}})
	case next == "&":
		r.pass()
		return r.node(api.Node{Op: api.NRef, Parts: []int{r.place()}})
	case next == "(":
		return r.two()
	}
	return r.place()
}

func (r *reader) number() int {
	n := r.needNumber()
	r.needWord(":")
	return r.node(api.Node{Op: api.NNum, N: n, Name: r.need(isKindOfNumbers)})
}

// two are expressions with an operator between.
func (r *reader) two() int {
	r.needWord("(")
	a := r.expression()
	sign := r.need(isOperator)
	b := r.expression()
	r.needWord(")")
	return r.node(api.Node{Op: api.NBin, Name: sign, Parts: []int{a, b}})
}

func (r *reader) statement() int {
	r.enter()
	defer r.leave()
	switch r.word() {
	case "if":
		return r.choice()
	case "while":
		return r.loop()
	}
	n := r.plainStatement()
	r.needWord(";")
	return r.node(n)
}

// plainStatement is one that ends with a semicolon, up to that.
func (r *reader) plainStatement() api.Node {
	switch r.word() {
	case "read":
		r.pass()
		return api.Node{Op: api.NRead, Parts: []int{r.place()}}
	case "new":
		r.pass()
		to := r.place()
		r.needWord(",")
		return api.Node{Op: api.NNew, N: r.needNumber(), Parts: []int{to}}
	case "free":
		r.pass()
		return api.Node{Op: api.NFree, Parts: []int{r.expression()}}
	case "stop":
		r.pass()
		return api.Node{Op: api.NStop}
	}
	to := r.place()
	r.needWord("=")
	return api.Node{Op: api.NSet, Parts: []int{to, r.expression()}}
}

func (r *reader) choice() int {
	r.needWord("if")
	parts := []int{r.expression(), r.block()}
	if r.word() == "else" {
		r.pass()
		parts = append(parts, r.block())
	}
	return r.node(api.Node{Op: api.NIf, Parts: parts})
}

func (r *reader) loop() int {
	r.needWord("while")
	return r.node(api.Node{Op: api.NWhile, Parts: []int{r.expression(), r.block()}})
}

// block takes whatever is not its end for a statement's begin, the text's end, too.
func (r *reader) block() int {
	r.needWord("{")
	var parts []int
	for r.wrong == api.OK && r.word() != "}" {
		parts = append(parts, r.statement())
	}
	r.needWord("}")
	return r.node(api.Node{Op: api.NBlock, Parts: parts})
}
