package samples

import "cellar/api"

// Plan is what there may be in a program that Whatever makes.
type Plan struct {
	Loops  bool
	Reads  bool
	News   bool
	Wild   int // of a hundred, how often something is so as it seldom goes well
	Stmts  int // about how many statements, at most MaxStmts
	Deep   int // how deep expressions are
	Filled bool
}

// slot is a place where a scalar of a kind is to lie.
type slot struct {
	block, off, kind int
}

type whatever struct {
	*Maker
	plan   Plan
	number func() int
	abi    api.Abi
	vars   int
	slots  []slot
	fresh  []int // blocks that no statement makes yet
	made   []int // how great each block is
	known  map[slot]int
	inner  int
	looped int
}

// Whatever is a program that may be, where number, which tells a new one each time, says.
func Whatever(number func() int, a api.Abi, plan Plan) api.Program {
	w := &whatever{plan: plan, number: number, abi: a, known: map[slot]int{}}
	vars, news := w.blocks()
	w.Maker = NewMaker(a, vars, news)
	if plan.Filled {
		w.fill()
	}
	for w.room() && len(w.p.Stmts) < plan.Stmts {
		w.stmt()
	}
	return w.Done()
}

// addr is often one that there is already.
func (w *whatever) addr(block int, off int) int {
	s := slot{block: block, off: off}
	if at, ok := w.known[s]; ok && w.chance(80) {
		return at
	}
	w.known[s] = w.Addr(block, off)
	return w.known[s]
}

func (w *whatever) upTo(most int) int {
	return int(uint(w.number()) % uint(most+1))
}

func (w *whatever) chance(ofHundred int) bool {
	return w.upTo(99) < ofHundred
}

func (w *whatever) wild() bool {
	return w.chance(w.plan.Wild)
}

func (w *whatever) pick(l ...int) int {
	return l[w.upTo(len(l)-1)]
}

// blocks are the sizes of variables, whose slots are noted, and of what is to be made.
func (w *whatever) blocks() (vars []int, news []int) {
	w.vars = w.upTo(api.MaxVars-1) + 1
	w.made = []int{0}
	for i := range w.vars {
		vars = append(vars, w.lay(i+1))
	}
	if w.plan.News {
		for range w.upTo(api.MaxNews) {
			news = append(news, w.pick(1, 4, 8, 12, api.MaxSize, w.upTo(api.MaxSize-1)+1))
			w.fresh = append(w.fresh, w.vars+len(news))
		}
	}
	w.made = append(append(w.made, vars...), news...)
	return vars, news
}

// lay notes slots of a block and tells its size.
func (w *whatever) lay(block int) int {
	off := 0
	for range w.upTo(3) + 1 {
		kind := w.pick(api.KU8, api.KI8, api.KU16, api.KI16, api.KU32, api.KI32, api.KI32, api.KPtr, api.KPtr)
		size := Size(w.abi, kind)
		off = (off + size - 1) / size * size
		w.slots = append(w.slots, slot{block: block, off: off, kind: kind})
		off += size
	}
	return off
}

// fill sets most slots to something, so that seldom nothing is read.
func (w *whatever) fill() {
	for _, s := range w.slots {
		if w.chance(8) || !w.room() {
			continue
		}
		to := w.addr(s.block, s.off)
		switch {
		case s.kind == api.KPtr:
			t := w.slots[w.upTo(len(w.slots)-1)]
			w.Set(to, api.KPtr, w.addr(t.block, t.off))
		case w.plan.Reads && w.chance(40):
			w.Read(to, s.kind)
		default:
			w.Set(to, s.kind, w.constant(s.kind))
		}
	}
}

// room is whether one more statement, with its expressions, may come.
func (w *whatever) room() bool {
	return len(w.p.Stmts)+4+w.inner < api.MaxStmts && len(w.p.Exprs)+40+6*w.inner < api.MaxExprs
}

func (w *whatever) constant(kind int) int {
	if kind == api.KPtr {
		return w.Num(kind, 0)
	}
	top := 1<<Width(kind) - 1
	half := top/2 + 1
	n := w.pick(0, 0, 1, 1, 2, 3, 4, 5, 7, 8, 16, 100, half-1, half, top, top-1, w.number(), w.number())
	return w.Num(kind, n&top)
}

// slot is one of a kind, or whichever, if there is none.
func (w *whatever) slot(kind int) slot {
	var l []slot
	for _, s := range w.slots {
		if s.kind == kind {
			l = append(l, s)
		}
	}
	if len(l) == 0 || w.wild() {
		l = w.slots
	}
	return l[w.upTo(len(l)-1)]
}

// place is an expression that tells a place where a scalar of a kind may lie.
func (w *whatever) place(kind int, deep int) int {
	switch {
	case deep > 0 && w.chance(15):
		return w.pointer(deep - 1)
	case deep > 0 && w.chance(10):
		s := w.slot(kind)
		by := w.Two(api.EMul, api.KI32, w.expr(api.KI32, deep-1), w.Num(api.KI32, Size(w.abi, kind)))
		return w.Move(w.addr(s.block, 0), by)
	case w.wild():
		return w.addr(w.upTo(w.vars-1)+1, w.upTo(12))
	}
	s := w.slot(kind)
	return w.addr(s.block, s.off)
}

func (w *whatever) pointer(deep int) int {
	switch {
	case w.wild():
		return w.Num(api.KPtr, 0)
	case deep > 0 && w.chance(50):
		return w.Load(api.KPtr, w.place(api.KPtr, deep-1))
	case deep > 0 && w.chance(30):
		return w.Move(w.pointer(deep-1), w.expr(api.KI32, deep-1))
	}
	s := w.slots[w.upTo(len(w.slots)-1)]
	return w.addr(s.block, s.off)
}

// expr is an expression of a kind, of at most about deep others in one another.
func (w *whatever) expr(kind int, deep int) int {
	if kind == api.KPtr {
		return w.pointer(deep)
	}
	if deep <= 0 || len(w.p.Exprs)+26+6*w.inner > api.MaxExprs {
		if w.chance(40) {
			return w.constant(kind)
		}
		return w.Load(kind, w.place(kind, 0))
	}
	deep--
	switch w.upTo(8) {
	case 0:
		return w.constant(kind)
	case 1, 2:
		return w.Load(kind, w.place(kind, deep))
	case 3:
		from := w.pick(Kinds()...)
		return w.One(api.ECast, kind, w.expr(from, deep))
	case 4:
		return w.One(w.pick(api.ENeg, api.ENot), kind, w.expr(kind, deep))
	case 5:
		if kind == api.KI32 {
			return w.question(deep)
		}
	}
	op := api.EAdd + w.upTo(api.EShr-api.EAdd)
	if !w.chance(40) {
		op = w.pick(api.EAdd, api.ESub, api.EMul, api.EAnd)
	}
	return w.Two(op, kind, w.expr(kind, deep), w.expr(kind, deep))
}

// question is of KI32, most often 0 or 1.
func (w *whatever) question(deep int) int {
	kind := w.pick(ScalarKinds()...)
	switch w.upTo(5) {
	case 0:
		return w.One(api.EZero, api.KI32, w.expr(kind, deep))
	case 1:
		return w.Two(w.pick(api.EApart, api.ESame), api.KI32, w.pointer(deep), w.pointer(deep))
	case 2:
		return w.Load(api.KI32, w.place(api.KI32, deep))
	}
	if kind == api.KPtr {
		kind = api.KI32
	}
	return w.Two(w.pick(api.EEq, api.ELess), api.KI32, w.expr(kind, deep), w.expr(kind, deep))
}

func (w *whatever) stmt() {
	kind := w.pick(ScalarKinds()...)
	deep := w.upTo(w.plan.Deep)
	switch n := w.upTo(19); {
	case n < 2 && w.plan.Reads && kind != api.KPtr:
		w.Read(w.place(kind, deep), kind)
	case n < 5 && w.inner < api.MaxNest:
		w.branch(deep)
	case n < 8 && w.plan.Loops && w.inner < api.MaxNest:
		w.loop(deep)
	case n < 10 && len(w.fresh) > 0 && w.looped == 0:
		w.New(w.place(api.KPtr, 0), w.fresh[0])
		w.fresh = w.fresh[1:]
	case n < 11 && w.plan.News:
		w.Free(w.pointer(deep))
	case n < 12 && w.wild():
		w.Stop()
	default:
		w.Set(w.place(kind, deep), kind, w.expr(kind, deep))
	}
}

func (w *whatever) branch(deep int) {
	w.inner++
	w.If(w.question(deep), w.some, w.some)
	w.inner--
}

func (w *whatever) some() {
	for range w.upTo(3) {
		if w.room() {
			w.stmt()
		}
	}
}

// loop is most often one that counts.
func (w *whatever) loop(deep int) {
	s := w.slot(api.KI32)
	w.inner++
	w.looped++
	defer func() { w.inner--; w.looped-- }()
	if w.wild() || s.kind != api.KI32 {
		w.While(w.question(deep), w.some)
		return
	}
	w.Set(w.addr(s.block, s.off), api.KI32, w.Num(api.KI32, w.upTo(2)))
	old := w.Load(api.KI32, w.addr(s.block, s.off))
	w.While(w.Two(api.ELess, api.KI32, old, w.Num(api.KI32, w.upTo(6))), func() {
		w.some()
		next := w.Two(api.EAdd, api.KI32, w.Load(api.KI32, w.addr(s.block, s.off)), w.Num(api.KI32, w.upTo(1)+1))
		w.Set(w.addr(s.block, s.off), api.KI32, next)
	})
}
