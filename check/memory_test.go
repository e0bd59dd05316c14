package check_test

import (
	"fmt"
	"slices"
	"testing"

	"cellar/api"
	"cellar/check"
	"cellar/samples"
	"cellar/tree"
)

// more are texts with lists of all kinds, beside those of samples.
func more() []string {
	return append(samples.Texts(),
		"var a:struct{x:u8;y:u8[2];z:struct{x:u8;y:ptr;};};var p:ptr;new p,3;new a.z.y,4;if !a.x { stop; stop; stop; } else { stop; if 1:i32 { stop; } else { stop; stop; } } while 1:i32 { stop; stop; stop; }")
}

// lists are all lists of numbers that a program has.
func lists(p api.Program) [][]int {
	l := [][]int{p.Vars, p.News, p.Main}
	for _, s := range p.Stmts {
		l = append(l, s.Body, s.Else)
	}
	return l
}

func spoilNumbers(l []int) {
	l = l[:cap(l)]
	for i := range l {
		l[i] = 77
	}
}

// R2: a program is new memory, spare room too; no two lists of it share any.
func TestNewMemory(t *testing.T) {
	for _, s := range more() {
		l, _, _ := tree.Parse(s)
		want, e := check.Program(l, little)
		if e != api.OK {
			t.Fatalf("Program(%q) = %d", s, e)
		}
		old := short(want)
		for i := range lists(want) {
			p, _ := check.Program(l, little)
			spoilNumbers(lists(p)[i])
			for k, other := range lists(p) {
				if k != i && !slices.Equal(other, lists(want)[k]) {
					t.Errorf("%q: lists %d and %d share", s, i, k)
				}
			}
		}
		p, _ := check.Program(l, little)
		exprs, stmts := p.Exprs[:cap(p.Exprs)], p.Stmts[:cap(p.Stmts)]
		clear(exprs)
		clear(stmts)
		again, _ := check.Program(l, little)
		if short(want) != old || short(again) != old {
			t.Errorf("%q: %s and %s share with what was told; want %s", s, short(want), short(again), old)
		}
	}
}

// R2: types are new memory, too, and what is handed in stays, with its spare room.
func TestNewTypes(t *testing.T) {
	for _, s := range more() {
		l, _, _ := tree.Parse(s)
		for i, n := range l {
			l[i].Parts = append(make([]int, 0, len(n.Parts)+3), n.Parts...)
		}
		room := append(make([]api.Node, 0, len(l)+3), l...)
		old := fmt.Sprint(room)
		want, wantVars, _ := check.Types(room)
		told := shortTypes(want)
		for i := range want {
			types, vars, _ := check.Types(room)
			spoilNumbers(types[i].Parts)
			spoilNumbers(vars)
			names := types[i].Names[:cap(types[i].Names)]
			for k := range names {
				names[k] = "spoilt"
			}
			for k, x := range types {
				if k != i && shortType(x) != shortType(want[k]) {
					t.Errorf("%q: types %d and %d share", s, i, k)
				}
			}
			clear(types[:cap(types)])
		}
		check.Program(room, little)
		again, vars, _ := check.Types(room)
		if shortTypes(want) != told || shortTypes(again) != told || !slices.Equal(vars, wantVars) {
			t.Errorf("%q: %s and %s share with what was told; want %s", s, shortTypes(want), shortTypes(again), told)
		}
		if fmt.Sprint(room) != old {
			t.Errorf("%s was changed to %v", old, room)
		}
		for _, n := range room {
			if spare := n.Parts[len(n.Parts):cap(n.Parts)]; slices.ContainsFunc(spare, func(i int) bool { return i != 0 }) {
				t.Errorf("spare room was written: %v", spare)
			}
		}
		for _, n := range room[len(room):cap(room)] {
			if n.Op != 0 || n.Name != "" || n.N != 0 || n.Parts != nil {
				t.Errorf("spare room was written: %v", n)
			}
		}
	}
}

// R1: the same, whoever calls at the same time.
func TestTogether(t *testing.T) {
	const s = "var a:struct{x:u8;y:ptr;};var i:i32;while (i<9:i32) { if !a.x { free a.y; } else { a.y=&i; } }"
	l, _, _ := tree.Parse(s)
	want, _ := check.Read(s, little)
	types, _, _ := check.Types(l)
	samples.Together(func() {
		p, e := check.Program(l, little)
		q, f := check.Read(s, little)
		if !same(p, want) || !same(q, want) || e != api.OK || f != api.OK {
			t.Errorf("Program = %s, %d; Read = %s, %d", short(p), e, short(q), f)
		}
		if x, vars, e := check.Types(l); shortTypes(x) != shortTypes(types) || !slices.Equal(vars, []int{2, 3}) || e != api.OK {
			t.Errorf("Types = %s, %v, %d", shortTypes(x), vars, e)
		}
		if p, e := check.Read("free nope; n=256:u8;", little); !isNothing(p) || e != api.ErrName {
			t.Errorf("Read = %s, %d", short(p), e)
		}
	})
}
