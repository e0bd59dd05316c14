/- The document on programs: how statements stand, in memory. -/
import Derived.Test.YtncdbjflfhfddaaGreatGG0
namespace Go.Proofs.YtncdbjflfhfddaaGreat
open Go.ChangeShapes Go.WideShapes Go.ChangeAt Go.RowKit Go.Joins Go.Deep
set_option linter.unusedVariables false


def stC (P : PX) (v1 v2 v3 v4 v5 inn lop : Value) (seen : Int) (nws : Value) (brk : Bool) : Array Value :=
  #[.bool P.big, .int .i64 P.ptr, v1, v2, v3, v4, v5, inn, lop, .int .i64 seen, nws, .bool brk]
structure RCx (w0 : World) (wb ib lb nb : Nat) (P : PX) (v1 v2 v3 v4 v5 : Value) : Prop where
  pr : IsPr w0 v1 v2 v3 v4 v5 P
  gw : w0.heap.size ≤ wb
  gi : w0.heap.size ≤ ib
  gl : w0.heap.size ≤ lb
  gn : w0.heap.size ≤ nb
  d1 : wb ≠ ib
  d2 : wb ≠ lb
  d3 : wb ≠ nb
  d4 : ib ≠ lb
  d5 : ib ≠ nb
  d6 : lb ≠ nb
  hs : P.sts.length ≤ 40
  hv : P.vars.length ≤ 4
  hn : P.news.length ≤ 2
  new : NewOK P
abbrev innV (ib n : Nat) : Value := .slice (some ⟨ib, 0, none⟩) n n
structure RAt (w0 w : World) (wb ib lb nb : Nat) (P : PX) (v1 v2 v3 v4 v5 : Value) (rs : RS) (brk : Bool) : Prop where
  cells : At w wb (stC P v1 v2 v3 v4 v5 (innV ib P.sts.length) (innV lb P.sts.length) (rs.seen : Nat) (innV nb P.news.length) brk) 69
  inn : At w ib (intA rs.inner) 3
  lop : At w lb (boolA rs.loop) 4
  nws : At w nb (boolA rs.news) 4
  below : Below w0.heap.size w0 w
  li : rs.inner.length = P.sts.length
  ll : rs.loop.length = P.sts.length
  ln : rs.news.length = P.news.length
  sl : (rs.seen : Int) ≤ rs.last + 1
  la : rs.last < (P.sts.length : Int)
structure Bq (wb ib lb nb base : Nat) (w w' : World) : Prop where
  b : Below base w w'
  k : ∀ c, c < w.heap.size → c ≠ wb → c ≠ ib → c ≠ lb → c ≠ nb → w'.heap[c]? = w.heap[c]?
theorem Bq.refl (wb ib lb nb base : Nat) (w : World) : Bq wb ib lb nb base w w := ⟨Below.refl _ _, fun _ _ _ _ _ _ => rfl⟩
theorem Bq.trans {wb ib lb nb base : Nat} {w w' w'' : World} (h : Bq wb ib lb nb base w w') (h2 : Bq wb ib lb nb base w' w'') : Bq wb ib lb nb base w w'' :=
  ⟨h.b.trans h2.b, fun c hc a1 a2 a3 a4 => (h2.k c (Nat.lt_of_lt_of_le hc h.b.size) a1 a2 a3 a4).trans (h.k c hc a1 a2 a3 a4)⟩
theorem Bq.below {wb ib lb nb base : Nat} {w w' : World} (h : Below w.heap.size w w') (hp : base ≤ w.heap.size) : Bq wb ib lb nb base w w' := ⟨h.mono hp, fun c hc _ _ _ _ => h.block c hc⟩
theorem Bq.drew {wb ib lb nb base : Nat} {w w' : World} (h : Bq wb ib lb nb base w w') : Bq wb ib lb nb base w w'.drew := ⟨h.b.drew, h.k⟩
theorem Bq.set {wb ib lb nb base b : Nat} {w w' : World} (h : Bq wb ib lb nb base w w') (hb : b = wb ∨ b = ib ∨ b = lb ∨ b = nb) (hg : base ≤ b) (j : Nat) (x : Value) : Bq wb ib lb nb base w (w'.setCell ⟨b, j, none⟩ x) :=
  ⟨h.b.setCell (p := ⟨b, j, none⟩) hg _, fun c hc a1 a2 a3 a4 => (heap_setCell_lt w' b j c x (by rcases hb with rfl | rfl | rfl | rfl <;> assumption)).trans (h.k c hc a1 a2 a3 a4)⟩
theorem Bq.at {wb ib lb nb base : Nat} {w w' : World} (h : Bq wb ib lb nb base w w') {b : Nat} {cs : Array Value} {t : TypeId} (ha : At w b cs t) (a1 : b ≠ wb) (a2 : b ≠ ib) (a3 : b ≠ lb) (a4 : b ≠ nb) : At w' b cs t := (h.k b ha.lt a1 a2 a3 a4).trans ha
section
variable {w0 w w' : World} {wb ib lb nb : Nat} {P : PX} {v1 v2 v3 v4 v5 : Value} {rs : RS} {brk : Bool}
theorem RCx.at (h : RCx w0 wb ib lb nb P v1 v2 v3 v4 v5) (hb : Below w0.heap.size w0 w) : IsPr w v1 v2 v3 v4 v5 P := h.pr.below hb
theorem RAt.bel (hx : RCx w0 wb ib lb nb P v1 v2 v3 v4 v5) (h : RAt w0 w wb ib lb nb P v1 v2 v3 v4 v5 rs brk) (hb : Below w.heap.size w w') : RAt w0 w' wb ib lb nb P v1 v2 v3 v4 v5 rs brk :=
  ⟨At.below' hb h.cells, At.below' hb h.inn, At.below' hb h.lop, At.below' hb h.nws, h.below.trans (hb.mono h.below.size), h.li, h.ll, h.ln, h.sl, h.la⟩
theorem RAt.drew (h : RAt w0 w wb ib lb nb P v1 v2 v3 v4 v5 rs brk) : RAt w0 w.drew wb ib lb nb P v1 v2 v3 v4 v5 rs brk :=
  ⟨h.cells.drew, h.inn.drew, h.lop.drew, h.nws.drew, h.below.drew, h.li, h.ll, h.ln, h.sl, h.la⟩
theorem RAt.other (hx : RCx w0 wb ib lb nb P v1 v2 v3 v4 v5) (h : RAt w0 w wb ib lb nb P v1 v2 v3 v4 v5 rs brk) (hb : ∀ c, c = wb ∨ c = ib ∨ c = lb ∨ c = nb → w'.heap[c]? = w.heap[c]?) (hw : Below w0.heap.size w0 w') : RAt w0 w' wb ib lb nb P v1 v2 v3 v4 v5 rs brk :=
  ⟨(hb wb (Or.inl rfl)).trans h.cells, (hb ib (Or.inr (Or.inl rfl))).trans h.inn, (hb lb (Or.inr (Or.inr (Or.inl rfl)))).trans h.lop, (hb nb (Or.inr (Or.inr (Or.inr rfl)))).trans h.nws, hw, h.li, h.ll, h.ln, h.sl, h.la⟩
theorem RAt.setInn (hx : RCx w0 wb ib lb nb P v1 v2 v3 v4 v5) (h : RAt w0 w wb ib lb nb P v1 v2 v3 v4 v5 rs brk) (j : Nat) (x : Int) (hj : j < P.sts.length) : RAt w0 (w.setCell ⟨ib, j, none⟩ (.int .i64 x)) wb ib lb nb P v1 v2 v3 v4 v5 { rs with inner := rs.inner.set j x } brk :=
  ⟨(heap_setCell_lt w ib j wb _ hx.d1).trans h.cells, by rw [← intA_set]; exact At.set h.inn j _ (by rw [intA_size, h.li]; exact hj), (heap_setCell_lt w ib j lb _ hx.d4.symm).trans h.lop, (heap_setCell_lt w ib j nb _ hx.d5.symm).trans h.nws, h.below.setCell (p := ⟨ib, j, none⟩) hx.gi _, by simpa using h.li, h.ll, h.ln, h.sl, h.la⟩
theorem RAt.setLop (hx : RCx w0 wb ib lb nb P v1 v2 v3 v4 v5) (h : RAt w0 w wb ib lb nb P v1 v2 v3 v4 v5 rs brk) (j : Nat) (x : Bool) (hj : j < P.sts.length) : RAt w0 (w.setCell ⟨lb, j, none⟩ (.bool x)) wb ib lb nb P v1 v2 v3 v4 v5 { rs with loop := rs.loop.set j x } brk :=
  ⟨(heap_setCell_lt w lb j wb _ hx.d2).trans h.cells, (heap_setCell_lt w lb j ib _ hx.d4).trans h.inn, by rw [← boolA_set]; exact At.set h.lop j _ (by rw [boolA_size, h.ll]; exact hj), (heap_setCell_lt w lb j nb _ hx.d6.symm).trans h.nws, h.below.setCell (p := ⟨lb, j, none⟩) hx.gl _, h.li, by simpa using h.ll, h.ln, h.sl, h.la⟩
theorem RAt.setNws (hx : RCx w0 wb ib lb nb P v1 v2 v3 v4 v5) (h : RAt w0 w wb ib lb nb P v1 v2 v3 v4 v5 rs brk) (j : Nat) (x : Bool) (hj : j < P.news.length) : RAt w0 (w.setCell ⟨nb, j, none⟩ (.bool x)) wb ib lb nb P v1 v2 v3 v4 v5 { rs with news := rs.news.set j x } brk :=
  ⟨(heap_setCell_lt w nb j wb _ hx.d3).trans h.cells, (heap_setCell_lt w nb j ib _ hx.d5).trans h.inn, (heap_setCell_lt w nb j lb _ hx.d6).trans h.lop, by rw [← boolA_set]; exact At.set h.nws j _ (by rw [boolA_size, h.ln]; exact hj), h.below.setCell (p := ⟨nb, j, none⟩) hx.gn _, h.li, h.ll, by simpa using h.ln, h.sl, h.la⟩
theorem RAt.setBrk (hx : RCx w0 wb ib lb nb P v1 v2 v3 v4 v5) (h : RAt w0 w wb ib lb nb P v1 v2 v3 v4 v5 rs brk) (b : Bool) : RAt w0 (w.setCell ⟨wb, 11, none⟩ (.bool b)) wb ib lb nb P v1 v2 v3 v4 v5 rs b :=
  ⟨At.set h.cells 11 (.bool b) (by simp [stC]), (heap_setCell_lt w wb 11 ib _ hx.d1.symm).trans h.inn, (heap_setCell_lt w wb 11 lb _ hx.d2.symm).trans h.lop, (heap_setCell_lt w wb 11 nb _ hx.d3.symm).trans h.nws, h.below.setCell (p := ⟨wb, 11, none⟩) hx.gw _, h.li, h.ll, h.ln, h.sl, h.la⟩
theorem RAt.setSeen (hx : RCx w0 wb ib lb nb P v1 v2 v3 v4 v5) (h : RAt w0 w wb ib lb nb P v1 v2 v3 v4 v5 rs brk) (x : Int) (hx1 : rs.last < x) (hx2 : x < (P.sts.length : Int)) : RAt w0 (w.setCell ⟨wb, 9, none⟩ (.int .i64 ((rs.seen : Int) + 1))) wb ib lb nb P v1 v2 v3 v4 v5 { rs with last := x, seen := rs.seen + 1 } brk :=
  ⟨At.set h.cells 9 (.int .i64 ((rs.seen : Int) + 1)) (by simp [stC]), (heap_setCell_lt w wb 9 ib _ hx.d1.symm).trans h.inn, (heap_setCell_lt w wb 9 lb _ hx.d2.symm).trans h.lop, (heap_setCell_lt w wb 9 nb _ hx.d3.symm).trans h.nws, h.below.setCell (p := ⟨wb, 9, none⟩) hx.gw _, h.li, h.ll, h.ln, by have := h.sl; show ((rs.seen + 1 : Nat) : Int) ≤ x + 1; omega, hx2⟩
end
end Go.Proofs.YtncdbjflfhfddaaGreat
