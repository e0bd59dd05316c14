/- Package tree: a reader in memory. -/
import Derived.Test.YtkhklndmbfbnoaaGreatDoorTStep
import Derived.Test.YtkhklndmbfbnoaaGreatDoorLToks
import Derived.Test.YtkhklndmbfbnoaaGreatDoorLCutA
import Derived.Deep.Cut
import Derived.Deep.CutRange
import Derived.Deep.RegionLaw
import Derived.Deep.AppendLies
import Derived.Deep.RegionHeld3
namespace Go.Proofs.YtkhklndmbfbnoaaGreatDoor
open Go.ChangeShapes Go.WideShapes Go.ChangeAt Go.RowKit Go.Joins Go.Deep
set_option linter.unusedVariables false

/-- a block alone is another -/
def Onl (rb : Nat) (w w' : World) : Prop := Below rb w w' ∧ ∀ b, b ≠ rb → b < w.heap.size → w'.heap[b]? = w.heap[b]?
theorem Onl.refl (rb : Nat) (w : World) : Onl rb w w := ⟨Below.refl _ _, fun _ _ _ => rfl⟩
theorem Onl.trans {rb : Nat} {a b c : World} (h : Onl rb a b) (k : Onl rb b c) : Onl rb a c :=
  ⟨h.1.trans k.1, fun i hi hl => (k.2 i hi (by have := h.1.size; omega)).trans (h.2 i hi hl)⟩
theorem Onl.of {rb : Nat} {w w' : World} (h : Below w.heap.size w w') (hr : rb ≤ w.heap.size) : Onl rb w w' := ⟨h.mono hr, fun b _ hb => h.block b hb⟩
theorem Onl.at {rb : Nat} {w w' : World} (h : Onl rb w w') {b : Nat} {cs : Array Value} {t : TypeId} (hA : At w b cs t) (hb : b ≠ rb) : At w' b cs t := (h.2 b hb hA.lt).trans hA
theorem Onl.set {rb : Nat} {a w : World} (h : Onl rb a w) (i : Nat) (u : Value) : Onl rb a (w.setCell ⟨rb, i, none⟩ u) :=
  ⟨h.1.setCell (p := ⟨rb, i, none⟩) (Nat.le_refl _) u, fun b hb hl => (Below.heap_setCell w ⟨rb, i, none⟩ u b hb).trans (h.2 b hb hl)⟩
theorem Onl.drew {rb : Nat} {a w : World} (h : Onl rb a w) : Onl rb a w.drew := ⟨h.1.drew, h.2⟩
theorem Onl.alloc {rb : Nat} {a w : World} (h : Onl rb a w) (hr : rb ≤ w.heap.size) (o : Obj) : Onl rb a (w.alloc o) :=
  ⟨h.1.alloc hr o, fun b hb hl => (Below.heap_alloc w o b (by have := h.1.size; omega)).trans (h.2 b hb hl)⟩
/-- all but a reader and its row of nodes is as it was -/
def Trn (rb : Nat) (g g' : Option Nat) (w w' : World) : Prop := Below rb w w' ∧ (∀ b, b < w.heap.size → b ≠ rb → g ≠ some b → w'.heap[b]? = w.heap[b]?) ∧ (g' = g ∨ ∃ b, g' = some b ∧ w.heap.size ≤ b)
theorem Trn.refl (rb : Nat) (g : Option Nat) (w : World) : Trn rb g g w w := ⟨Below.refl _ _, fun _ _ _ _ => rfl, Or.inl rfl⟩
theorem Trn.of {rb : Nat} {g : Option Nat} {w w' : World} (h : Onl rb w w') : Trn rb g g w w' := ⟨h.1, fun b hb hr _ => h.2 b hr hb, Or.inl rfl⟩
theorem Trn.trans {rb : Nat} {g g1 g2 : Option Nat} {a b c : World} (h : Trn rb g g1 a b) (k : Trn rb g1 g2 b c) : Trn rb g g2 a c := by
  obtain ⟨h1, h2, h3⟩ := h
  obtain ⟨k1, k2, k3⟩ := k
  have hs := h1.size
  refine ⟨h1.trans k1, fun i hi hr hg => ?_, ?_⟩
  · rw [k2 i (by omega) hr ?_, h2 i hi hr hg]
    rcases h3 with rfl | ⟨j, rfl, hj⟩
    · exact hg
    · intro e; cases e; omega
  · rcases k3 with rfl | ⟨j, rfl, hj⟩
    · exact h3
    · exact Or.inr ⟨j, rfl, by omega⟩
theorem Trn.at {rb : Nat} {g g' : Option Nat} {w w' : World} (h : Trn rb g g' w w') {b : Nat} {cs : Array Value} {t : TypeId} (hA : At w b cs t) (hb : b ≠ rb) (hg : g ≠ some b) : At w' b cs t := (h.2.1 b hA.lt hb hg).trans hA
theorem Trn.far {rb : Nat} {g g' : Option Nat} {w w' : World} (h : Trn rb g g' w w') {b : Nat} (hb : b < w.heap.size) (hg : g ≠ some b) : g' ≠ some b := by
  rcases h.2.2 with rfl | ⟨j, rfl, hj⟩
  · exact hg
  · intro e; cases e; omega
/-- a node in memory: where its parts lie -/
structure NX where
  x : ND
  q : Option Addr
  c : Nat
abbrev txV (l : Tx) : Value := .string ⟨l.toArray⟩
def ndC (x : NX) : List Value := [.int .i64 x.x.op, txV x.x.name, .int .i64 x.x.n, .slice x.q x.x.ps.length x.c]
def ndV (x : NX) : Value := .agg #[.int .i64 x.x.op, txV x.x.name, .int .i64 x.x.n, .slice x.q x.x.ps.length x.c]
/-- its parts -/
def PsOK (F : Nat → Prop) (w : World) (base : Nat) (x : NX) : Prop := (x.x.ps = [] ∧ x.q = none ∧ x.c = 0) ∨ ((x.x.ps.length ≤ x.c ∧ x.x.ps.length ≤ maxLen) ∧ ∃ b cs, x.q = some ⟨b, 0, none⟩ ∧ base ≤ b ∧ ¬ F b ∧ At w b cs 3 ∧ ∀ i, i < x.x.ps.length → cs[i]? = some (.int .i64 (x.x.ps.getD i 0)))
def NRow (F : Nat → Prop) (w : World) (base : Nat) (nv : Value) (X : List NX) : Prop := w.ownsRow base 83 4 nv X.length (X.flatMap ndC) ∧ ∀ x ∈ X, PsOK F w base x
theorem PsOK.keep {F : Nat → Prop} {w w' : World} {base : Nat} {x : NX} (h : PsOK F w base x) (hk : ∀ b cs, At w b cs 3 → At w' b cs 3) : PsOK F w' base x := by
  rcases h with h | ⟨hc, b, cs, h1, h2, hf, h3, h4⟩
  · exact Or.inl h
  · exact Or.inr ⟨hc, b, cs, h1, h2, hf, hk _ _ h3, h4⟩
theorem at_other {w : World} {B g : Nat} {cs cs' : Array Value} {t t' : TypeId} (h : At w B cs t) (h' : At w g cs' t') (ht : t ≠ t') : B ≠ g := by
  rintro rfl
  have h1 := Option.some.inj (h.symm.trans h')
  simp only [Obj.cells.injEq] at h1
  exact ht h1.2.1
def rdC (fd : Value) (en : Nat) (s : RS) (md : Int) (nv : Value) : Array Value :=
  #[fd, .int .i64 (en : Nat), .int .i64 (s.k : Nat), .int .i64 (s.ar : Nat), .int .i32 md, nv, .int .u32 (if s.bad.isSome then 1 else 0), .int .i32 0, .int .u32 0, .int .i64 ((s.bad.getD (0, 0)).1 : Nat), .int .i64 (s.bad.getD (0, 0)).2]
/-- what a reader leaves alone: an elder world, and the blocks of the rows that are under way -/
structure Ctx where
  w : World
  F : Nat → Prop
/-- a reader: its words lie in an elder world -/
structure RdAt (w0 : Ctx) (fd : Value) (W : List (Tx × Nat)) (en : Nat) (w : World) (rb : Nat) (g : Option Nat) (s : RS) : Prop where
  mem : ∃ md nv X, At w rb (rdC fd en s md nv) 77 ∧ nv.ownBlock = g ∧ NRow w0.F w (rb + 1) nv X ∧ X.map NX.x = s.t ∧ 0 ≤ md ∧ md ≤ 301 ∧ (s.bad = none → md = (s.t.length : Nat))
  inv : Inv W s
  below : Below w0.w.heap.size w0.w w
  base : w0.w.heap.size ≤ rb
  toks : IsToks w0.w fd W
  room : s.ar ≤ 30
  short : ∀ k, (W.getD k ([], 0)).1.length ≤ 100000
  held : ∀ b, w0.F b → b < w.heap.size
section
variable {w0 : Ctx} {F : Nat → Prop} {w w' : World} {fd : Value} {W : List (Tx × Nat)} {en rb : Nat} {g : Option Nat} {s : RS}
theorem NRow.only {base : Nat} {nv : Value} {X : List NX} {cs : Array Value} (h : NRow F w base nv X) (hA : At w rb cs 77) (hO : Onl rb w w') : NRow F w' base nv X := by
  refine ⟨?_, fun x hx => (h.2 x hx).keep fun b cs' hb => hO.at hb (at_other hb hA (by decide))⟩
  have hs := h.1
  obtain ⟨hl, ⟨rfl, h0⟩ | ⟨k, cap, cur, rfl, hbb, hg, hn, hm, hc, hx⟩⟩ := hs
  · exact ⟨hl, Or.inl ⟨rfl, h0⟩⟩
  · exact ⟨hl, Or.inr ⟨k, cap, cur, rfl, hbb, hO.at (t := 83) hg (at_other (t := 83) hg hA (by decide)), hn, hm, hc, hx⟩⟩
theorem NRow.grow {base : Nat} {nv : Value} {X : List NX} (h : NRow F w base nv X) (hb : Below w.heap.size w w') : NRow F w' base nv X :=
  ⟨ownsRow_belowT h.1 hb, fun x hx => (h.2 x hx).keep fun b cs hA => At.below' hb hA⟩
theorem RdAt.grow (h : RdAt w0 fd W en w rb g s) (hb : Below w.heap.size w w') : RdAt w0 fd W en w' rb g s := by
  obtain ⟨⟨md, nv, X, h1, h2, h3, h4⟩, hi, hbl, hba, ht, hr, hsh, hhe⟩ := h
  exact ⟨⟨md, nv, X, At.below' hb h1, h2, h3.grow hb, h4⟩, hi, hbl.trans (hb.mono hbl.size), hba, ht, hr, hsh, fun b h => Nat.lt_of_lt_of_le (hhe b h) hb.size⟩
theorem RdAt.lt (h : RdAt w0 fd W en w rb g s) : rb < w.heap.size := by obtain ⟨md, nv, X, h1, _⟩ := h.mem; exact h1.lt
theorem RdAt.onl (h : RdAt w0 fd W en w rb g s) (hb : Below w.heap.size w w') : Onl rb w w' := Onl.of hb (Nat.le_of_lt h.lt)
/-- the same reader, gone on -/
theorem RdAt.next (h : RdAt w0 fd W en w rb g s) {s' : RS} (hi : Inv W s') (ht : s'.t = s.t) (hg : s'.bad = none → s.bad = none) (hr : s'.ar ≤ 30) (hO : Onl rb w w') (hA : ∀ md nv, At w rb (rdC fd en s md nv) 77 → At w' rb (rdC fd en s' md nv) 77) : RdAt w0 fd W en w' rb g s' := by
  obtain ⟨⟨md, nv, X, h1, h2, h3, h4, h5, h6, h7⟩, _, hbl, hba, htk, _, hsh, hhe⟩ := h
  exact ⟨⟨md, nv, X, hA md nv h1, h2, h3.only h1 hO, by rw [ht]; exact h4, h5, h6, fun hb => by rw [ht]; exact h7 (hg hb)⟩, hi, hbl.trans (hO.1.mono hba), hba, htk, hr, hsh, fun b h => Nat.lt_of_lt_of_le (hhe b h) hO.1.size⟩
theorem RdAt.toksW (h : RdAt w0 fd W en w rb g s) : IsToks w fd W := by
  obtain ⟨q, cap, h1, h2, h3⟩ := h.toks
  refine ⟨q, cap, h1, h2, fun hp => ?_⟩
  obtain ⟨k, h4, h5, h6, h7⟩ := h3 hp
  exact ⟨k, h4, by have := h.below.size; omega, h6, fun i hi => ⟨(h.below.cell (p := ⟨k, i * 2, none⟩) h5).trans (h7 i hi).1, (h.below.cell (p := ⟨k, i * 2 + 1, none⟩) h5).trans (h7 i hi).2⟩⟩
theorem RdAt.cells (h : RdAt w0 fd W en w rb g s) : ∃ md nv, At w rb (rdC fd en s md nv) 77 := by obtain ⟨md, nv, X, h1, _⟩ := h.mem; exact ⟨md, nv, h1⟩
end
/-- what a step tells that leaves the nodes alone -/
def NP (w0 : Ctx) (fd : Value) (W : List (Tx × Nat)) (en : Nat) (rb : Nat) (g : Option Nat) (v : Value) (s' : RS) (w : World) (e : Ending) (w' : World) : Prop := e = .returned v ∧ RdAt w0 fd W en w' rb g s' ∧ Onl rb w w'
/-- what a part of the grammar tells -/
def RP (w0 : Ctx) (fd : Value) (W : List (Tx × Nat)) (en : Nat) (rb : Nat) (g : Option Nat) (r : Int × RS) (w : World) (e : Ending) (w' : World) : Prop := ∃ g', e = .returned (.int .i64 r.1) ∧ RdAt w0 fd W en w' rb g' r.2 ∧ Trn rb g g' w w'
end Go.Proofs.YtkhklndmbfbnoaaGreatDoor
