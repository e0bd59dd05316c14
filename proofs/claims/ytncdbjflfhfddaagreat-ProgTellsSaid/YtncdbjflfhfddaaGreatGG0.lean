/- Package prog: the way through all statements, in memory. -/
import Derived.Test.YtncdbjflfhfddaaGreatGL
import Derived.Laws.LoneSync
import Derived.Laws.NewBlocks
namespace Go.Proofs.YtncdbjflfhfddaaGreat
open Go.ChangeShapes Go.WideShapes Go.ChangeAt Go.RowKit Go.Joins Go.Deep
set_option linter.unusedVariables false

def intA (l : List Int) : Array Value := (l.map fun x => Value.int .i64 x).toArray
def boolA (l : List Bool) : Array Value := (l.map Value.bool).toArray
theorem intA_size (l : List Int) : (intA l).size = l.length := by simp [intA]
theorem boolA_size (l : List Bool) : (boolA l).size = l.length := by simp [boolA]
theorem intA_get {l : List Int} {i : Nat} {x : Int} (h : l[i]? = some x) : (intA l)[i]? = some (.int .i64 x) := by simp [intA, h]
theorem boolA_get {l : List Bool} {i : Nat} {x : Bool} (h : l[i]? = some x) : (boolA l)[i]? = some (.bool x) := by simp [boolA, h]
theorem intA_set (l : List Int) (i : Nat) (x : Int) : (intA l).set! i (.int .i64 x) = intA (l.set i x) := by
  refine Array.toList_inj.1 ?_
  simp [intA, Array.set!_eq_setIfInBounds, List.map_set]
theorem boolA_set (l : List Bool) (i : Nat) (x : Bool) : (boolA l).set! i (.bool x) = boolA (l.set i x) := by
  refine Array.toList_inj.1 ?_
  simp [boolA, Array.set!_eq_setIfInBounds, List.map_set]

def pgC (P : PX) (v1 v2 v3 v4 v5 : Value) (dn st met : Int) (ord : Bool) (inn mad : Value) : Array Value :=
  #[.bool P.big, .int .i64 P.ptr, v1, v2, v3, v4, v5, .int .u32 dn, .int .i32 st, .int .u32 0, .int .i32 met, .bool ord, inn, mad]
/-- where a program lies, and what came in -/
structure GoCx (w0 : World) (pb ib mb : Nat) (P : PX) (v1 v2 v3 v4 v5 : Value) : Prop where
  hpb : w0.heap.size = pb
  pr : IsPr w0 v1 v2 v3 v4 v5 P
  h1 : pb < ib
  h2 : ib < mb
  hs : P.sts.length ≤ 40
  hv : P.vars.length ≤ 4
  hn : P.news.length ≤ 2
  new : NewOK P
structure GoAt (w0 w : World) (pb ib mb : Nat) (P : PX) (v1 v2 v3 v4 v5 : Value) (dn st : Int) (ord : Bool) (G : GS) : Prop where
  cells : At w pb (pgC P v1 v2 v3 v4 v5 dn st (G.met : Nat) ord (.slice (some ⟨ib, 0, none⟩) P.sts.length P.sts.length) (.slice (some ⟨mb, 0, none⟩) (1 + P.vars.length + P.news.length) (1 + P.vars.length + P.news.length))) 89
  inn : At w ib (intA G.inner) 3
  mad : At w mb (boolA G.made) 4
  below : Below pb w0 w
  li : G.inner.length = P.sts.length
  lm : G.made.length = 1 + P.vars.length + P.news.length
  met : G.met ≤ P.sts.length
section
variable {w0 w w' : World} {pb ib mb : Nat} {P : PX} {v1 v2 v3 v4 v5 : Value} {dn st : Int} {ord : Bool} {G : GS}
theorem GoCx.at (h : GoCx w0 pb ib mb P v1 v2 v3 v4 v5) (hb : Below pb w0 w) : IsPr w v1 v2 v3 v4 v5 P := h.pr.below (by rw [h.hpb]; exact hb)
theorem GoAt.cell (h : GoAt w0 w pb ib mb P v1 v2 v3 v4 v5 dn st ord G) (j : Nat) {x : Value} (hx : (pgC P v1 v2 v3 v4 v5 dn st (G.met : Nat) ord (.slice (some ⟨ib, 0, none⟩) P.sts.length P.sts.length) (.slice (some ⟨mb, 0, none⟩) (1 + P.vars.length + P.news.length) (1 + P.vars.length + P.news.length)))[j]? = some x) : w.cell? ⟨pb, j, none⟩ = some x := h.cells.cell j hx
theorem GoAt.bel (h : GoAt w0 w pb ib mb P v1 v2 v3 v4 v5 dn st ord G) (hb : Below w.heap.size w w') : GoAt w0 w' pb ib mb P v1 v2 v3 v4 v5 dn st ord G :=
  ⟨At.below' hb h.cells, At.below' hb h.inn, At.below' hb h.mad, h.below.trans (hb.mono (Nat.le_of_lt h.cells.lt)), h.li, h.lm, h.met⟩
theorem GoAt.addMet (hx : GoCx w0 pb ib mb P v1 v2 v3 v4 v5) (h : GoAt w0 w pb ib mb P v1 v2 v3 v4 v5 dn st ord G) (hm : G.met < P.sts.length) : GoAt w0 (w.setCell ⟨pb, 10, none⟩ (.int .i32 ((G.met : Int) + 1))) pb ib mb P v1 v2 v3 v4 v5 dn st ord { G with met := G.met + 1 } :=
  ⟨At.set h.cells 10 (.int .i32 ((G.met : Int) + 1)) (by simp [pgC]), (Below.heap_setCell w ⟨pb, 10, none⟩ _ ib (Nat.ne_of_gt hx.h1)).trans h.inn, (Below.heap_setCell w ⟨pb, 10, none⟩ _ mb (Nat.ne_of_gt (Nat.lt_trans hx.h1 hx.h2))).trans h.mad, h.below.setCell (p := ⟨pb, 10, none⟩) (Nat.le_refl _) _, h.li, h.lm, hm⟩
theorem heap_setCell_lt (w : World) (b j c : Nat) (x : Value) (hc : c ≠ b) : (w.setCell ⟨b, j, none⟩ x).heap[c]? = w.heap[c]? := by
  simp only [World.setCell]
  rw [Array.getElem?_modify]
  simp [Ne.symm hc]
theorem GoAt.setInn (hx : GoCx w0 pb ib mb P v1 v2 v3 v4 v5) (h : GoAt w0 w pb ib mb P v1 v2 v3 v4 v5 dn st ord G) (j : Nat) (x : Int) (hj : j < P.sts.length) : GoAt w0 (w.setCell ⟨ib, j, none⟩ (.int .i64 x)) pb ib mb P v1 v2 v3 v4 v5 dn st ord { G with inner := G.inner.set j x } :=
  ⟨(heap_setCell_lt w ib j pb _ (Nat.ne_of_lt hx.h1)).trans h.cells, by rw [← intA_set]; exact At.set h.inn j _ (by rw [intA_size, h.li]; exact hj), (heap_setCell_lt w ib j mb _ (Nat.ne_of_gt hx.h2)).trans h.mad, h.below.setCell (p := ⟨ib, j, none⟩) (Nat.le_of_lt hx.h1) _, by simpa using h.li, h.lm, h.met⟩
theorem GoAt.setMad (hx : GoCx w0 pb ib mb P v1 v2 v3 v4 v5) (h : GoAt w0 w pb ib mb P v1 v2 v3 v4 v5 dn st ord G) (j : Nat) (x : Bool) (hj : j < 1 + P.vars.length + P.news.length) : GoAt w0 (w.setCell ⟨mb, j, none⟩ (.bool x)) pb ib mb P v1 v2 v3 v4 v5 dn st ord { G with made := G.made.set j x } :=
  ⟨(heap_setCell_lt w mb j pb _ (Nat.ne_of_lt (Nat.lt_trans hx.h1 hx.h2))).trans h.cells, (heap_setCell_lt w mb j ib _ (Nat.ne_of_lt hx.h2)).trans h.inn, by rw [← boolA_set]; exact At.set h.mad j _ (by rw [boolA_size, h.lm]; exact hj), h.below.setCell (p := ⟨mb, j, none⟩) (Nat.le_of_lt (Nat.lt_trans hx.h1 hx.h2)) _, h.li, by simpa using h.lm, h.met⟩
end
/-- only three blocks have turned, and new ones have come -/
structure Bk (pb ib mb : Nat) (w w' : World) : Prop where
  b : Below pb w w'
  k : ∀ c, c < w.heap.size → c ≠ pb → c ≠ ib → c ≠ mb → w'.heap[c]? = w.heap[c]?
theorem Bk.refl (pb ib mb : Nat) (w : World) : Bk pb ib mb w w := ⟨Below.refl _ _, fun _ _ _ _ _ => rfl⟩
theorem Bk.trans {pb ib mb : Nat} {w w' w'' : World} (h : Bk pb ib mb w w') (h2 : Bk pb ib mb w' w'') : Bk pb ib mb w w'' :=
  ⟨h.b.trans h2.b, fun c hc a1 a2 a3 => (h2.k c (Nat.lt_of_lt_of_le hc h.b.size) a1 a2 a3).trans (h.k c hc a1 a2 a3)⟩
theorem Bk.below {pb ib mb : Nat} {w w' : World} (h : Below w.heap.size w w') (hp : pb ≤ w.heap.size) : Bk pb ib mb w w' := ⟨h.mono hp, fun c hc _ _ _ => h.block c hc⟩
theorem Bk.set {pb ib mb : Nat} (h1 : pb < ib) (h2 : ib < mb) {b : Nat} (hb : b = pb ∨ b = ib ∨ b = mb) (w : World) (j : Nat) (x : Value) : Bk pb ib mb w (w.setCell ⟨b, j, none⟩ x) :=
  ⟨(Below.refl pb w).setCell (p := ⟨b, j, none⟩) (by show pb ≤ b; omega) _, fun c _ a1 a2 a3 => heap_setCell_lt w b j c x (by rcases hb with rfl | rfl | rfl <;> assumption)⟩
theorem Bk.at {pb ib mb : Nat} {w w' : World} (h : Bk pb ib mb w w') {b : Nat} {cs : Array Value} {t : TypeId} (ha : At w b cs t) (a1 : b ≠ pb) (a2 : b ≠ ib) (a3 : b ≠ mb) : At w' b cs t := (h.k b ha.lt a1 a2 a3).trans ha
set_option maxRecDepth 100000 in
theorem add32 (rb off : Nat) (c : Int) (hc : 0 ≤ c ∧ c ≤ 2000) (w : World) (h4 : w.cell? ⟨rb, off, none⟩ = some (.int .i32 c)) (f4 : w.frozen? ⟨rb, off, none⟩ = false) :
    Calls Tryz.prog 77 #[.pointer (some ⟨rb, off, none⟩), .int .i32 1] w fun e w' => e = .returned (.int .i32 (c + 1)) ∧ w' = w.setCell ⟨rb, off, none⟩ (.int .i32 (c + 1)) := by
  have iw : IntKind.i32.wrap (c + 1) = c + 1 := by simp [IntKind.wrap, IntKind.bits, IntKind.signed]; omega
  have hadd := run_call_add (P := Tryz.prog) Tryz.func88 (by kernel_rfl) (by kernel_rfl) (by kernel_rfl) .i32 (by kernel_rfl) (y := 1) (s := c + 1) h4 f4 (by simp [go_sem, iw])
  go_enter Tryz.func77, Tryz.ntmps77
  go_wp2
  go_ret
  exact ⟨rfl, rfl⟩
set_option maxRecDepth 100000 in
theorem load32 (rb off : Nat) (c : Int) (w : World) (h4 : w.cell? ⟨rb, off, none⟩ = some (.int .i32 c)) :
    Calls Tryz.prog 79 #[.pointer (some ⟨rb, off, none⟩)] w fun e w' => e = .returned (.int .i32 c) ∧ w = w' := by
  have hl := run_call_load (P := Tryz.prog) Tryz.func89 (by kernel_rfl) (by kernel_rfl) (by kernel_rfl) .i32 (by kernel_rfl) h4
  go_enter Tryz.func79, Tryz.ntmps79
  go_wp2
  go_ret
  exact ⟨rfl, rfl⟩
theorem gNext_any (pb : Nat) (m : Nat) (hm : m ≤ 40) (w : World) (h : w.cell? ⟨pb, 10, none⟩ = some (.int .i32 (m : Nat))) : Calls Tryz.prog 62 #[.pointer (some ⟨pb, 0, none⟩)] w fun e w' => e = .returned (.int .i64 (m : Nat)) ∧ w = w' := by
  have cL := fun w h => load32 pb 10 (m : Nat) w h
  have iw : IntKind.i64.wrap (m : Int) = m := by rw [IntKind.wrap_i64]; omega
  go_enter Tryz.func62, Tryz.ntmps62
  go_wp2_with (go_at_call 79; (with_reducible refine (cL _ h).mono ?_); rintro e w' ⟨rfl, rfl⟩)
  go_ret
  exact ⟨rfl, rfl⟩
def MakesP (w0 w : World) (pb ib mb : Nat) (P : PX) (v1 v2 v3 v4 v5 : Value) (dn st : Int) (ord : Bool) (G : GS) (n : Nat) (e : Ending) (w' : World) : Prop :=
  e = .returned (.bool (!(G.made.getD n true))) ∧ GoAt w0 w' pb ib mb P v1 v2 v3 v4 v5 dn st ord { G with made := G.made.set n true } ∧ Bk pb ib mb w w'
set_option maxHeartbeats 800000 in
theorem gMakes_any (w0 w : World) (pb ib mb : Nat) (P : PX) (v1 v2 v3 v4 v5 : Value) (dn st : Int) (ord : Bool) (G : GS) (n : Nat) (hn : n < 1 + P.vars.length + P.news.length)
    (hx : GoCx w0 pb ib mb P v1 v2 v3 v4 v5) (h : GoAt w0 w pb ib mb P v1 v2 v3 v4 v5 dn st ord G) :
    Calls Tryz.prog 78 #[.pointer (some ⟨pb, 0, none⟩), .int .i64 (n : Nat)] w (MakesP w0 w pb ib mb P v1 v2 v3 v4 v5 dn st ord G n) := by
  have h13 : w.cell? ⟨pb, 13, none⟩ = some (.slice (some ⟨mb, 0, none⟩) (1 + P.vars.length + P.news.length) (1 + P.vars.length + P.news.length)) := h.cell 13 rfl
  obtain ⟨b, hb⟩ : ∃ b, G.made[n]? = some b := ⟨_, List.getElem?_eq_getElem (by rw [h.lm]; exact hn)⟩
  have hbd : G.made.getD n true = b := by rw [List.getD_eq_getElem?_getD, hb]; rfl
  have hc := h.mad.cell n (boolA_get hb)
  have hf := At.free h.mad n
  have fin : MakesP w0 w pb ib mb P v1 v2 v3 v4 v5 dn st ord G n (.returned (.bool (!b))) (w.setCell ⟨mb, n, none⟩ (.bool true)) := ⟨by rw [hbd], h.setMad hx n true hn, Bk.set hx.h1 hx.h2 (Or.inr (Or.inr rfl)) _ _ _⟩
  have hj : (n : Int) < ((1 + P.vars.length + P.news.length : Nat) : Int) := by omega
  generalize 1 + P.vars.length + P.news.length = m at *
  have FIN := Lib.hid fin
  clear fin h hx hb hbd
  go_enter Tryz.func78, Tryz.ntmps78
  go_wp2
  go_ret
  exact FIN.out
end Go.Proofs.YtncdbjflfhfddaaGreat
