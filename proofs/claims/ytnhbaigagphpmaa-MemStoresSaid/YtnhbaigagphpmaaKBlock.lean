/- Package mem: a pointer's block; what goes wrong there. -/
import Derived.Test.YtnhbaigagphpmaaKHas
namespace Go.Proofs.Ytnhbaigagphpmaa
open Go.ChangeShapes Go.WideShapes Go.ChangeAt Go.RowKit Go.Joins Go.Deep
set_option linter.unusedVariables false

/-- a pointer to a block there is -/
def InM (m : List BK) (p : SC) : Prop := ∃ k : Nat, p.b = (k : Nat) ∧ k < m.length
theorem atM_eq {m : List BK} {p : SC} {k : Nat} (h : p.b = (k : Nat)) : atM m p = m.getD k default := by unfold atM; rw [h]; rfl
theorem InM.of {m : List BK} {p : SC} (h : hasM m p = true) : InM m p := by
  unfold hasM at h
  simp only [Bool.and_eq_true, decide_eq_true_eq] at h
  obtain ⟨hm, hp, hb⟩ := h
  obtain ⟨pp, pn, pb, po⟩ := p
  rw [mayS7, mayP_eq] at hp
  simp [upTo] at hp
  dsimp only at hb
  exact ⟨pb.toNat, by dsimp only; omega, by omega⟩
theorem block_any (rb : Nat) (q : Option Addr) (len cap : Nat) (m : List BK) (p : SC) (hp : InM m p) (w : World) (hx : IsMem w q len m) (h : MemDone w rb (.slice q len cap) m) :
    Calls Try.prog 70 #[.pointer (some ⟨rb, 0, none⟩), scV p] w fun e w' => e = .returned (bkV (atM m p)) ∧ Below w.heap.size w w' := by
  obtain ⟨k, hk, hkl⟩ := hp
  rw [atM_eq hk]
  obtain ⟨hl, hlen, hc⟩ := hx
  obtain ⟨b, off, rfl, hbb, hcells⟩ := hc (by omega)
  have hck := hcells k (by omega)
  generalize m.getD k default = x at *
  obtain ⟨s, xq, xc, ys⟩ := x
  obtain ⟨p0, p1, _, _⟩ := hck
  obtain ⟨pp, pn, pb, po⟩ := p
  dsimp only at hk p0 p1
  subst hk
  rw [scV_eq]
  unfold bkV
  dsimp only
  have hk3 : (k : Int) < (len : Int) := by omega
  have r0 : w.cell? ⟨rb, 0, none⟩ = some (.slice (some ⟨b, off, none⟩) len cap) := h.sl
  have c0 := cell_alloc (cell_alloc r0 (.cells #[.bool pp, .int .i64 pn, .int .i64 (k : Nat), .int .i64 po] 33)) (.cells #[.int .i64 0, .slice none 0 0] 97)
  have c1 := cell_alloc (cell_alloc p0 (.cells #[.bool pp, .int .i64 pn, .int .i64 (k : Nat), .int .i64 po] 33)) (.cells #[.int .i64 0, .slice none 0 0] 97)
  have c2 := cell_alloc (cell_alloc p1 (.cells #[.bool pp, .int .i64 pn, .int .i64 (k : Nat), .int .i64 po] 33)) (.cells #[.int .i64 0, .slice none 0 0] 97)
  generalize ys.length = n at *
  clear hcells hc hlen h r0 p0 p1
  go_enter Try.func70, Try.ntmps70
  go_wp2
  go_region
  all_goals
    go_wp2
    exact bodyPost_ret (v := .agg #[.int .i64 s, .slice xq n xc]) (by simp [results, Try.results70, go_sem]) rfl ⟨rfl, by
      first
        | exact below_box2 _ _ _
        | exact (below_box2 _ _ _).drew
        | (refine (((below_box2 _ _ _).drew).setCell ?_ _).setCell ?_ _ <;> simp)
        | (refine ((below_box2 _ _ _).setCell ?_ _).setCell ?_ _ <;> simp)⟩
theorem fld0 (x y : Value) (w : World) : (Instr.field 97 (.agg #[x, y]) 0).run Try.prog w = .ok x w := by simp [Instr.field, asAgg, part, sizeOf, typeInfo, go_sem]
theorem fld1 (x y : Value) (w : World) : (Instr.field 97 (.agg #[x, y]) 1).run Try.prog w = .ok y w := by simp [Instr.field, asAgg, part, sizeOf, typeInfo, go_sem]
set_option maxRecDepth 100000 in
theorem isAlive_any (rb : Nat) (q : Option Addr) (len cap : Nat) (m : List BK) (p : SC) (hp : InM m p) (w : World) (hx : IsMem w q len m) (h : MemDone w rb (.slice q len cap) m) :
    Calls Try.prog 69 #[.pointer (some ⟨rb, 0, none⟩), scV p] w fun e w' => e = .returned (.bool ((atM m p).st == 1)) ∧ Below w.heap.size w w' := by
  have hb1 := below_box1 w (.cells #[.bool p.p, .int .i64 p.n, .int .i64 p.b, .int .i64 p.o] 33)
  have cB := block_any rb q len cap m p hp _ (hx.below hb1) (MemDone.below h hb1 h.lt)
  have hf0 := fun x y w => fld0 x y w
  clear hx h
  generalize atM m p = x at *
  obtain ⟨s, xq, xc, ys⟩ := x
  obtain ⟨pp, pn, pb, po⟩ := p
  unfold bkV at cB
  rw [scV_eq] at *
  dsimp only at *
  generalize ys.length = n at *
  by_cases hs : s = 1
  · subst hs
    go_enter Try.func69, Try.ntmps69
    go_wp2_with fail
    refine cB.mono ?_
    rintro e w2 ⟨rfl, hb2⟩
    go_wp2
    go_ret
    exact ⟨rfl, hb1.trans (hb2.mono hb1.size)⟩
  · have t1 : (s == 1) = false := by rw [beq_eq_false_iff_ne]; exact hs
    rw [t1]
    clear hs
    go_enter Try.func69, Try.ntmps69
    go_wp2_with fail
    refine cB.mono ?_
    rintro e w2 ⟨rfl, hb2⟩
    go_wp2
    go_ret
    exact ⟨rfl, hb1.trans (hb2.mono hb1.size)⟩
end Go.Proofs.Ytnhbaigagphpmaa
