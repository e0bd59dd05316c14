/- Package mem: memory copied. -/
import Derived.Test.YtnhbaigagphpmaaKClone
namespace Go.Proofs.Ytnhbaigagphpmaa
open Go.ChangeShapes Go.WideShapes Go.ChangeAt Go.RowKit Go.Joins Go.Deep
set_option linter.unusedVariables false

def blkQ (q : Option Addr) : Nat := match q with | some a => a.block | none => 0
/-- the first j blocks' bytes are the call's own, each its own -/
def Owned (w : World) (base j : Nat) (m : List BK) : Prop :=
  (∀ i, i < j → OwnB w base (m.getD i default).q (m.getD i default).c (m.getD i default).ys) ∧
  (∀ i k, i < k → k < j → 0 < (m.getD i default).ys.length → 0 < (m.getD k default).ys.length → blkQ (m.getD i default).q < blkQ (m.getD k default).q)
theorem OwnB.below {w w' : World} {base C : Nat} {q : Option Addr} {c : Nat} {ys : List BY} (h : OwnB w base q c ys) (hb : Below C w w') (hC : 0 < ys.length → blkQ q < C) : OwnB w' base q c ys := by
  obtain ⟨a, b, d⟩ := h
  refine ⟨a, b, fun h0 => ?_⟩
  obtain ⟨g, rfl, hg, hr⟩ := d h0
  exact ⟨g, rfl, hg, hr.below hb (hC h0)⟩
theorem OwnB.lt {w : World} {base : Nat} {q : Option Addr} {c : Nat} {ys : List BY} (h : OwnB w base q c ys) (h0 : 0 < ys.length) : blkQ q < w.heap.size ∧ base ≤ blkQ q := by
  obtain ⟨g, rfl, hg, hr⟩ := h.2.2 h0
  exact ⟨hr.lt, hg⟩
theorem BRow.setOther {w : World} {g B i : Nat} {x : Value} {ys : List BY} (h : BRow w g ys) (hne : g ≠ B) : BRow (w.setCell ⟨B, i, none⟩ x) g ys := by
  obtain ⟨cs, h, h1⟩ := h
  exact ⟨cs, (Below.heap_setCell w ⟨B, i, none⟩ x g hne).trans h, h1⟩
theorem OwnB.setOther {w : World} {base B i : Nat} {x : Value} {q : Option Addr} {c : Nat} {ys : List BY} (h : OwnB w base q c ys) (hB : B < base) : OwnB (w.setCell ⟨B, i, none⟩ x) base q c ys := by
  obtain ⟨a, b, d⟩ := h
  refine ⟨a, b, fun h0 => ?_⟩
  obtain ⟨g, rfl, hg, hr⟩ := d h0
  exact ⟨g, rfl, hg, hr.setOther (by omega)⟩
/-- memory that is the call's own -/
def OwnMem (w : World) (base B : Nat) (m : List BK) : Prop := base ≤ B ∧ KRow w B m ∧ Owned w (B + 1) m.length m ∧ ∀ i, i < m.length → (m.getD i default).ys.length ≤ 1000
theorem OwnMem.isMem {w : World} {base B n : Nat} {m : List BK} (h : OwnMem w base B m) (hn : m.length = n) (hl : n ≤ 1000) : IsMem w (some ⟨B, 0, none⟩) n m := by
  obtain ⟨_, hk, ho, hle⟩ := h
  refine ⟨hl, hn, fun _ => ⟨B, 0, rfl, hk.lt, fun i hi => ?_⟩⟩
  have hc := hk.cells i (by omega)
  have hb := ho.1 i (by omega)
  rw [Nat.zero_add]
  refine ⟨hc.1, hc.2, ?_, hb.1, hb.2.1⟩
  rcases Nat.eq_zero_or_pos (m.getD i default).ys.length with h0 | h0
  · exact ⟨by omega, rfl, fun h => by omega⟩
  · obtain ⟨g, hq, _, hr⟩ := hb.2.2 h0
    rw [hq]
    exact hr.isBys rfl (hle i (by omega))
theorem OwnMem.below {w w' : World} {base B : Nat} {m : List BK} (h : OwnMem w base B m) (hb : Below w.heap.size w w') : OwnMem w' base B m := by
  obtain ⟨a, b, c, d⟩ := h
  exact ⟨a, b.below hb b.lt, ⟨fun i hi => (c.1 i hi).below hb fun h0 => ((c.1 i hi).lt h0).1, c.2⟩, d⟩
def RelCpy (m : List BK) (len B : Nat) (w0 : World) (v : Value) (wr : World) : Prop :=
  ∃ (j : Nat) (x : List BK), j ≤ len ∧ v = .int .i64 (j : Nat) ∧ x.length = len ∧ KRow wr B x ∧ (∀ i, i < len → datK (x.getD i default) = datK (m.getD i default)) ∧ (∀ i, j ≤ i → i < len → x.getD i default = m.getD i default) ∧ Owned wr (B + 1) j x ∧ Below w0.heap.size w0 wr
def CpyPost (m : List BK) (len : Nat) (w : World) (e : Ending) (w' : World) : Prop :=
  ∃ B cap x, e = .returned (.slice (some ⟨B, 0, none⟩) len cap) ∧ OwnMem w' w.heap.size B x ∧ datM x = datM m ∧ x.length = len ∧ len ≤ cap ∧ Below w.heap.size w w'
theorem datM_ext {x m : List BK} (hl : x.length = m.length) (h : ∀ i, i < m.length → datK (x.getD i default) = datK (m.getD i default)) : datM x = datM m := by
  unfold datM
  refine List.ext_getElem (by simp [hl]) fun i h1 h2 => ?_
  have h3 : i < m.length := by simpa using h2
  have h4 := h i h3
  simpa [List.getD, h3, hl] using h4
theorem set_self {x : List BK} {j : Nat} (hj : j < x.length) (v : BK) : (x.set j v).getD j default = v := by simp [List.getD, hj]
theorem set_other {x : List BK} {i j : Nat} (h : i ≠ j) (v : BK) : (x.set j v).getD i default = x.getD i default := by
  simp only [List.getD_eq_getElem?_getD]
  rw [List.getElem?_set_ne (by omega)]
/-- one block more is the call's own -/
theorem Owned.step {wr w2 : World} {B j : Nat} {x : List BK} {q : Option Addr} {c : Nat} {s : Value} (ho : Owned wr (B + 1) j x) (hj : j < x.length) (hB : B < wr.heap.size) (hb : Below wr.heap.size wr w2) (hq : OwnB w2 wr.heap.size q c (x.getD j default).ys) :
    Owned (w2.setCell ⟨B, j * 2 + 1, none⟩ s) (B + 1) (j + 1) (x.set j ⟨(x.getD j default).st, q, c, (x.getD j default).ys⟩) := by
  constructor
  · intro i hi
    by_cases e : i = j
    · subst e
      rw [set_self hj]
      obtain ⟨a, b, d⟩ := hq
      refine ⟨a, b, fun h0 => ?_⟩
      obtain ⟨g, hg, hge, hr⟩ := d h0
      exact ⟨g, hg, by omega, hr.setOther (by omega)⟩
    · rw [set_other e]
      have h1 := ho.1 i (by omega)
      exact (h1.below hb fun h0 => (h1.lt h0).1).setOther (Nat.lt_succ_self B)
  · intro i k hik hk hi0 hk0
    by_cases e : k = j
    · subst e
      rw [set_self hj] at hk0 ⊢
      rw [set_other (by omega)] at hi0 ⊢
      have h1 := (ho.1 i (by omega)).lt hi0
      have h2 := hq.lt hk0
      dsimp only
      omega
    · rw [set_other (by omega)] at hi0 ⊢
      rw [set_other e] at hk0 ⊢
      exact ho.2 i k hik (by omega) hi0 hk0
set_option maxRecDepth 100000 in
set_option maxHeartbeats 3200000 in
theorem copy_any (rb : Nat) (q : Option Addr) (len cap : Nat) (m : List BK) (h0 : 0 < len) (hle : ∀ i, i < len → (m.getD i default).ys.length ≤ 1000) (w : World) (hx : IsMem w q len m) (h : MemDone w rb (.slice q len cap) m) :
    Calls Try.prog 45 #[.pointer (some ⟨rb, 0, none⟩)] w (CpyPost m len w) := by
  have r0 : w.cell? ⟨rb, 0, none⟩ = some (.slice q len cap) := h.sl
  have cC := fun (q : Option Addr) l c ys w h hc => cloneB_any q l c ys w h hc
  have cK := cloneK_any q len cap m w hx h0
  have HX := Lib.hid hx
  have HLE := Lib.hid hle
  have hl1 := hx.1
  have hlen := hx.2.1
  have HL := Lib.hid hlen
  clear h hle hx hlen
  go_enter Try.func45, Try.ntmps45
  go_wp2_with fail
  refine cK.mono ?_
  rintro e w1 ⟨B, capB, rfl, hge, hK, hcapB, hb1⟩
  clear r0 cK
  go_wp2_with fail
  go_loopw [12] (fun v wr => RelCpy m len B w v wr) (fun v _ => len - (intOf v).toNat)
  case atStart => exact ⟨0, m, by omega, rfl, HL.out, hK, fun _ _ => rfl, fun _ _ _ => rfl, ⟨fun i hi => by omega, fun i k _ hk => by omega⟩, hb1⟩
  case round =>
    obtain ⟨j, x, hj, rfl, hxl, hKr, hdat, hrest, hown, hbr⟩ := hrel
    by_cases hlt : j < len
    · have hcell := hKr.cells j (by omega)
      have hfz := hKr.free (j * 2 + 1)
      have hxj := hrest j (Nat.le_refl _) hlt
      have hby : BkCells wr _ _ _ := ((HX.out.2.2 (by omega)).choose_spec.choose_spec.2.2 j hlt).below hbr
      have hys := hby.2.2.1
      have hqc := hby.2.2.2.2
      rw [← hxj] at hys hqc
      have hst := fun (w2 : World) (hK : KRow w2 B x) q c => hK.set j (by omega) q c
      have hBl := hKr.lt
      have hstep := fun w2 q c s hb hq => Owned.step (w2 := w2) (q := q) (c := c) (s := s) hown (by omega) hBl hb hq
      have hdj := hdat j hlt
      obtain ⟨xj, hxx⟩ : ∃ xj, xj = x.getD j default := ⟨_, rfl⟩
      rw [← hxx] at hcell hys hqc hst hstep
      obtain ⟨s, xq, xc, ys⟩ := xj
      dsimp only at hcell hys hqc hst hstep
      obtain ⟨p0, p1⟩ := hcell
      have hj3 : (j : Int) < (len : Int) := by omega
      have HXX := Lib.hid hxx
      have HYS := Lib.hid hys
      have HQC := Lib.hid hqc
      have HST := Lib.hid hst
      have HSTEP := Lib.hid hstep
      have HKr := Lib.hid hKr
      have HD := Lib.hid hdat
      have HR := Lib.hid hrest
      have HXL := Lib.hid hxl
      clear hxx hys hqc hst hstep hKr hdat hrest hxl hxj hby hdj hown
      generalize hLL : ys.length = L at *
      have HLL := Lib.hid hLL
      clear hLL
      go_wp2_with fail
      refine (cC _ _ _ _ _ HYS.out HQC.out).mono ?_
      rintro e w2 ⟨q2, c2, rfl, hq2, hb2⟩
      have hK2 := HKr.out.below hb2 hBl
      have p0' := cell_below p0 hb2
      have p1' := cell_below p1 hb2
      have f1' : w2.frozen? ⟨B, j * 2 + 1, none⟩ = false := hK2.free _
      have hB2 : w.heap.size ≤ B := hge
      have e1 := HST.out w2 hK2 q2 c2
      have e2 := HSTEP.out w2 q2 c2 (.slice q2 L c2) hb2 hq2
      have e3 := ((hbr.trans (hb2.mono hbr.size)).setCell (p := ⟨B, j * 2 + 1, none⟩) hge (.slice q2 L c2))
      have E1 := Lib.hid e1
      have E2 := Lib.hid e2
      have E3 := Lib.hid e3
      clear e1 e2 e3 hK2 hq2 hb2 p0 p1 hfz
      go_wp2
      go_roundw
      case rel =>
        refine ⟨j + 1, x.set j ⟨s, q2, c2, ys⟩, by omega, by go_num, by rw [List.length_set]; exact HXL.out, E1.out, fun i hi => ?_, fun i h1 h2 => ?_, E2.out, E3.out⟩
        · by_cases e : i = j
          · subst e
            rw [set_self (by rw [HXL.out]; exact hi), ← HD.out i hi, ← HXX.out]
            rfl
          · rw [set_other e]; exact HD.out i hi
        · rw [set_other (by omega)]; exact HR.out i (by omega) h2
      case measure => simp [intOf]; omega
    · obtain rfl : j = len := by omega
      have fin : CpyPost m j w (.returned (.slice (some ⟨B, 0, none⟩) j capB)) wr := by
        refine ⟨B, capB, x, rfl, ⟨hge, hKr, by rw [hxl]; exact hown, fun i hi => ?_⟩, datM_ext (by rw [hxl, HL.out]) (fun i hi => hdat i (by rw [← HL.out]; exact hi)), hxl, hcapB, hbr⟩
        have h1 := hdat i (by omega)
        have h2 := HLE.out i (by omega)
        have h3 : (x.getD i default).ys = (m.getD i default).ys := congrArg Prod.snd h1
        rw [h3]; exact h2
      clear hKr hdat hrest hown hbr hxl
      go_wp2
      go_ret
      exact fin
end Go.Proofs.Ytnhbaigagphpmaa
