/- Lists of nodes that came in. -/
import Derived.Test.YtkhklndmbfbnoaaGreatDoorLJoinC
import Derived.Deep.Slices
import Derived.Test.YtkhklndmbfbnoaaGreatDoorPgOrd
namespace Go.Proofs.YtkhklndmbfbnoaaGreatDoor
open Go.ChangeShapes Go.WideShapes Go.ChangeAt Go.RowKit Go.Joins Go.Deep
set_option linter.unusedVariables false

def InNd (w : World) (b o : Nat) : Prop := ∃ (op : Int) (s : ByteArray) (n : Int) (q : Option Addr) (m c : Nat), w.cell? ⟨b, o, none⟩ = some (.int .i64 op) ∧ w.cell? ⟨b, o + 1, none⟩ = some (.string s) ∧ w.cell? ⟨b, o + 2, none⟩ = some (.int .i64 n) ∧ w.cell? ⟨b, o + 3, none⟩ = some (.slice q m c)
/-- nodes that came in; rows of them -/
def InNs (w : World) (p : Option Addr) (len : Nat) : Prop := len ≤ maxLen ∧ (0 < len → ∃ b off, p = some ⟨b, off, none⟩ ∧ b < w.heap.size ∧ ∀ i, i < len → InNd w b (off + i * 4))
def InRs (w : World) (p : Option Addr) (len : Nat) : Prop := len ≤ maxLen ∧ (0 < len → ∃ b off, p = some ⟨b, off, none⟩ ∧ b < w.heap.size ∧ ∀ i, i < len → ∃ q m c, w.cell? ⟨b, off + i, none⟩ = some (.slice q m c) ∧ InNs w q m)
theorem InNs.below {w w' : World} {p : Option Addr} {len : Nat} (h : InNs w p len) (hb : Below w.heap.size w w') : InNs w' p len := by
  refine ⟨h.1, fun hp => ?_⟩
  obtain ⟨b, off, rfl, hlt, hc⟩ := h.2 hp
  refine ⟨b, off, rfl, by have := hb.size; omega, fun i hi => ?_⟩
  obtain ⟨op, s, n, q, m, c, h0, h1, h2, h3⟩ := hc i hi
  exact ⟨op, s, n, q, m, c, cell_below h0 hb, cell_below h1 hb, cell_below h2 hb, cell_below h3 hb⟩
theorem InRs.below {w w' : World} {p : Option Addr} {len : Nat} (h : InRs w p len) (hb : Below w.heap.size w w') : InRs w' p len := by
  refine ⟨h.1, fun hp => ?_⟩
  obtain ⟨b, off, rfl, hlt, hc⟩ := h.2 hp
  refine ⟨b, off, rfl, by have := hb.size; omega, fun i hi => ?_⟩
  obtain ⟨q, m, c, h0, h1⟩ := hc i hi
  exact ⟨q, m, c, cell_below h0 hb, h1.below hb⟩
theorem addr_add2 (a : Addr) (i j : Nat) : (a.add i).add j = a.add (i + j) := by
  unfold Addr.add
  by_cases h0 : i = 0 <;> by_cases h1 : j = 0 <;> simp [h0, h1] <;> omega
theorem nds_of {P : Program} {t e ei es ep ey : TypeId} {f0 f1 f2 f3 : Field} (ht : P.underlying t = some (.slice e)) (he : P.underlying e = some (.struct #[f0, f1, f2, f3])) (hc : P.cellsOf e = 4)
    (hf0 : f0.type = ei ∧ f0.offset = 0) (hf1 : f1.type = es ∧ f1.offset = 1) (hf2 : f2.type = ei ∧ f2.offset = 2) (hf3 : f3.type = ep ∧ f3.offset = 3)
    (hi : P.cellsOf ei = 1 ∧ P.underlying ei = some (.int .i64)) (hs : P.cellsOf es = 1 ∧ P.underlying es = some .string) (hp : P.cellsOf ep = 1 ∧ P.underlying ep = some (.slice ey))
    {H : Type} {enc : TypeId × Value → H} {W : World} {v : Value} {y : DataW H × List MemPlace} {k : Nat} (h : DataW.trod enc P W 0 (fun _ => true) true k t [v] = some y) :
    ∃ p len cap, v = .slice p len cap ∧ InNs W p len := by
  rcases open_slice ht h with ⟨hcs, _⟩ | ⟨ad, len, cap, m, n, D, Pl, hcs, _, hl, hm, hmm, hy, hx⟩
  · simp at hcs
    subst hcs
    exact ⟨none, 0, 0, rfl, Nat.zero_le _, fun h => absurd h (Nat.lt_irrefl 0)⟩
  · simp at hcs
    subst hcs
    have each : ∀ i, i < len → ∃ (op : Int) (s : ByteArray) (n : Int) (q : Option Addr) (m c : Nat), W.cell? (ad.add (i * 4)) = some (.int .i64 op) ∧ W.cell? (ad.add (i * 4 + 1)) = some (.string s) ∧ W.cell? (ad.add (i * 4 + 2)) = some (.int .i64 n) ∧ W.cell? (ad.add (i * 4 + 3)) = some (.slice q m c) := by
      intro i hi2
      obtain ⟨cs', h1, h2⟩ := hx i (by simp at hmm; omega)
      rw [hc] at h1
      obtain ⟨_, hlen, hcell⟩ := World.cells?_some h1
      obtain ⟨y0, y1, y2, y3, n', hxx, _, t0, t1, t2, t3⟩ := trod_struct4 he h2
      obtain ⟨c0, c1, c2, c3, rfl⟩ : ∃ c0 c1 c2 c3, cs' = [c0, c1, c2, c3] := by
        match cs', hlen with
        | [c0, c1, c2, c3], _ => exact ⟨c0, c1, c2, c3, rfl⟩
      rw [hf0.1, hf0.2, hi.1] at t0
      rw [hf1.1, hf1.2, hs.1] at t1
      rw [hf2.1, hf2.2, hi.1] at t2
      rw [hf3.1, hf3.2, hp.1] at t3
      simp only [List.drop_zero, List.drop_succ_cons, List.take_succ_cons, List.take_zero] at t0 t1 t2 t3
      obtain ⟨a0, e0, _⟩ := DataW.trod_int hi.2 t0
      obtain ⟨s0, e1, _⟩ := DataW.trod_string hs.2 t1
      obtain ⟨a2, e2, _⟩ := DataW.trod_int hi.2 t2
      obtain ⟨q, l, c, e3⟩ := slice_form hp.2 t3
      simp at e0 e1 e2 e3
      subst e0 e1 e2 e3
      refine ⟨a0, s0, a2, q, l, c, ?_, ?_, ?_, ?_⟩
      · have := hcell 0 (by omega); rw [addr_add2] at this; simpa using this
      · have := hcell 1 (by omega); rw [addr_add2] at this; simpa using this
      · have := hcell 2 (by omega); rw [addr_add2] at this; simpa using this
      · have := hcell 3 (by omega); rw [addr_add2] at this; simpa using this
    refine ⟨some ad, len, cap, rfl, Nat.le_trans hl hm, fun hpos => ?_⟩
    obtain ⟨bl, off, spot⟩ := ad
    obtain ⟨op, s, nn, q, mm, c, h0, _⟩ := each 0 hpos
    have hspot : spot = none := by simpa [Addr.add] using World.cell?_spot h0
    subst hspot
    refine ⟨bl, off, rfl, ?_, fun i hi2 => ?_⟩
    · have := World.block_lt_of_cell? W _ h0
      simpa [Addr.add] using this
    · obtain ⟨op, s, nn, q, mm, c, h0, h1, h2, h3⟩ := each i hi2
      have ea : ∀ j, (⟨bl, off, none⟩ : Addr).add j = ⟨bl, off + j, none⟩ := fun j => by unfold Addr.add; by_cases h : j = 0 <;> simp [h]
      rw [ea] at h0 h1 h2 h3
      exact ⟨op, s, nn, q, mm, c, h0, by rw [Nat.add_assoc]; exact h1, by rw [Nat.add_assoc]; exact h2, by rw [Nat.add_assoc]; exact h3⟩
theorem rows_of {P : Program} {tt t e ei es ep ey : TypeId} {f0 f1 f2 f3 : Field} (htt : P.underlying tt = some (.slice t)) (hct : P.cellsOf t = 1) (ht : P.underlying t = some (.slice e)) (he : P.underlying e = some (.struct #[f0, f1, f2, f3])) (hc : P.cellsOf e = 4)
    (hf0 : f0.type = ei ∧ f0.offset = 0) (hf1 : f1.type = es ∧ f1.offset = 1) (hf2 : f2.type = ei ∧ f2.offset = 2) (hf3 : f3.type = ep ∧ f3.offset = 3)
    (hi : P.cellsOf ei = 1 ∧ P.underlying ei = some (.int .i64)) (hs : P.cellsOf es = 1 ∧ P.underlying es = some .string) (hp : P.cellsOf ep = 1 ∧ P.underlying ep = some (.slice ey))
    {H : Type} {enc : TypeId × Value → H} {W : World} {v : Value} {y : DataW H × List MemPlace} {k : Nat} (h : DataW.trod enc P W 0 (fun _ => true) true k tt [v] = some y) :
    ∃ p len cap, v = .slice p len cap ∧ InRs W p len := by
  rcases open_slice htt h with ⟨hcs, _⟩ | ⟨ad, len, cap, m, n, D, Pl, hcs, _, hl, hm, hmm, hy, hx⟩
  · simp at hcs
    subst hcs
    exact ⟨none, 0, 0, rfl, Nat.zero_le _, fun h => absurd h (Nat.lt_irrefl 0)⟩
  · simp at hcs
    subst hcs
    have each : ∀ i, i < len → ∃ (q : Option Addr) (m c : Nat), W.cell? (ad.add i) = some (.slice q m c) ∧ InNs W q m := by
      intro i hi2
      obtain ⟨cs', h1, h2⟩ := hx i (by simp at hmm; omega)
      rw [hct] at h1
      obtain ⟨_, hlen, hcell⟩ := World.cells?_some h1
      obtain ⟨c0, rfl⟩ : ∃ c0, cs' = [c0] := by
        match cs', hlen with
        | [c0], _ => exact ⟨c0, rfl⟩
      obtain ⟨q, l, c, rfl, hin⟩ := nds_of ht he hc hf0 hf1 hf2 hf3 hi hs hp h2
      refine ⟨q, l, c, ?_, hin⟩
      have := hcell 0 (by omega)
      rw [addr_add2] at this
      simpa using this
    refine ⟨some ad, len, cap, rfl, Nat.le_trans hl hm, fun hpos => ?_⟩
    obtain ⟨bl, off, spot⟩ := ad
    obtain ⟨q, mm, c, h0, _⟩ := each 0 hpos
    have hspot : spot = none := by simpa [Addr.add] using World.cell?_spot h0
    subst hspot
    refine ⟨bl, off, rfl, ?_, fun i hi2 => ?_⟩
    · have := World.block_lt_of_cell? W _ h0
      simpa [Addr.add] using this
    · obtain ⟨q, mm, c, h0, h1⟩ := each i hi2
      have ea : ∀ j, (⟨bl, off, none⟩ : Addr).add j = ⟨bl, off + j, none⟩ := fun j => by unfold Addr.add; by_cases h : j = 0 <;> simp [h]
      rw [ea] at h0
      exact ⟨q, mm, c, h0, h1⟩
end Go.Proofs.YtkhklndmbfbnoaaGreatDoor

/- What layer 11 plays. -/
namespace Go.Proofs.YtkhklndmbfbnoaaGreatDoor
open Go.ChangeShapes Go.WideShapes Go.ChangeAt Go.RowKit Go.Joins Go.Deep
set_option linter.unusedVariables false

set_option maxHeartbeats 1600000 in
theorem weight_any (p : Option Addr) (len cap : Nat) (w : World) (h : InNs w p len) : Calls Tryz.prog 24 #[.slice p len cap] w fun e w' => (∃ m : Int, e = .returned (.int .i64 m)) ∧ Below w.heap.size w w' := by
  obtain ⟨hl, hc⟩ := h
  unfold maxLen at hl
  go_enter Tryz.func24, Tryz.ntmps24
  go_wp2
  go_loopw [4, 3] (fun v v3 wr => ∃ (i : Nat) (m : Int), i ≤ len ∧ v = .int .i64 (i : Nat) ∧ v3 = .int .i64 m ∧ Below w.heap.size w wr) (fun v _ _ => len - (intOf v).toNat)
  case atStart => exact ⟨0, _, Nat.zero_le _, rfl, rfl, Below.refl _ _⟩
  case round =>
    obtain ⟨i, m, hi, rfl, rfl, hbr⟩ := hrel
    by_cases hlt : i < len
    · have hj3 : (i : Int) < (len : Int) := by omega
      by_cases hm : m < 1048576
      · have hmd : decide (m < 1048576) = true := decide_eq_true hm
        obtain ⟨b, off, rfl, hb, hcell⟩ := hc (by omega)
        obtain ⟨op, s, n, q, mp, c, h0, h1, h2, h3⟩ := hcell i hlt
        have c1 := cell_below h1 hbr
        have c3 := cell_below h3 hbr
        clear hcell hc h0 h1 h2 h3
        go_wp2
        go_quiet (fail)
        go_wp2
        go_roundw
        case rel => exact ⟨i + 1, _, by omega, by go_num, rfl, hbr.trans (Joins.below_draws _ _ _)⟩
        case measure => simp [intOf]; omega
      · have hmd : decide (m < 1048576) = false := decide_eq_false hm
        clear hc
        go_wp2
        go_ret
        exact ⟨⟨m, rfl⟩, hbr⟩
    · obtain rfl : i = len := by omega
      clear hc
      go_wp2
      go_ret
      exact ⟨⟨m, rfl⟩, hbr⟩
def Heavy11P (lS : Nat) (zs : List ByteArray) (w : World) (e : Ending) (w' : World) : Prop := ∃ hv : Bool, e = .returned (.bool hv) ∧ (hv = false → lS ≤ 7000 ∧ ∀ i, (zs.getD i bz).size ≤ 7000) ∧ Below w.heap.size w w'
set_option maxHeartbeats 1600000 in
theorem heavy11_any (pS pN pT : Option Addr) (lS cS lN cN lT cT : Nat) (zs : List ByteArray) (hlS : lS ≤ 140737488355328) (hlN : lN ≤ 140737488355328) (w : World) (hI : InTxts w pS lS zs) (hT : InRs w pT lT) :
    Calls Tryz.prog 8 #[.agg #[.slice pS lS cS, .slice pN lN cN, .slice pT lT cT]] w (Heavy11P lS zs w) := by
  have hb0 := boxT w (.cells #[.slice pS lS cS, .slice pN lN cN, .slice pT lT cT] 28)
  have hA := At.new w #[.slice pS lS cS, .slice pN lN cN, .slice pT lT cT] 28
  have hI1 := hI.below hb0
  have hT1 := hT.below hb0
  obtain ⟨w1, hw1⟩ : ∃ w1, w.alloc (.cells #[.slice pS lS cS, .slice pN lN cN, .slice pT lT cT] 28) = w1 := ⟨_, rfl⟩
  rw [hw1] at hb0 hA hI1 hT1
  have HB := Lib.hid (And.intro hb0 hI1)
  have hlT := hT1.1
  unfold maxLen at hlT
  clear hI hT hb0 hI1
  go_enter Tryz.func8, Tryz.ntmps8
  go_upto_region 1 with (fail)
  clear hw1
  have b2 : w1.cell? ⟨w.heap.size, 2, none⟩ = some (.slice pT lT cT) := hA.cell 2 rfl
  generalize hBx : w.heap.size = B at *
  have HBx := Lib.hid hBx
  have HA := Lib.hid hA
  clear hBx hA
  go_wp2_with fail
  go_loopw [4, 3] (fun v v3 wr => ∃ (i : Nat) (m : Int), i ≤ lT ∧ v = .int .i64 (i : Nat) ∧ v3 = .int .i64 m ∧ Below w1.heap.size w1 wr) (fun v _ _ => lT - (intOf v).toNat)
  case atStart => exact ⟨0, _, Nat.zero_le _, rfl, rfl, Below.refl _ _⟩
  case round =>
    obtain ⟨i, m, hi, rfl, rfl, hbr⟩ := hrel
    have c2 := cell_below b2 hbr
    by_cases hgo : i < lT ∧ m < 1048576
    · obtain ⟨hlt, hm⟩ := hgo
      have hj3 : (i : Int) < (lT : Int) := by omega
      have hmd : decide (m < 1048576) = true := decide_eq_true hm
      obtain ⟨b, off, rfl, hb, hcell⟩ := (hT1.below hbr).2 (by omega)
      obtain ⟨q, mm, c, h0, h1⟩ := hcell i hlt
      have cW := weight_any q mm c wr h1
      clear hcell h1
      go_wp2_with fail
      refine cW.mono ?_
      rintro e w2 ⟨⟨k, rfl⟩, hb2⟩
      have H2 := Lib.hid (hbr.trans (hb2.mono hbr.size))
      clear cW hb2 hbr c2 h0
      go_wp2_with fail
      go_roundw
      case rel => exact ⟨i + 1, _, by omega, by go_num, rfl, H2.out⟩
      case measure => simp [intOf]; omega
    · have hA2 := At.below' hbr HA.out
      have d0 : wr.cell? ⟨B, 0, none⟩ = some (.slice pS lS cS) := hA2.cell 0 rfl
      have d1 : wr.cell? ⟨B, 1, none⟩ = some (.slice pN lN cN) := hA2.cell 1 rfl
      have cH := heavy_any pS pN lS cS lN cN zs hlS hlN wr (HB.out.2.below hbr)
      unfold HeavyP at cH
      have hb1 : Below w.heap.size w w1 := by rw [HBx.out]; exact HB.out.1
      have HBR := Lib.hid (hb1.trans (hbr.mono hb1.size))
      have HGO := Lib.hid hgo
      clear hA2 hT1 hgo hb1 hbr b2
      by_cases h15 : (1500 : Int) < m
      · have h16 : decide ((1500 : Int) < m) = true := decide_eq_true h15
        have FIN : Hid (Heavy11P lS zs w (.returned (.bool true)) wr) := Lib.hid ⟨true, rfl, (fun h => by cases h), HBR.out⟩
        clear cH
        by_cases h1 : i < lT
        · have hj3 : (i : Int) < (lT : Int) := by omega
          have hm2 : ¬ m < 1048576 := fun h => HGO.out ⟨h1, h⟩
          have hmd : decide (m < 1048576) = false := decide_eq_false hm2
          clear h1
          go_wp2_with fail
          go_ret
          exact FIN.out
        · have hj3 : ¬ (i : Int) < (lT : Int) := by omega
          clear h1
          go_wp2_with fail
          go_ret
          exact FIN.out
      · have h16 : decide ((1500 : Int) < m) = false := decide_eq_false h15
        by_cases h1 : i < lT
        · exact absurd (show m < 1048576 by omega) (fun h => HGO.out ⟨h1, h⟩)
        · have hj3 : ¬ (i : Int) < (lT : Int) := by omega
          clear h1
          go_wp2_with fail
          refine cH.mono ?_
          rintro e w9 ⟨hv, rfl, hh, hb9⟩
          have FIN : Hid (Heavy11P lS zs w (.returned (.bool hv)) w9) := Lib.hid ⟨hv, rfl, hh, HBR.out.trans (hb9.mono HBR.out.size)⟩
          clear cH hh hb9
          go_wp2_with fail
          go_ret
          exact FIN.out
end Go.Proofs.YtkhklndmbfbnoaaGreatDoor
