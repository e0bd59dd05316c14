/- Package mem: what one call is of; pointers, blocks that may be. -/
import Derived.Test.YtnhbaigagphpmaaKMem
namespace Go.Proofs.Ytnhbaigagphpmaa
open Go.ChangeShapes Go.WideShapes Go.ChangeAt Go.RowKit Go.Joins Go.Deep
set_option linter.unusedVariables false

/-- one block alone may have turned, all others are as they were -/
def Only (rb : Nat) (w w' : World) : Prop := Below rb w w' ∧ ∀ b, b ≠ rb → b < w.heap.size → w'.heap[b]? = w.heap[b]?
theorem Only.refl (rb : Nat) (w : World) : Only rb w w := ⟨Below.refl _ _, fun _ _ _ => rfl⟩
theorem Only.trans {rb : Nat} {a b c : World} (h : Only rb a b) (k : Only rb b c) : Only rb a c :=
  ⟨h.1.trans k.1, fun x hx hl => (k.2 x hx (Nat.lt_of_lt_of_le hl h.1.size)).trans (h.2 x hx hl)⟩
theorem Only.of {rb : Nat} {w w' : World} (h : Below w.heap.size w w') (hr : rb ≤ w.heap.size) : Only rb w w' := ⟨h.mono hr, fun b _ hb => h.block b hb⟩
theorem Only.at {rb : Nat} {w w' : World} (h : Only rb w w') {b : Nat} {cs : Array Value} {t : TypeId} (hA : At w b cs t) (hb : b ≠ rb) : At w' b cs t := (h.2 b hb hA.lt).trans hA
theorem Only.set {rb : Nat} {a w : World} (h : Only rb a w) (i : Nat) (u : Value) : Only rb a (w.setCell ⟨rb, i, none⟩ u) :=
  ⟨h.1.setCell (p := ⟨rb, i, none⟩) (Nat.le_refl _) u, fun b hb hl => (Below.heap_setCell w ⟨rb, i, none⟩ u b hb).trans (h.2 b hb hl)⟩
theorem Only.drew {rb : Nat} {a w : World} (h : Only rb a w) : Only rb a w.drew := ⟨h.1.drew, h.2⟩
theorem Only.alloc {rb : Nat} {a w : World} (h : Only rb a w) (hr : rb ≤ w.heap.size) (o : Obj) : Only rb a (w.alloc o) :=
  h.trans (Only.of (below_box1 w o) hr)
def memC (sl : Value) (dn st : Int) (c : Nat) : Array Value := #[sl, .int .u32 dn, .int .i32 st, .int .u32 0, .int .i32 (c : Nat)]
def MemAt (w : World) (rb : Nat) (sl : Value) (dn st : Int) (c : Nat) : Prop := At w rb (memC sl dn st c) 116
theorem MemAt.at {w : World} {rb : Nat} {sl : Value} {dn st : Int} {c : Nat} (h : MemAt w rb sl dn st c) : At w rb (memC sl dn st c) 116 := h
def TakePost (sl : Value) (w : World) (e : Ending) (w' : World) : Prop := ∃ rb, e = .returned (.pointer (some ⟨rb, 0, none⟩)) ∧ w.heap.size ≤ rb ∧ MemAt w' rb sl 0 0 0 ∧ Below w.heap.size w w'
theorem take_any (q : Option Addr) (l c : Nat) (w : World) : Calls Try.prog 43 #[.slice q l c] w (TakePost (.slice q l c) w) := by
  have d0 := At.new w (memC (.slice q l c) 0 0 0) 116
  have hb := below_box1 w (.cells (memC (.slice q l c) 0 0 0) 116)
  have fin : TakePost (.slice q l c) w (.returned (.pointer (some ⟨w.heap.size, 0, none⟩))) (w.alloc (.cells (memC (.slice q l c) 0 0 0) 116)) := ⟨w.heap.size, rfl, Nat.le_refl _, d0, hb⟩
  unfold memC at fin
  clear d0 hb
  go_enter Try.func43, Try.ntmps43
  go_wp2
  go_ret
  exact fin
theorem mayS7 (s : SC) : mayS 7 s = mayP s := rfl
theorem kPointer_any (s : SC) (w : World) : Calls Try.prog 66 #[scV s] w fun e w' => e = .returned (.bool (mayS 7 s)) ∧ Below w.heap.size w w' := by
  have cC := fun w => Check_any 7 s w
  obtain ⟨p, n, b, o⟩ := s
  show Calls Try.prog 66 #[.agg #[.bool p, .int .i64 n, .int .i64 b, .int .i64 o]] w _
  unfold scV at cC
  dsimp only at cC
  cases hm : mayS 7 ⟨p, n, b, o⟩
  all_goals
    rw [hm] at cC
    clear hm
    simp only [if_true, if_false, Bool.false_eq_true] at cC
    go_enter Try.func66, Try.ntmps66
    go_wp2_with fail
    refine (cC _).mono ?_
    rintro e w1 ⟨rfl, hb1⟩
    go_wp2
    go_ret
    exact ⟨rfl, (below_box1 _ _).trans (hb1.mono (by simp))⟩
set_option maxHeartbeats 800000 in
theorem kBytes_any (p : Option Addr) (len cap : Nat) (xs : List BY) (w : World) (h : IsBys w p len xs) :
    Calls Try.prog 95 #[.slice p len cap] w fun e w' => e = .returned (.bool (maysY xs)) ∧ Below w.heap.size w w' := by
  obtain ⟨hl, hlen, hc⟩ := h
  have cB := fun (x : BY) w => Byte_any x w
  go_enter Try.func95, Try.ntmps95
  go_wp2
  go_loopw [7] (fun v wr => RelI maysY xs len w v wr) (fun v _ => len - (intOf v).toNat)
  case atStart => exact ⟨0, by omega, rfl, Below.refl _ _, by simp [maysY]⟩
  case round =>
    obtain ⟨j, hj, rfl, hbr, hm⟩ := hrel
    by_cases hlt : j < len
    · obtain ⟨b, off, rfl, hbb, hcells⟩ := hc (by omega)
      have hcj := (hcells j hlt).below hbr
      have hsn := take_snocD xs j (by omega)
      have hno := fun h => mays_no (l := xs) (j := j) (by omega) h
      obtain ⟨x, hx⟩ : ∃ x, x = xs.getD j default := ⟨_, rfl⟩
      rw [← hx] at hcj hsn hno
      have cX := fun w => cB x w
      have hj3 : (j : Int) < (len : Int) := by omega
      obtain ⟨s, n, bb, o, i⟩ := x
      obtain ⟨p0, p1, p2, p3, p4⟩ := hcj
      unfold byV at cX
      dsimp only at *
      have hbV := hbr.alloc hbr.size (.cells #[.int .i64 s, .int .i64 n, .int .i64 bb, .int .i64 o, .int .i64 i] 67)
      have HS := Lib.hid hsn
      have HM := Lib.hid hm
      have HN := Lib.hid hno
      have HL := Lib.hid hlen
      clear hcells hsn hx cB hm hno hc hlen
      cases hq : mayY ⟨s, n, bb, o, i⟩
      · rw [hq] at cX
        simp only [if_false, Bool.false_eq_true] at cX
        have HO := Lib.hid (HN.out hq)
        clear HN hq
        go_wp2_with (go_at_call 103; (with_reducible refine (cX _).mono ?_); rintro e w' ⟨rfl, hb2⟩)
        go_ret
        exact ⟨ret_b HO.out.symm, hbV.trans (hb2.mono hbV.size)⟩
      · rw [hq] at cX
        simp only [if_true] at cX
        have HQ := Lib.hid hq
        clear hq HN
        go_wp2_with (go_at_call 103; (with_reducible refine (cX _).mono ?_); rintro e w' ⟨rfl, hb2⟩)
        go_roundw
        case rel => exact ⟨j + 1, by omega, by go_num, hbV.trans (hb2.mono hbV.size), by rw [HS.out, mays_snoc, HM.out, HQ.out]; rfl⟩
        case measure => simp [intOf]; omega
    · have e : xs.take j = xs := List.take_of_length_le (by omega)
      rw [e] at hm
      have HM := Lib.hid hm
      clear hm e
      go_wp2
      go_ret
      exact ⟨ret_b HM.out.symm, hbr⟩
theorem mayK_0 (q : Option Addr) (c : Nat) (ys : List BY) : mayK ⟨0, q, c, ys⟩ = decide (ys.length = 0) := rfl
theorem mayK_2 (q : Option Addr) (c : Nat) (ys : List BY) : mayK ⟨2, q, c, ys⟩ = decide (ys.length = 0) := rfl
theorem mayK_3 (q : Option Addr) (c : Nat) (ys : List BY) : mayK ⟨3, q, c, ys⟩ = decide (ys.length = 0) := rfl
theorem mayK_1 (q : Option Addr) (c : Nat) (ys : List BY) : mayK ⟨1, q, c, ys⟩ = (decide (ys.length ≤ 32) && maysY ys) := rfl
theorem mayK_no {s : Int} {q : Option Addr} {c : Nat} {ys : List BY} (h : s ≠ 0 ∧ s ≠ 1 ∧ s ≠ 2 ∧ s ≠ 3) : mayK ⟨s, q, c, ys⟩ = false := by simp [mayK, h.1, h.2.1, h.2.2.1, h.2.2.2]
theorem isBlock_any (x : BK) (w : World) (h : IsBys w x.q x.ys.length x.ys) :
    Calls Try.prog 89 #[bkV x] w fun e w' => e = .returned (.bool (mayK x)) ∧ Below w.heap.size w w' := by
  obtain ⟨s, q, c, ys⟩ := x
  show Calls Try.prog 89 #[.agg #[.int .i64 s, .slice q ys.length c]] w _
  dsimp only at h
  have hL := h.1
  have cB := fun w h => kBytes_any q ys.length c ys w h
  have h1 := h.below (below_box1 w (.cells #[.int .i64 s, .slice q ys.length c] 97))
  have H1 := Lib.hid h1
  clear h h1
  by_cases h0 : s = 0 ∨ s = 2 ∨ s = 3
  · have e : mayK ⟨s, q, c, ys⟩ = decide (ys.length = 0) := by rcases h0 with rfl | rfl | rfl <;> rfl
    rw [e]
    clear e
    generalize ys.length = n at *
    rcases h0 with rfl | rfl | rfl
    all_goals
      by_cases hn : n = 0
      · subst hn
        go_enter Try.func89, Try.ntmps89
        go_wp2
        go_ret
        exact ⟨rfl, below_box1 _ _⟩
      · have t0 : ((n : Int) == 0) = false := by rw [beq_eq_false_iff_ne]; omega
        have t1 : (n == 0) = false := by simpa using hn
        have HN := Lib.hid hn
        clear hn
        go_enter Try.func89, Try.ntmps89
        go_wp2
        go_ret
        exact ⟨ret_b (by simp [HN.out]), below_box1 _ _⟩
  · by_cases h1 : s = 1
    · subst h1
      rw [mayK_1]
      clear h0
      by_cases hn : ys.length ≤ 32
      · generalize maysY ys = q at *
        generalize ys.length = n at *
        have hn3 : (n : Int) ≤ 32 := by omega
        have HN := Lib.hid hn
        go_enter Try.func89, Try.ntmps89
        go_wp2_with fail
        refine (cB _ H1.out).mono ?_
        rintro e w1 ⟨rfl, hb1⟩
        go_wp2
        go_ret
        exact ⟨ret_b (by simp [HN.out]), (below_box1 _ _).trans (hb1.mono (by simp))⟩
      · generalize maysY ys = q at *
        generalize ys.length = n at *
        have hn3 : decide ((n : Int) ≤ 32) = false := by simp; omega
        have hn4 : decide (n ≤ 32) = false := by simp; omega
        have HN := Lib.hid hn
        clear hn
        go_enter Try.func89, Try.ntmps89
        go_wp2
        go_ret
        exact ⟨ret_b (by simp [HN.out]), below_box1 _ _⟩
    · rw [mayK_no ⟨fun h => h0 (Or.inl h), h1, fun h => h0 (Or.inr (Or.inl h)), fun h => h0 (Or.inr (Or.inr h))⟩]
      have t0 : (s == 0) = false := by rw [beq_eq_false_iff_ne]; exact fun h => h0 (Or.inl h)
      have t1 : (s == 1) = false := by rw [beq_eq_false_iff_ne]; exact h1
      have t2 : (s == 2) = false := by rw [beq_eq_false_iff_ne]; exact fun h => h0 (Or.inr (Or.inl h))
      have t3 : (s == 3) = false := by rw [beq_eq_false_iff_ne]; exact fun h => h0 (Or.inr (Or.inr h))
      clear h0 h1
      go_enter Try.func89, Try.ntmps89
      go_wp2
      go_ret
      exact ⟨rfl, below_box1 _ _⟩
end Go.Proofs.Ytnhbaigagphpmaa
