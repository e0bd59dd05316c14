/- Package mem: how many blocks may not be. -/
import Derived.Test.YtnhbaigagphpmaaKTake
namespace Go.Proofs.Ytnhbaigagphpmaa
open Go.ChangeShapes Go.WideShapes Go.ChangeAt Go.RowKit Go.Joins Go.Deep
set_option linter.unusedVariables false

def AddMPost (rb : Nat) (sl : Value) (dn st : Int) (c : Nat) (w : World) (e : Ending) (w' : World) : Prop :=
  e = .returned (.int .i32 ((c : Nat) + 1)) ∧ MemAt w' rb sl dn st (c + 1) ∧ Only rb w w'
theorem mem_add (rb : Nat) (sl : Value) (dn st : Int) (c : Nat) (hc : c ≤ 2000) (w : World) (h : MemAt w rb sl dn st c) :
    Calls Try.prog 76 #[.pointer (some ⟨rb, 4, none⟩), .int .i32 1] w (AddMPost rb sl dn st c w) := by
  refine (add32 rb 4 (c : Nat) (by omega) w (h.at.cell 4 rfl) (At.free h.at 4)).mono ?_
  rintro e w' ⟨rfl, rfl⟩
  exact ⟨rfl, At.set h.at 4 (.int .i32 ((c : Nat) + 1)) (by simp [memC]), (Only.refl rb w).set 4 _⟩
def RelCS (rb : Nat) (sl : Value) (st : Int) (m : List BK) (len : Nat) (w0 : World) (v : Value) (wr : World) : Prop :=
  ∃ j : Nat, j ≤ len ∧ v = .int .i64 (j : Nat) ∧ MemAt wr rb sl 0 st (oddF 0 (m.take j)) ∧ Only rb w0 wr
def CSPost (rb : Nat) (sl : Value) (st : Int) (m : List BK) (w : World) (e : Ending) (w' : World) : Prop :=
  e = .returned (.tuple #[]) ∧ MemAt w' rb sl 0 st (oddF 0 m) ∧ Only rb w w'
theorem memAt_of {w : World} {rb : Nat} {sl : Value} {dn st : Int} {a b : Nat} (h : MemAt w rb sl dn st a) (e : b = a) : MemAt w rb sl dn st b := by rw [e]; exact h
theorem oddK_no {i : Nat} {x : BK} (h : mayK x = false) : oddK i x = true := by simp [oddK, h]
theorem oddK_0 {x : BK} (h : mayK x = true) (h0 : x.st ≠ 0) : oddK 0 x = true := by simp [oddK, h, h0]
theorem oddK_s {i : Nat} {x : BK} (h : mayK x = true) (h0 : x.st = 0) : oddK i x = false := by simp [oddK, h, h0]
theorem oddK_i {i : Nat} {x : BK} (h : mayK x = true) (h0 : 0 < i) : oddK i x = false := by
  have : (i == 0) = false := by rw [beq_eq_false_iff_ne]; omega
  simp [oddK, h, this]
set_option maxRecDepth 100000 in
set_option maxHeartbeats 3200000 in
theorem countStrange_any (rb : Nat) (p : Option Addr) (len cap : Nat) (st : Int) (m : List BK) (w0 w : World) (hx : IsMem w0 p len m) (hb0 : Below w0.heap.size w0 w) (hrb : w0.heap.size ≤ rb) (h : MemAt w rb (.slice p len cap) 0 st 0) :
    Calls Try.prog 80 #[.pointer (some ⟨rb, 0, none⟩)] w (CSPost rb (.slice p len cap) st m w) := by
  have cI := fun (x : BK) w h => isBlock_any x w h
  have r2 : w.cell? ⟨rb, 0, none⟩ = some (.slice p len cap) := h.at.cell 0 rfl
  have HH := Lib.hid h
  obtain ⟨hl, hlen, hc⟩ := hx
  have hrl : rb < w.heap.size := At.lt h
  clear h
  go_enter Try.func80, Try.ntmps80
  go_wp2
  go_loopw [9] (fun v wr => RelCS rb (.slice p len cap) st m len w v wr) (fun v _ => len - (intOf v).toNat)
  case atStart => exact ⟨0, by omega, rfl, HH.out, Only.refl _ _⟩
  case round =>
    clear r2 HH
    obtain ⟨j, hj, rfl, hC, hbr⟩ := hrel
    by_cases hlt : j < len
    · obtain ⟨b, off, rfl, hbb, hcells⟩ := hc (by omega)
      have hb1 : Below w0.heap.size w0 wr := hb0.trans (hbr.1.mono hrb)
      have hcj := (hcells j hlt).below hb1
      have hsn := take_snocK m j (by omega)
      have hnx : oddF 0 (m.take (j + 1)) = oddF 0 (m.take j) + if oddK j (m.getD j default) then 1 else 0 := by
        rw [hsn, oddF_snoc, Nat.zero_add]
        rw [show (m.take j).length = j by rw [List.length_take]; omega]
      have g0 : oddF 0 (m.take j) ≤ 1000 := by
        have h1 := oddF_le (m.take j) 0
        have h2 : (m.take j).length ≤ 1000 := by rw [List.length_take]; omega
        omega
      obtain ⟨x, hxx⟩ : ∃ x, x = m.getD j default := ⟨_, rfl⟩
      rw [← hxx] at hcj hnx
      generalize oddF 0 (m.take j) = c at *
      have hj3 : (j : Int) < (len : Int) := by omega
      have cX := fun w h => cI x w h
      obtain ⟨s, q, cq, ys⟩ := x
      obtain ⟨p0, p1, hys, _⟩ := hcj
      unfold bkV at cX
      dsimp only at p0 p1 hys cX
      have hbA := below_box1 wr (.cells #[.int .i64 s, .slice q ys.length cq] 97)
      have hys2 := hys.below hbA
      have dX := At.new wr #[.int .i64 s, .slice q ys.length cq] 97
      have hC : MemAt (wr.alloc (.cells #[.int .i64 s, .slice q ys.length cq] 97)) rb (.slice (some ⟨b, off, none⟩) len cap) 0 st c := At.alloc hC.at _
      have hbs := hbr.1.size
      replace hbr := hbr.alloc (by omega) (.cells #[.int .i64 s, .slice q ys.length cq] 97)
      have HNX := Lib.hid hnx
      have HY := Lib.hid hys2
      clear hcells hsn hxx hb1 hnx hys hys2 cI hlen hbA
      generalize ys.length = n at *
      cases hq : mayK ⟨s, q, cq, ys⟩
      · rw [hq] at cX
        have HO := Lib.hid (oddK_no (i := j) hq)
        clear hq
        go_wp2_with fail
        refine (cX _ HY.out).mono ?_
        rintro e w2 ⟨rfl, hb2⟩
        replace hbr := hbr.trans (Only.of hb2 (Nat.le_of_lt (At.lt hC)))
        replace hC : MemAt _ rb (.slice (some ⟨b, off, none⟩) len cap) 0 st c := At.below' hb2 hC
        clear hb2 dX
        go_wp2_with fail
        refine (mem_add rb _ 0 st c (by omega) _ hC).mono ?_
        rintro e w3 ⟨rfl, hC2, hb2⟩
        replace hbr := hbr.trans hb2
        clear hC hb2
        go_wp2
        go_roundw
        case rel => exact ⟨j + 1, by omega, by go_num, memAt_of hC2 (by rw [HNX.out, HO.out]; rfl), hbr⟩
        case measure => simp [intOf]; omega
      · rw [hq] at cX
        by_cases hs0 : s = 0
        · subst hs0
          have HO := Lib.hid (oddK_s (i := j) hq rfl)
          clear hq
          by_cases hj0 : j = 0
          · subst hj0
            simp only [Nat.zero_mul, Nat.add_zero] at p0 p1
            go_wp2_with fail
            refine (cX _ HY.out).mono ?_
            rintro e w2 ⟨rfl, hb2⟩
            replace hbr := hbr.trans (Only.of hb2 (Nat.le_of_lt (At.lt hC)))
            replace hC : MemAt _ rb (.slice (some ⟨b, off, none⟩) len cap) 0 st c := At.below' hb2 hC
            replace dX := At.below' hb2 dX
            have x0 : w2.cell? ⟨wr.heap.size, 0, none⟩ = some (.int .i64 0) := dX.cell 0 rfl
            clear hb2 dX
            go_wp2
            go_roundw
            case rel => exact ⟨1, by omega, by go_num, memAt_of hC (by rw [HNX.out, HO.out]; rfl), hbr⟩
            case measure => simp [intOf]; omega
          · have tj : ((j : Int) == 0) = false := by rw [beq_eq_false_iff_ne]; omega
            go_wp2_with fail
            refine (cX _ HY.out).mono ?_
            rintro e w2 ⟨rfl, hb2⟩
            replace hbr := hbr.trans (Only.of hb2 (Nat.le_of_lt (At.lt hC)))
            replace hC : MemAt _ rb (.slice (some ⟨b, off, none⟩) len cap) 0 st c := At.below' hb2 hC
            clear hb2 dX
            go_wp2
            go_roundw
            case rel => exact ⟨j + 1, by omega, by go_num, memAt_of hC (by rw [HNX.out, HO.out]; rfl), hbr⟩
            case measure => simp [intOf]; omega
        · by_cases hj0 : j = 0
          · subst hj0
            simp only [Nat.zero_mul, Nat.add_zero] at p0 p1
            have ts : (s == 0) = false := by rw [beq_eq_false_iff_ne]; exact hs0
            have HO := Lib.hid (oddK_0 hq hs0)
            clear hq hs0
            go_wp2_with fail
            refine (cX _ HY.out).mono ?_
            rintro e w2 ⟨rfl, hb2⟩
            replace hbr := hbr.trans (Only.of hb2 (Nat.le_of_lt (At.lt hC)))
            replace hC : MemAt _ rb (.slice (some ⟨b, off, none⟩) len cap) 0 st c := At.below' hb2 hC
            replace dX := At.below' hb2 dX
            have x0 : w2.cell? ⟨wr.heap.size, 0, none⟩ = some (.int .i64 s) := dX.cell 0 rfl
            clear hb2 dX
            go_wp2_with fail
            refine (mem_add rb _ 0 st c (by omega) _ hC).mono ?_
            rintro e w3 ⟨rfl, hC2, hb2⟩
            replace hbr := hbr.trans hb2
            clear hC hb2 x0
            go_wp2
            go_roundw
            case rel => exact ⟨1, by omega, by go_num, memAt_of hC2 (by rw [HNX.out, HO.out]; rfl), hbr⟩
            case measure => simp [intOf]; omega
          · have tj : ((j : Int) == 0) = false := by rw [beq_eq_false_iff_ne]; omega
            have HO := Lib.hid (oddK_i (i := j) hq (by omega))
            clear hq hs0
            go_wp2_with fail
            refine (cX _ HY.out).mono ?_
            rintro e w2 ⟨rfl, hb2⟩
            replace hbr := hbr.trans (Only.of hb2 (Nat.le_of_lt (At.lt hC)))
            replace hC : MemAt _ rb (.slice (some ⟨b, off, none⟩) len cap) 0 st c := At.below' hb2 hC
            clear hb2 dX
            go_wp2
            go_roundw
            case rel => exact ⟨j + 1, by omega, by go_num, memAt_of hC (by rw [HNX.out, HO.out]; rfl), hbr⟩
            case measure => simp [intOf]; omega
    · obtain rfl : j = len := by omega
      have e : m.take j = m := List.take_of_length_le (by omega)
      rw [e] at hC
      have HC := Lib.hid hC
      clear hC e hlen hc
      go_wp2
      go_end0
      exact ⟨rfl, HC.out, hbr⟩
end Go.Proofs.Ytnhbaigagphpmaa
