/- Package bytes: a row's bytes counted. -/
import Derived.Test.YtnhbaigagphpmaaBRow
namespace Go.Proofs.Ytnhbaigagphpmaa
open Go.ChangeShapes Go.WideShapes Go.ChangeAt Go.RowKit Go.Joins Go.Deep
set_option linter.unusedVariables false

theorem isZe_st {s n b o i : Int} (h : s ≠ 1) : isZe ⟨s, n, b, o, i⟩ = false := by simp [isZe, eqY, digY, h]
theorem foll_st {s n b o i b' o' k : Int} (h : s ≠ 2) : eqY ⟨s, n, b, o, i⟩ (parY b' o' k) = false := by simp [eqY, parY, h]
def RowN (w : World) (rb : Nat) (big : Bool) (p : Int) (sl : Value) (dn st : Int) (c0 c1 c2 c3 : Nat) : Prop := RowAt w rb big p sl dn st (c0 : Nat) (c1 : Nat) (c2 : Nat) (c3 : Nat)
theorem RowN.at {w : World} {rb : Nat} {big : Bool} {p : Int} {sl : Value} {dn st : Int} {c0 c1 c2 c3 : Nat} (h : RowN w rb big p sl dn st c0 c1 c2 c3) : At w rb (rowC big p sl dn st (c0 : Nat) (c1 : Nat) (c2 : Nat) (c3 : Nat)) 87 := h
def AddPost (rb : Nat) (c : Nat) (R : World → Prop) (w : World) (e : Ending) (w' : World) : Prop :=
  e = .returned (.int .i32 ((c : Nat) + 1)) ∧ R w' ∧ (∀ b cs t, b ≠ rb → At w b cs t → At w' b cs t) ∧ Below rb w w'
theorem row_add0 (rb : Nat) (big : Bool) (p : Int) (sl : Value) (dn st : Int) (c0 c1 c2 c3 : Nat) (hc : c0 ≤ 2000) (w : World) (h : RowN w rb big p sl dn st c0 c1 c2 c3) :
    Calls Try.prog 76 #[.pointer (some ⟨rb, 6, none⟩), .int .i32 1] w (AddPost rb c0 (fun w' => RowN w' rb big p sl dn st (c0 + 1) c1 c2 c3) w) := by
  refine (add32 rb 6 (c0 : Nat) (by omega) w (h.at.cell 6 rfl) (At.free h.at 6)).mono ?_
  rintro e w' ⟨rfl, rfl⟩
  refine ⟨rfl, At.set h.at 6 (.int .i32 ((c0 : Nat) + 1)) (by simp [rowC]), fun b cs t hb hA => ?_, (Below.refl rb w).setCell (p := ⟨rb, 6, none⟩) (Nat.le_refl _) _⟩
  exact (Below.heap_setCell w ⟨rb, 6, none⟩ _ b hb).trans hA
theorem row_add1 (rb : Nat) (big : Bool) (p : Int) (sl : Value) (dn st : Int) (c0 c1 c2 c3 : Nat) (hc : c1 ≤ 2000) (w : World) (h : RowN w rb big p sl dn st c0 c1 c2 c3) :
    Calls Try.prog 76 #[.pointer (some ⟨rb, 7, none⟩), .int .i32 1] w (AddPost rb c1 (fun w' => RowN w' rb big p sl dn st c0 (c1 + 1) c2 c3) w) := by
  refine (add32 rb 7 (c1 : Nat) (by omega) w (h.at.cell 7 rfl) (At.free h.at 7)).mono ?_
  rintro e w' ⟨rfl, rfl⟩
  refine ⟨rfl, At.set h.at 7 (.int .i32 ((c1 : Nat) + 1)) (by simp [rowC]), fun b cs t hb hA => ?_, (Below.refl rb w).setCell (p := ⟨rb, 7, none⟩) (Nat.le_refl _) _⟩
  exact (Below.heap_setCell w ⟨rb, 7, none⟩ _ b hb).trans hA
theorem row_add2 (rb : Nat) (big : Bool) (p : Int) (sl : Value) (dn st : Int) (c0 c1 c2 c3 : Nat) (hc : c2 ≤ 2000) (w : World) (h : RowN w rb big p sl dn st c0 c1 c2 c3) :
    Calls Try.prog 76 #[.pointer (some ⟨rb, 8, none⟩), .int .i32 1] w (AddPost rb c2 (fun w' => RowN w' rb big p sl dn st c0 c1 (c2 + 1) c3) w) := by
  refine (add32 rb 8 (c2 : Nat) (by omega) w (h.at.cell 8 rfl) (At.free h.at 8)).mono ?_
  rintro e w' ⟨rfl, rfl⟩
  refine ⟨rfl, At.set h.at 8 (.int .i32 ((c2 : Nat) + 1)) (by simp [rowC]), fun b cs t hb hA => ?_, (Below.refl rb w).setCell (p := ⟨rb, 8, none⟩) (Nat.le_refl _) _⟩
  exact (Below.heap_setCell w ⟨rb, 8, none⟩ _ b hb).trans hA
theorem row_add3 (rb : Nat) (big : Bool) (p : Int) (sl : Value) (dn st : Int) (c0 c1 c2 c3 : Nat) (hc : c3 ≤ 2000) (w : World) (h : RowN w rb big p sl dn st c0 c1 c2 c3) :
    Calls Try.prog 76 #[.pointer (some ⟨rb, 9, none⟩), .int .i32 1] w (AddPost rb c3 (fun w' => RowN w' rb big p sl dn st c0 c1 c2 (c3 + 1)) w) := by
  refine (add32 rb 9 (c3 : Nat) (by omega) w (h.at.cell 9 rfl) (At.free h.at 9)).mono ?_
  rintro e w' ⟨rfl, rfl⟩
  refine ⟨rfl, At.set h.at 9 (.int .i32 ((c3 : Nat) + 1)) (by simp [rowC]), fun b cs t hb hA => ?_, (Below.refl rb w).setCell (p := ⟨rb, 9, none⟩) (Nat.le_refl _) _⟩
  exact (Below.heap_setCell w ⟨rb, 9, none⟩ _ b hb).trans hA
/-- counted up to place j -/
def CntAt (w : World) (rb : Nat) (big : Bool) (p : Int) (sl : Value) (dn st : Int) (f : BY) (xs : List BY) : Prop :=
  RowN w rb big p sl dn st (cnt isNo xs) (cnt isPa xs) (cnt isZe xs) (cntF f 0 xs)
def RelCnt (rb : Nat) (big : Bool) (p : Int) (sl : Value) (st : Int) (xs : List BY) (len : Nat) (w0 : World) (v : Value) (wr : World) : Prop :=
  ∃ j : Nat, j ≤ len ∧ v = .int .i64 (j : Nat) ∧ CntAt wr rb big p sl 0 st (hdY xs) (xs.take j) ∧ Below rb w0 wr
def CntPost (rb : Nat) (big : Bool) (p : Int) (sl : Value) (st : Int) (xs : List BY) (w : World) (e : Ending) (w' : World) : Prop :=
  e = .returned (.tuple #[]) ∧ CntAt w' rb big p sl 0 st (hdY xs) xs ∧ Below rb w w'
theorem cnt_next {f : BY} {xs : List BY} {j : Nat} {x : BY} (hj : xs.take (j + 1) = xs.take j ++ [x]) (hl : (xs.take j).length = j) :
    cnt isNo (xs.take (j + 1)) = cnt isNo (xs.take j) + (if isNo x then 1 else 0) ∧ cnt isPa (xs.take (j + 1)) = cnt isPa (xs.take j) + (if isPa x then 1 else 0) ∧ cnt isZe (xs.take (j + 1)) = cnt isZe (xs.take j) + (if isZe x then 1 else 0) ∧ cntF f 0 (xs.take (j + 1)) = cntF f 0 (xs.take j) + (if eqY x (parY f.b f.o (j : Nat)) then 1 else 0) := by
  rw [hj]
  refine ⟨cnt_snoc _ _ _, cnt_snoc _ _ _, cnt_snoc _ _ _, ?_⟩
  rw [cntF_snoc, hl, Nat.zero_add]
theorem cnt_fin {w : World} {rb : Nat} {big : Bool} {p : Int} {sl : Value} {st : Int} {f : BY} {xs : List BY} {a b c d : Nat} (h : RowN w rb big p sl 0 st a b c d) (e0 : cnt isNo xs = a) (e1 : cnt isPa xs = b) (e2 : cnt isZe xs = c) (e3 : cntF f 0 xs = d) : CntAt w rb big p sl 0 st f xs := by
  unfold CntAt; rw [e0, e1, e2, e3]; exact h
set_option maxRecDepth 100000 in
set_option maxHeartbeats 6400000 in
theorem countAll_any (rb : Nat) (big : Bool) (p : Int) (q : Option Addr) (len cap : Nat) (st : Int) (xs : List BY) (w0 w : World) (hx : IsBys w0 q len xs) (hb0 : Below w0.heap.size w0 w) (hrb : w0.heap.size ≤ rb) (h : RowN w rb big p (.slice q len cap) 0 st 0 0 0 0) :
    Calls Try.prog 57 #[.pointer (some ⟨rb, 0, none⟩)] w (CntPost rb big p (.slice q len cap) st xs w) := by
  have cF := fun (c0 c1 c2 c3 : Nat) w (h : RowN w rb big p (.slice q len cap) 0 st c0 c1 c2 c3) hx h0 => first_any rb big p q len cap 0 st c0 c1 c2 c3 xs w h hx h0
  have cP := fun i w => part_any true 0 (hdY xs).b (hdY xs).o i w
  have cD := fun w => digit_any 0 0 (Or.inl rfl) w
  unfold byV parY at cP
  unfold byV digY digI at cD
  have e0 : (0 : Int) / 2 ^ 0 % 256 = 0 := rfl
  rw [e0] at cD
  dsimp only at cP cD
  have r2 : w.cell? ⟨rb, 2, none⟩ = some (.slice q len cap) := h.at.cell 2 rfl
  have HH := Lib.hid h
  have HX := Lib.hid hx
  obtain ⟨hl, hlen, hc⟩ := hx
  have hrl : rb < w.heap.size := At.lt h
  clear h e0
  go_enter Try.func57, Try.ntmps57
  go_wp2
  go_loopw [9] (fun v wr => RelCnt rb big p (.slice q len cap) st xs len w v wr) (fun v _ => len - (intOf v).toNat)
  case atStart => exact ⟨0, by omega, rfl, HH.out, Below.refl _ _⟩
  case round =>
    clear r2 HH
    obtain ⟨j, hj, rfl, hC, hbr⟩ := hrel
    by_cases hlt : j < len
    · obtain ⟨b, off, rfl, hbb, hcells⟩ := hc (by omega)
      have hb1 : Below w0.heap.size w0 wr := hb0.trans (hbr.mono hrb)
      have hcj := (hcells j hlt).below hb1
      have hsn := take_snocD xs j (by omega)
      have hnx2 := cnt_next (f := hdY xs) hsn (by rw [List.length_take]; omega)
      have hb4 : (xs.take j).length ≤ 1000 := by rw [List.length_take]; omega
      have g0 := cnt_le isNo (xs.take j)
      have g1 := cnt_le isPa (xs.take j)
      have g2 := cnt_le isZe (xs.take j)
      have g3 := cntF_le (hdY xs) (xs.take j) 0
      unfold CntAt at hC
      obtain ⟨x, hxx⟩ : ∃ x, x = xs.getD j default := ⟨_, rfl⟩
      rw [← hxx] at hcj hnx2
      generalize (cnt isNo (xs.take j)) = m0 at *
      generalize (cnt isPa (xs.take j)) = m1 at *
      generalize (cnt isZe (xs.take j)) = m2 at *
      generalize (cntF (hdY xs) 0 (xs.take j)) = m3 at *
      have hj3 : (j : Int) < (len : Int) := by omega
      have hpos : 0 < len := by omega
      obtain ⟨s, n, bb, o, i⟩ := x
      obtain ⟨p0, p1, p2, p3, p4⟩ := hcj
      dsimp only at p0 p1 p2 p3 p4 hnx2
      have HNX := Lib.hid hnx2
      obtain ⟨fb, hfb⟩ : ∃ fb, fb = (hdY xs).b := ⟨_, rfl⟩
      obtain ⟨fo, hfo⟩ : ∃ fo, fo = (hdY xs).o := ⟨_, rfl⟩
      rw [← hfb, ← hfo] at cP cF
      have HFB := Lib.hid hfb
      have HFO := Lib.hid hfo
      have dX := At.new wr #[.int .i64 s, .int .i64 n, .int .i64 bb, .int .i64 o, .int .i64 i] 67
      have hC : RowN (wr.alloc (.cells #[.int .i64 s, .int .i64 n, .int .i64 bb, .int .i64 o, .int .i64 i] 67)) rb big p (.slice (some ⟨b, off, none⟩) len cap) 0 st m0 m1 m2 m3 := At.alloc hC.at _
      have hbs := hbr.size
      replace hbr := hbr.alloc (by omega) (.cells #[.int .i64 s, .int .i64 n, .int .i64 bb, .int .i64 o, .int .i64 i] 67)
      have hXne : wr.heap.size ≠ rb := by omega
      have hE1 := fun w => eql_by' s n bb o i 1 0 0 0 0 w
      have hE2 := fun w => eql_by' s n bb o i 2 0 fb fo (j : Nat) w
      clear hcells hsn hnx2 hxx hlen hb1 hfb hfo
      by_cases hs0 : s = 0
      · subst hs0
        have hz : eqY ⟨0, n, bb, o, i⟩ ⟨1, 0, 0, 0, 0⟩ = false := isZe_st (by decide)
        have hf : eqY ⟨0, n, bb, o, i⟩ ⟨2, 0, fb, fo, (j : Nat)⟩ = false := foll_st (by decide)
        rw [hz] at hE1
        rw [hf] at hE2
        have HZ := Lib.hid hz
        have HF := Lib.hid hf
        clear hz hf
        go_wp2_with fail
        refine (row_add0 rb big p _ 0 st m0 m1 m2 m3 (by omega) _ hC).mono ?_
        rintro e wN1 ⟨rfl, hC2, hoth, hb2⟩
        replace dX := hoth _ _ _ hXne dX
        replace hbr := hbr.trans hb2
        replace hC := hC2
        clear hC2 hoth hb2
        have x0 : wN1.cell? ⟨wr.heap.size, 0, none⟩ = some (.int .i64 0) := dX.cell 0 rfl
        have x1 : wN1.cell? ⟨wr.heap.size, 1, none⟩ = some (.int .i64 n) := dX.cell 1 rfl
        have x2 : wN1.cell? ⟨wr.heap.size, 2, none⟩ = some (.int .i64 bb) := dX.cell 2 rfl
        have x3 : wN1.cell? ⟨wr.heap.size, 3, none⟩ = some (.int .i64 o) := dX.cell 3 rfl
        have x4 : wN1.cell? ⟨wr.heap.size, 4, none⟩ = some (.int .i64 i) := dX.cell 4 rfl
        go_wp2_with fail
        refine (cD _).mono ?_
        rintro e wN2 ⟨rfl, hb2⟩
        replace hbr := hbr.trans (hb2.mono (Nat.le_of_lt (At.lt hC)))
        replace hC : RowN _ rb big p (.slice (some ⟨b, off, none⟩) len cap) 0 st (m0 + 1) m1 m2 m3 := At.below' hb2 hC
        clear hb2 x0 x1 x2 x3 x4
        go_wp2_with fail
        refine (cF (m0 + 1) m1 m2 m3 _ hC (HX.out.below (hb0.trans (hbr.mono hrb))) hpos).mono ?_
        rintro e wN3 ⟨rfl, hb2⟩
        replace hbr := hbr.trans (hb2.mono (Nat.le_of_lt (At.lt hC)))
        replace hC : RowN _ rb big p (.slice (some ⟨b, off, none⟩) len cap) 0 st (m0 + 1) m1 m2 m3 := At.below' hb2 hC
        clear hb2
        go_wp2_with fail
        refine (cP (j : Nat) _).mono ?_
        rintro e wN4 ⟨rfl, hb2⟩
        replace hbr := hbr.trans (hb2.mono (Nat.le_of_lt (At.lt hC)))
        replace hC : RowN _ rb big p (.slice (some ⟨b, off, none⟩) len cap) 0 st (m0 + 1) m1 m2 m3 := At.below' hb2 hC
        clear hb2
        go_wp2
        go_roundw
        case rel => exact ⟨j + 1, by omega, by go_num, cnt_fin hC (by rw [HNX.out.1]; rfl) (by rw [HNX.out.2.1]; rfl) (by rw [HNX.out.2.2.1, show isZe _ = false from HZ.out]; rfl) (by rw [HNX.out.2.2.2, ← HFB.out, ← HFO.out, show eqY _ (parY fb fo (j : Nat)) = false from HF.out]; rfl), hbr⟩
        case measure => simp [intOf]; omega
      by_cases hs2 : s = 2
      · subst hs2
        have hz : eqY ⟨2, n, bb, o, i⟩ ⟨1, 0, 0, 0, 0⟩ = false := isZe_st (by decide)
        cases hf : eqY ⟨2, n, bb, o, i⟩ ⟨2, 0, fb, fo, (j : Nat)⟩
        · rw [hz] at hE1
          rw [hf] at hE2
          have HZ := Lib.hid hz
          have HF := Lib.hid hf
          clear hz hf
          go_wp2_with fail
          refine (row_add1 rb big p _ 0 st m0 m1 m2 m3 (by omega) _ hC).mono ?_
          rintro e wN1 ⟨rfl, hC2, hoth, hb2⟩
          replace dX := hoth _ _ _ hXne dX
          replace hbr := hbr.trans hb2
          replace hC := hC2
          clear hC2 hoth hb2
          have x0 : wN1.cell? ⟨wr.heap.size, 0, none⟩ = some (.int .i64 2) := dX.cell 0 rfl
          have x1 : wN1.cell? ⟨wr.heap.size, 1, none⟩ = some (.int .i64 n) := dX.cell 1 rfl
          have x2 : wN1.cell? ⟨wr.heap.size, 2, none⟩ = some (.int .i64 bb) := dX.cell 2 rfl
          have x3 : wN1.cell? ⟨wr.heap.size, 3, none⟩ = some (.int .i64 o) := dX.cell 3 rfl
          have x4 : wN1.cell? ⟨wr.heap.size, 4, none⟩ = some (.int .i64 i) := dX.cell 4 rfl
          go_wp2_with fail
          refine (cD _).mono ?_
          rintro e wN2 ⟨rfl, hb2⟩
          replace hbr := hbr.trans (hb2.mono (Nat.le_of_lt (At.lt hC)))
          replace hC : RowN _ rb big p (.slice (some ⟨b, off, none⟩) len cap) 0 st m0 (m1 + 1) m2 m3 := At.below' hb2 hC
          clear hb2 x0 x1 x2 x3 x4
          go_wp2_with fail
          refine (cF m0 (m1 + 1) m2 m3 _ hC (HX.out.below (hb0.trans (hbr.mono hrb))) hpos).mono ?_
          rintro e wN3 ⟨rfl, hb2⟩
          replace hbr := hbr.trans (hb2.mono (Nat.le_of_lt (At.lt hC)))
          replace hC : RowN _ rb big p (.slice (some ⟨b, off, none⟩) len cap) 0 st m0 (m1 + 1) m2 m3 := At.below' hb2 hC
          clear hb2
          go_wp2_with fail
          refine (cP (j : Nat) _).mono ?_
          rintro e wN4 ⟨rfl, hb2⟩
          replace hbr := hbr.trans (hb2.mono (Nat.le_of_lt (At.lt hC)))
          replace hC : RowN _ rb big p (.slice (some ⟨b, off, none⟩) len cap) 0 st m0 (m1 + 1) m2 m3 := At.below' hb2 hC
          clear hb2
          go_wp2
          go_roundw
          case rel => exact ⟨j + 1, by omega, by go_num, cnt_fin hC (by rw [HNX.out.1]; rfl) (by rw [HNX.out.2.1]; rfl) (by rw [HNX.out.2.2.1, show isZe _ = false from HZ.out]; rfl) (by rw [HNX.out.2.2.2, ← HFB.out, ← HFO.out, show eqY _ (parY fb fo (j : Nat)) = false from HF.out]; rfl), hbr⟩
          case measure => simp [intOf]; omega
        · rw [hz] at hE1
          rw [hf] at hE2
          have HZ := Lib.hid hz
          have HF := Lib.hid hf
          clear hz hf
          go_wp2_with fail
          refine (row_add1 rb big p _ 0 st m0 m1 m2 m3 (by omega) _ hC).mono ?_
          rintro e wN1 ⟨rfl, hC2, hoth, hb2⟩
          replace dX := hoth _ _ _ hXne dX
          replace hbr := hbr.trans hb2
          replace hC := hC2
          clear hC2 hoth hb2
          have x0 : wN1.cell? ⟨wr.heap.size, 0, none⟩ = some (.int .i64 2) := dX.cell 0 rfl
          have x1 : wN1.cell? ⟨wr.heap.size, 1, none⟩ = some (.int .i64 n) := dX.cell 1 rfl
          have x2 : wN1.cell? ⟨wr.heap.size, 2, none⟩ = some (.int .i64 bb) := dX.cell 2 rfl
          have x3 : wN1.cell? ⟨wr.heap.size, 3, none⟩ = some (.int .i64 o) := dX.cell 3 rfl
          have x4 : wN1.cell? ⟨wr.heap.size, 4, none⟩ = some (.int .i64 i) := dX.cell 4 rfl
          go_wp2_with fail
          refine (cD _).mono ?_
          rintro e wN2 ⟨rfl, hb2⟩
          replace hbr := hbr.trans (hb2.mono (Nat.le_of_lt (At.lt hC)))
          replace hC : RowN _ rb big p (.slice (some ⟨b, off, none⟩) len cap) 0 st m0 (m1 + 1) m2 m3 := At.below' hb2 hC
          clear hb2 x0 x1 x2 x3 x4
          go_wp2_with fail
          refine (cF m0 (m1 + 1) m2 m3 _ hC (HX.out.below (hb0.trans (hbr.mono hrb))) hpos).mono ?_
          rintro e wN3 ⟨rfl, hb2⟩
          replace hbr := hbr.trans (hb2.mono (Nat.le_of_lt (At.lt hC)))
          replace hC : RowN _ rb big p (.slice (some ⟨b, off, none⟩) len cap) 0 st m0 (m1 + 1) m2 m3 := At.below' hb2 hC
          clear hb2
          go_wp2_with fail
          refine (cP (j : Nat) _).mono ?_
          rintro e wN4 ⟨rfl, hb2⟩
          replace hbr := hbr.trans (hb2.mono (Nat.le_of_lt (At.lt hC)))
          replace hC : RowN _ rb big p (.slice (some ⟨b, off, none⟩) len cap) 0 st m0 (m1 + 1) m2 m3 := At.below' hb2 hC
          clear hb2
          go_wp2_with fail
          refine (row_add3 rb big p _ 0 st m0 (m1 + 1) m2 m3 (by omega) _ hC).mono ?_
          rintro e wN5 ⟨rfl, hC2, hoth, hb2⟩
          skip
          replace hbr := hbr.trans hb2
          replace hC := hC2
          clear hC2 hoth hb2
          go_wp2
          go_roundw
          case rel => exact ⟨j + 1, by omega, by go_num, cnt_fin hC (by rw [HNX.out.1]; rfl) (by rw [HNX.out.2.1]; rfl) (by rw [HNX.out.2.2.1, show isZe _ = false from HZ.out]; rfl) (by rw [HNX.out.2.2.2, ← HFB.out, ← HFO.out, show eqY _ (parY fb fo (j : Nat)) = true from HF.out]; rfl), hbr⟩
          case measure => simp [intOf]; omega
      have t0 : (s == 0) = false := by simpa using hs0
      have t2 : (s == 2) = false := by simpa using hs2
      have hf : eqY ⟨s, n, bb, o, i⟩ ⟨2, 0, fb, fo, (j : Nat)⟩ = false := foll_st hs2
      cases hz : eqY ⟨s, n, bb, o, i⟩ ⟨1, 0, 0, 0, 0⟩
      · rw [hz] at hE1
        rw [hf] at hE2
        have HZ := Lib.hid hz
        have HF := Lib.hid hf
        have HS0 := Lib.hid hs0
        have HS2 := Lib.hid hs2
        clear hs0 hs2
        clear hz hf
        go_wp2_with fail
        refine (cD _).mono ?_
        rintro e wN1 ⟨rfl, hb2⟩
        replace hbr := hbr.trans (hb2.mono (Nat.le_of_lt (At.lt hC)))
        replace hC : RowN _ rb big p (.slice (some ⟨b, off, none⟩) len cap) 0 st m0 m1 m2 m3 := At.below' hb2 hC
        clear hb2
        go_wp2_with fail
        refine (cF m0 m1 m2 m3 _ hC (HX.out.below (hb0.trans (hbr.mono hrb))) hpos).mono ?_
        rintro e wN2 ⟨rfl, hb2⟩
        replace hbr := hbr.trans (hb2.mono (Nat.le_of_lt (At.lt hC)))
        replace hC : RowN _ rb big p (.slice (some ⟨b, off, none⟩) len cap) 0 st m0 m1 m2 m3 := At.below' hb2 hC
        clear hb2
        go_wp2_with fail
        refine (cP (j : Nat) _).mono ?_
        rintro e wN3 ⟨rfl, hb2⟩
        replace hbr := hbr.trans (hb2.mono (Nat.le_of_lt (At.lt hC)))
        replace hC : RowN _ rb big p (.slice (some ⟨b, off, none⟩) len cap) 0 st m0 m1 m2 m3 := At.below' hb2 hC
        clear hb2
        go_wp2
        go_roundw
        case rel => exact ⟨j + 1, by omega, by go_num, cnt_fin hC (by rw [HNX.out.1]; simp [isNo, t0]) (by rw [HNX.out.2.1]; simp [isPa, t2]) (by rw [HNX.out.2.2.1, show isZe _ = false from HZ.out]; rfl) (by rw [HNX.out.2.2.2, ← HFB.out, ← HFO.out, show eqY _ (parY fb fo (j : Nat)) = false from HF.out]; rfl), hbr⟩
        case measure => simp [intOf]; omega
      · rw [hz] at hE1
        rw [hf] at hE2
        have HZ := Lib.hid hz
        have HF := Lib.hid hf
        have HS0 := Lib.hid hs0
        have HS2 := Lib.hid hs2
        clear hs0 hs2
        clear hz hf
        go_wp2_with fail
        refine (cD _).mono ?_
        rintro e wN1 ⟨rfl, hb2⟩
        replace hbr := hbr.trans (hb2.mono (Nat.le_of_lt (At.lt hC)))
        replace hC : RowN _ rb big p (.slice (some ⟨b, off, none⟩) len cap) 0 st m0 m1 m2 m3 := At.below' hb2 hC
        clear hb2
        go_wp2_with fail
        refine (row_add2 rb big p _ 0 st m0 m1 m2 m3 (by omega) _ hC).mono ?_
        rintro e wN2 ⟨rfl, hC2, hoth, hb2⟩
        skip
        replace hbr := hbr.trans hb2
        replace hC := hC2
        clear hC2 hoth hb2
        go_wp2
        go_roundw
        case rel => exact ⟨j + 1, by omega, by go_num, cnt_fin hC (by rw [HNX.out.1]; simp [isNo, t0]) (by rw [HNX.out.2.1]; simp [isPa, t2]) (by rw [HNX.out.2.2.1, show isZe _ = true from HZ.out]; rfl) (by rw [HNX.out.2.2.2, ← HFB.out, ← HFO.out, show eqY _ (parY fb fo (j : Nat)) = false from HF.out]; rfl), hbr⟩
        case measure => simp [intOf]; omega
    · obtain rfl : j = len := by omega
      have e : xs.take j = xs := List.take_of_length_le (by omega)
      rw [e] at hC
      have HC := Lib.hid hC
      clear hC e hlen hc
      go_wp2
      go_end0
      exact ⟨rfl, HC.out, hbr⟩
end Go.Proofs.Ytnhbaigagphpmaa
