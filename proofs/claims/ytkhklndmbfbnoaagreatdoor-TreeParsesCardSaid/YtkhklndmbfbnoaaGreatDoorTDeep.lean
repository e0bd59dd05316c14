/- TreeDeep: the statement's walk. -/
import Derived.Test.YtkhklndmbfbnoaaGreatDoorTErr
namespace Go.Proofs.YtkhklndmbfbnoaaGreatDoor
open Go.ChangeShapes Go.WideShapes Go.ChangeAt Go.RowKit Go.Joins Go.Deep
set_option linter.unusedVariables false

def RelD1 (n : Nat) (w : World) (v v4 v5 v6 v7 v8 v9 : Value) (wr : World) : Prop := ∃ (j : Nat) (s4 s5 s6 s7 s8 s9 : ByteArray), j ≤ n ∧ v = .int .i64 (j : Nat) ∧ v4 = .string s4 ∧ v5 = .string s5 ∧ v6 = .string s6 ∧ v7 = .string s7 ∧ v8 = .string s8 ∧ v9 = .string s9 ∧ s4.size ≤ 6 * j ∧ s5.size ≤ j ∧ s6.size ≤ j ∧ s7.size ≤ 9 * j ∧ s8.size ≤ j ∧ s9.size ≤ 2 + 11 * j ∧ wr = w
def RelD2 (TT : List ByteArray) (D : Nat) (w : World) (v : Value) (wr : World) : Prop := ∃ i : Nat, i ≤ 6 ∧ v = .int .i64 (i : Nat) ∧ Below w.heap.size w wr ∧ At wr D (TT.map Value.string).toArray 9
def RelD3 (w : World) (v v19 : Value) (wr : World) : Prop := ∃ (i : Nat) (s : ByteArray), i ≤ 310 ∧ v = .int .i64 (i : Nat) ∧ v19 = .string s ∧ s.size ≤ 5 * i ∧ Below w.heap.size w wr
theorem sz_app (a b : ByteArray) : (a ++ b).size = a.size + b.size := ByteArray.size_append
theorem deep_sizes (n : Nat) (s4 s5 s6 s7 s8 s9 : ByteArray) (hn : n ≤ 24) (z4 : s4.size ≤ 6 * n) (z5 : s5.size ≤ n) (z6 : s6.size ≤ n) (z7 : s7.size ≤ 9 * n) (z8 : s8.size ≤ n) (z9 : s9.size ≤ 2 + 11 * n) : ∀ u ∈ [((((⟨#[97, 61]⟩ ++ s4) ++ ⟨#[49, 58, 117, 56]⟩) ++ s5) ++ ⟨#[59]⟩ : ByteArray), ((⟨#[97, 61]⟩ ++ s6) ++ ⟨#[49, 58, 117, 56, 59]⟩ : ByteArray), ((s7 ++ ⟨#[115, 116, 111, 112, 59]⟩) ++ s8 : ByteArray), ((⟨#[118, 97, 114, 32, 97, 58]⟩ ++ s9) ++ ⟨#[59]⟩ : ByteArray), ((⟨#[97, 91]⟩ ++ s6) ++ ⟨#[49, 58, 117, 56, 93, 61, 49, 58, 117, 56, 59]⟩ : ByteArray), ((((s7 ++ ⟨#[97, 61]⟩) ++ s6) ++ ⟨#[49, 58, 117, 56, 59]⟩) ++ s8 : ByteArray)], u.size ≤ 100000 := by
  intro u hu
  simp only [List.mem_cons, List.not_mem_nil, or_false] at hu
  rcases hu with rfl | rfl | rfl | rfl | rfl | rfl
  · rw [sz_app, sz_app, sz_app, sz_app]; show 2 + _ + 4 + _ + 1 ≤ _; omega
  · rw [sz_app, sz_app]; show 2 + _ + 5 ≤ _; omega
  · rw [sz_app, sz_app]; show _ + 5 + _ ≤ _; omega
  · rw [sz_app, sz_app]; show 6 + _ + 1 ≤ _; omega
  · rw [sz_app, sz_app]; show 2 + _ + 11 ≤ _; omega
  · rw [sz_app, sz_app, sz_app, sz_app]; show _ + 2 + _ + 5 + _ ≤ _; omega
set_option maxRecDepth 1000000 in
set_option maxHeartbeats 6400000 in
theorem treeDeep_any (c0 c1 : Value) (qT : Option Addr) (lT cT : Nat) (w0 : World) (htab : Tab w0) :
    Calls Tryz.prog 6 #[.agg #[c0, c1, .slice qT lT cT]] w0 fun e w' => e = .returned (.bool true) ∧ Below w0.heap.size w0 w' := by
  have cP := fun (t : ByteArray) (ht : t.size ≤ 100000) w => parse_any t (by unfold maxLen; omega) w
  have cR := fun (t : ByteArray) (ht : t.size ≤ 100000) w => rparse_any t (by omega) w
  have cM := fun n w => num11_any n w
  unfold PPost at cP cR
  have hb1 : Below w0.heap.size w0 (w0.alloc (.cells #[c0, c1, .slice qT lT cT] 28)) := boxT w0 _
  have b2 : (w0.alloc (.cells #[c0, c1, .slice qT lT cT] 28)).cell? ⟨w0.heap.size, 2, none⟩ = some (.slice qT lT cT) := (At.new w0 #[c0, c1, .slice qT lT cT] 28).cell 2 rfl
  have hT := htab.below hb1
  obtain ⟨w, hw⟩ : ∃ w, w0.alloc (.cells #[c0, c1, .slice qT lT cT] 28) = w := ⟨_, rfl⟩
  rw [hw] at hb1 b2 hT
  have HB := Lib.hid (And.intro hb1 hT)
  clear hb1 hT htab
  go_enter Tryz.func6, Tryz.ntmps6
  go_upto_region 1 with (fail)
  clear hw
  generalize hBx : w0.heap.size = B at *
  have HBx := Lib.hid hBx
  clear hBx
  go_wp2_with fail
  go_loopw [3] (fun v wr => ∃ n : Nat, n ≤ 24 ∧ v = .int .i64 (n : Nat) ∧ Below w.heap.size w wr) (fun v _ => 24 - (intOf v).toNat)
  case atStart => exact ⟨15, by omega, rfl, Below.refl _ _⟩
  case round =>
    obtain ⟨n, hn, rfl, hbr⟩ := hrel
    by_cases hlt : n < 24
    · have hj3 : (n : Int) < 24 := by omega
      have HBR := Lib.hid hbr
      clear hbr b2
      go_wp2_with fail
      go_loopw [10, 4, 5, 6, 7, 8, 9] (fun v v4 v5 v6 v7 v8 v9 wx => RelD1 n wr v v4 v5 v6 v7 v8 v9 wx) (fun v _ _ _ _ _ _ _ => n - (intOf v).toNat)
      case atStart => exact ⟨0, ⟨#[]⟩, ⟨#[]⟩, ⟨#[]⟩, ⟨#[]⟩, ⟨#[]⟩, ⟨#[117, 56]⟩, by omega, rfl, rfl, rfl, rfl, rfl, rfl, rfl, by decide, by decide, by decide, by decide, by decide, by decide, rfl⟩
      case round =>
        rename_i wz
        obtain ⟨j, s4, s5, s6, s7, s8, s9, hj, rfl, rfl, rfl, rfl, rfl, rfl, rfl, z4, z5, z6, z7, z8, z9, rfl⟩ := hrel
        by_cases hjn : j < n
        · have hj4 : (j : Int) < (n : Int) := by omega
          go_wp2_with fail
          refine ⟨⟨j + 1, _, _, _, _, _, _, by omega, rfl, rfl, rfl, rfl, rfl, rfl, rfl, ?_, ?_, ?_, ?_, ?_, ?_, rfl⟩, by simp [intOf]; omega⟩
          · rw [sz_app]; show _ + 6 ≤ _; omega
          · rw [sz_app]; show _ + 1 ≤ _; omega
          · rw [sz_app]; show _ + 1 ≤ _; omega
          · rw [sz_app]; show _ + 9 ≤ _; omega
          · rw [sz_app]; show _ + 1 ≤ _; omega
          · rw [sz_app, sz_app]; show 9 + _ + 2 ≤ _; omega
        · obtain rfl : j = n := by omega
          have hTs := deep_sizes _ s4 s5 s6 s7 s8 s9 hn z4 z5 z6 z7 z8 z9
          obtain ⟨TT, hTT⟩ : ∃ TT : List ByteArray, TT = [((((⟨#[97, 61]⟩ ++ s4) ++ ⟨#[49, 58, 117, 56]⟩) ++ s5) ++ ⟨#[59]⟩ : ByteArray), ((⟨#[97, 61]⟩ ++ s6) ++ ⟨#[49, 58, 117, 56, 59]⟩ : ByteArray), ((s7 ++ ⟨#[115, 116, 111, 112, 59]⟩) ++ s8 : ByteArray), ((⟨#[118, 97, 114, 32, 97, 58]⟩ ++ s9) ++ ⟨#[59]⟩ : ByteArray), ((⟨#[97, 91]⟩ ++ s6) ++ ⟨#[49, 58, 117, 56, 93, 61, 49, 58, 117, 56, 59]⟩ : ByteArray), ((((s7 ++ ⟨#[97, 61]⟩) ++ s6) ++ ⟨#[49, 58, 117, 56, 59]⟩) ++ s8 : ByteArray)] := ⟨_, rfl⟩
          have hTl : TT.length = 6 := by rw [hTT]; rfl
          have hw2 : wr.alloc (.cells #[.string ((((⟨#[97, 61]⟩ ++ s4) ++ ⟨#[49, 58, 117, 56]⟩) ++ s5) ++ ⟨#[59]⟩ : ByteArray), .string ((⟨#[97, 61]⟩ ++ s6) ++ ⟨#[49, 58, 117, 56, 59]⟩ : ByteArray), .string ((s7 ++ ⟨#[115, 116, 111, 112, 59]⟩) ++ s8 : ByteArray), .string ((⟨#[118, 97, 114, 32, 97, 58]⟩ ++ s9) ++ ⟨#[59]⟩ : ByteArray), .string ((⟨#[97, 91]⟩ ++ s6) ++ ⟨#[49, 58, 117, 56, 93, 61, 49, 58, 117, 56, 59]⟩ : ByteArray), .string ((((s7 ++ ⟨#[97, 61]⟩) ++ s6) ++ ⟨#[49, 58, 117, 56, 59]⟩) ++ s8 : ByteArray)] 9) = wr.alloc (.cells (TT.map Value.string).toArray 9) := by rw [hTT]; rfl
          rw [← hTT] at hTs
          clear hTT
          go_upto_region 13 with (fail)
          try rw [hw2]
          clear hw2
          have hA := At.new wr (TT.map Value.string).toArray 9
          have hbA := boxT wr (.cells (TT.map Value.string).toArray 9)
          clear z4 z5 z6 z7 z8 z9
          have HA := Lib.hid hA
          have HBA := Lib.hid hbA
          have HS := Lib.hid (And.intro hTl hTs)
          generalize hW9 : wr.alloc (.cells (TT.map Value.string).toArray 9) = wa at *
          generalize hD : wr.heap.size = D at *
          have HW9 := Lib.hid (And.intro hW9 hD)
          clear hA hbA hTl hTs hW9 hD
          go_wp2_with fail
          go_loopw [12] (fun v wx => RelD2 TT D wa v wx) (fun v _ => 6 - (intOf v).toNat)
          case atStart => exact ⟨0, by omega, rfl, Below.refl _ _, HA.out⟩
          case round =>
            obtain ⟨i, hi, rfl, hbi, hAi⟩ := hrel
            by_cases hi6 : i < 6
            · obtain ⟨t, ht⟩ : ∃ t, t = TT.getD i ⟨#[]⟩ := ⟨_, rfl⟩
              have hie : i < TT.length := by rw [HS.out.1]; exact hi6
              have hts : t.size ≤ 100000 := HS.out.2 t (by rw [ht, List.getD_eq_getElem?_getD, List.getElem?_eq_getElem hie]; exact List.getElem_mem hie)
              have c1t : wr.cell? ⟨D, i, none⟩ = some (.string t) := hAi.cell i (by rw [ht, List.getElem?_toArray, List.getElem?_map, List.getD_eq_getElem?_getD, List.getElem?_eq_getElem hie]; rfl)
              have hj5 : (i : Int) < 6 := by omega
              have HR := Lib.hid hAi
              clear ht hie hAi
              have c1 := cP t hts
              have c2 := cR t hts
              generalize parseR t.data.toList = pr at *
              obtain ⟨pX, pa, pe⟩ := pr
              dsimp only at c1 c2
              go_wp2_with fail
              refine (c1 _).mono ?_
              rintro e w2 ⟨tv, X, rfl, hR, hX, hb2⟩
              have c1t2 := cell_below c1t hb2
              clear c1 c1t
              go_wp2_with fail
              refine (c2 _).mono ?_
              rintro e w3 ⟨tv2, Y, rfl, hR2, hY, hb3⟩
              have cE := eqNodes_same tv tv2 X Y (hX.trans hY.symm) w3 (hR.nds.below hb3) hR2.nds
              have hb23 := hb2.trans (hb3.mono hb2.size)
              have H23 := Lib.hid hb23
              clear c2 hR hR2 hb2 hb3 hb23 hX hY c1t2
              go_wp2_with (go_at_call 13; (with_reducible refine (cM _ _).mono ?_); rintro e w' ⟨rfl, rfl⟩)
              refine cE.mono ?_
              rintro e w4 ⟨rfl, hb4⟩
              have H4 := Lib.hid (H23.out.trans (hb4.mono H23.out.size))
              clear cE hb4
              clear hts
              go_wp2_with fail
              go_roundw
              case rel => exact ⟨i + 1, by omega, by go_num, hbi.trans (H4.out.mono hbi.size), At.below' H4.out HR.out⟩
              case measure => simp [intOf]; omega
            · obtain rfl : i = 6 := by omega
              have HB9 := Lib.hid hbi
              clear hbi hAi
              go_wp2_with fail
              have h1 := HBR.out
              have h2 := HBA.out
              have h3 := HB9.out
              have e9 := HW9.out.2
              have hfin : Below w.heap.size w wr := h1.trans ((h2.trans (h3.mono (by rw [← e9]; exact h2.size))).mono (by rw [← e9]; exact h1.size))
              exact ⟨⟨j + 1, by omega, rfl, hfin⟩, by simp [intOf]; omega⟩
    · have hj3 : ¬ (n : Int) < 24 := by omega
      have HB3 := Lib.hid (And.intro hbr (And.intro (cell_below b2 hbr) (HB.out.2.below hbr)))
      clear hbr b2
      go_wp2_with fail
      go_loopw [20, 19] (fun v v19 wx => RelD3 wr v v19 wx) (fun v _ _ => 310 - (intOf v).toNat)
      case atStart => exact ⟨0, ⟨#[]⟩, by omega, rfl, rfl, by decide, Below.refl _ _⟩
      case round =>
        obtain ⟨i, s, hi, rfl, rfl, hs, hbi⟩ := hrel
        by_cases hi6 : i < 310
        · have hj5 : (i : Int) < 310 := by omega
          obtain ⟨t, ht⟩ : ∃ t, t = s ++ ⟨#[115, 116, 111, 112, 59]⟩ := ⟨_, rfl⟩
          have htz : t.size ≤ 5 * (i + 1) := by rw [ht, sz_app]; show _ + 5 ≤ _; omega
          have hts : t.size ≤ 100000 := by omega
          rw [eq_comm] at ht
          by_cases h285 : i < 285
          · have hj6 : (i : Int) < 285 := by omega
            clear hts
            go_wp2_with fail
            go_roundw
            case rel => exact ⟨i + 1, t, by omega, by go_num, by rw [← ht], htz, hbi⟩
            case measure => simp [intOf]; omega
          · have hj6 : ¬ (i : Int) < 285 := by omega
            go_upto_region 26 with (fail)
            try rw [ht]
            have HTT := Lib.hid (And.intro ht htz)
            clear ht htz
            have c1 := cP t hts
            have c2 := cR t hts
            generalize parseR t.data.toList = pr at *
            obtain ⟨pX, pa, pe⟩ := pr
            dsimp only at c1 c2
            go_wp2_with fail
            refine (c1 _).mono ?_
            rintro e w2 ⟨tv, X, rfl, hR, hX, hb2⟩
            clear c1
            go_wp2_with fail
            refine (c2 _).mono ?_
            rintro e w3 ⟨tv2, Y, rfl, hR2, hY, hb3⟩
            have cE := eqNodes_same tv tv2 X Y (hX.trans hY.symm) w3 (hR.nds.below hb3) hR2.nds
            have hb23 := hb2.trans (hb3.mono hb2.size)
            have H23 := Lib.hid hb23
            clear c2 hR hR2 hb2 hb3 hb23 hX hY
            go_wp2_with (go_at_call 13; (with_reducible refine (cM _ _).mono ?_); rintro e w' ⟨rfl, rfl⟩)
            refine cE.mono ?_
            rintro e w4 ⟨rfl, hb4⟩
            have H4 := Lib.hid (H23.out.trans (hb4.mono H23.out.size))
            clear cE hb4
            clear hts
            go_wp2_with fail
            go_roundw
            case rel => exact ⟨i + 1, t, by omega, by go_num, rfl, HTT.out.2, hbi.trans (H4.out.mono hbi.size)⟩
            case measure => simp [intOf]; omega
        · obtain rfl : i = 310 := by omega
          have b3 := cell_below HB3.out.2.1 hbi
          have cW := wakes11_any wr (HB3.out.2.2.below hbi)
          have hge : (0 : Int) ≤ (lT : Int) := by omega
          have HH := Lib.hid (HB3.out.1.trans (hbi.mono HB3.out.1.size))
          clear hbi hs cP cR
          go_wp2_with fail
          refine cW.mono ?_
          rintro e w2 ⟨rfl, hb2⟩
          have FIN : Hid (Below w0.heap.size w0 w2) := Lib.hid (by have h1 : Below B w0 w := HB.out.1; rw [HBx.out]; exact h1.trans ((HH.out.trans (hb2.mono HH.out.size)).mono (by rw [← HBx.out]; exact h1.size)))
          clear cW b3 hb2
          go_wp2_with fail
          go_ret
          exact ⟨rfl, FIN.out⟩
end Go.Proofs.YtkhklndmbfbnoaaGreatDoor
