/- MemEdges: its walk. -/
import Derived.Test.YtoooddjlgbflfaaKOver
namespace Go.Proofs.Ytoooddjlgbflfaa
open Go.ChangeShapes Go.WideShapes Go.ChangeAt Go.RowKit Go.Joins Go.Deep
set_option linter.unusedVariables false

/-- the blocks that are played -/
def fiveM (v : Option Addr) (c : Nat) (ys : List BY) : List BK := [⟨0, none, 0, []⟩, ⟨1, v, c, ys⟩, ⟨2, none, 0, []⟩, ⟨3, none, 0, []⟩, ⟨0, none, 0, []⟩]
theorem five_may {v : Option Addr} {c : Nat} {ys : List BY} (h : ys.length ≤ 32) (hm : maysY ys = true) : mayM (fiveM v c ys) = true := by
  have e : mayK ⟨1, v, c, ys⟩ = true := by rw [mayK_1]; simp [h, hm]
  refine mayM_of ⟨by simp [fiveM], by simp [fiveM]⟩ rfl fun i hi => ?_
  have : i = 0 ∨ i = 1 ∨ i = 2 ∨ i = 3 ∨ i = 4 := by simp [fiveM] at hi; omega
  rcases this with rfl | rfl | rfl | rfl | rfl
  · rfl
  · exact e
  · rfl
  · rfl
  · rfl
theorem five_has {v : Option Addr} {c : Nat} {ys : List BY} (h : ys.length ≤ 32) (hm : maysY ys = true) (b o : Nat) (hb : b < 5) (ho : o ≤ 32) (h0 : b = 0 → o = 0) : hasM (fiveM v c ys) (pt (b : Nat) (o : Nat)) = true := by
  unfold hasM
  rw [five_may h hm]
  simp only [Bool.true_and, Bool.and_eq_true, decide_eq_true_eq]
  refine ⟨?_, ?_⟩
  · rw [pt, mayS7, mayP_eq]
    simp [upTo]
    omega
  · show ((b : Nat) : Int) < 5
    omega
theorem isMem_five {w : World} {g : Nat} {v : Option Addr} {c n : Nat} {ys : List BY} (hl : ys.length = n) (hg : At w g #[.int .i64 0, .slice none 0 0, .int .i64 1, .slice v n c, .int .i64 2, .slice none 0 0, .int .i64 3, .slice none 0 0, .int .i64 0, .slice none 0 0] 72) (hb : IsBys w v n ys) (hc : n ≤ c) (hn : v = none → c = 0) : IsMem w (some ⟨g, 0, none⟩) 5 (fiveM v c ys) := by
  subst hl
  refine ⟨by decide, rfl, fun _ => ⟨g, 0, rfl, hg.lt, fun i hi => ?_⟩⟩
  have : i = 0 ∨ i = 1 ∨ i = 2 ∨ i = 3 ∨ i = 4 := by omega
  have z : IsBys w none 0 [] := ⟨Nat.zero_le _, rfl, fun h => absurd h (Nat.lt_irrefl 0)⟩
  rcases this with rfl | rfl | rfl | rfl | rfl
  · exact ⟨hg.cell 0 rfl, hg.cell 1 rfl, z, Nat.le_refl _, fun _ => rfl⟩
  · exact ⟨hg.cell 2 rfl, hg.cell 3 rfl, hb, hc, hn⟩
  · exact ⟨hg.cell 4 rfl, hg.cell 5 rfl, z, Nat.le_refl _, fun _ => rfl⟩
  · exact ⟨hg.cell 6 rfl, hg.cell 7 rfl, z, Nat.le_refl _, fun _ => rfl⟩
  · exact ⟨hg.cell 8 rfl, hg.cell 9 rfl, z, Nat.le_refl _, fun _ => rfl⟩
/-- a row of bytes of the call's own, as far as it is made -/
def RelEi (n : Nat) (w0 : World) (v4 v5 : Value) (wr : World) : Prop := ∃ (i : Nat) (ys : List BY), i ≤ n ∧ v5 = .int .i64 (i : Nat) ∧ ys.length = i ∧ maysY ys = true ∧ wr.ownsRow w0.heap.size 51 5 v4 i (flatY ys) ∧ Below w0.heap.size w0 wr
theorem own_set {w : World} {base X : Nat} {v : Value} {n i : Nat} {xs : List Value} {u : Value} (h : w.ownsRow base 51 5 v n xs) (hX : v.ownBlock ≠ some X) : (w.setCell ⟨X, i, none⟩ u).ownsRow base 51 5 v n xs := ownsRow_setCell_other h (a := ⟨X, i, none⟩) hX u
def RelEd (w0 : World) (v : Value) (wr : World) : Prop := ∃ k : Nat, 1 ≤ k ∧ k ≤ 8 ∧ v = .int .i64 (k : Nat) ∧ Below w0.heap.size w0 wr
def RelEn (w0 : World) (v : Value) (wr : World) : Prop := ∃ q : Nat, q ≤ 7 ∧ v = .int .i64 (q : Nat) ∧ Below w0.heap.size w0 wr
def RelEk (m : Nat) (w0 : World) (v : Value) (wr : World) : Prop := ∃ q : Nat, q ≤ m ∧ v = .int .i64 (q : Nat) ∧ Below w0.heap.size w0 wr
theorem isBys_own {w : World} {base : Nat} {v : Value} {ys : List BY} {n : Nat} (h : w.ownsRow base 51 5 v n (flatY ys)) (hn : ys.length = n) (hm : n ≤ 1000) : ∃ q c, v = .slice q n c ∧ IsBys w q n ys ∧ n ≤ c ∧ (q = none → c = 0) := by
  subst hn
  by_cases hv : v = .slice none 0 0
  · obtain ⟨hl, ⟨_, hn⟩ | ⟨g, cap, cur, he, _⟩⟩ := h
    · subst hv
      exact ⟨none, 0, by rw [hn], ⟨hm, rfl, fun h => by omega⟩, by omega, fun _ => rfl⟩
    · rw [hv] at he; cases he
  · obtain ⟨g, cap, rfl, hge, hrow, hcap⟩ := ownY_own h hv
    exact ⟨some ⟨g, 0, none⟩, cap, rfl, hrow.isBys rfl hm, hcap, fun h => by cases h⟩
/-- one look at what lies there: the page's -/
theorem look_eq (w : World) (s : SC) (bad : Int) : (binOp .neq 33 (scA s) (scA s)).run Try.prog w = .ok (.bool false) w := by
  obtain ⟨p, n, b, o⟩ := s
  have := neq_sc' p n b o p n b o w
  rw [eqS_refl] at this
  exact this
set_option maxRecDepth 100000 in
set_option maxHeartbeats 12800000 in
theorem edges_any (pm ps pn pa : Option Addr) (lm cm ls cs ln cn la ca : Nat) (hn : ln ≤ 140737488355328) (w : World) :
    Calls Try.prog 7 #[.agg #[.slice pm lm cm, .slice ps ls cs, .slice pn ln cn, .slice pa la ca]] w fun e w' => e = .returned (.bool true) ∧ Below w.heap.size w w' := by
  have dK := At.new w #[.slice pm lm cm, .slice ps ls cs, .slice pn ln cn, .slice pa la ca] 55
  have hb0 := below_box1 w (.cells #[.slice pm lm cm, .slice ps ls cs, .slice pn ln cn, .slice pa la ca] 55)
  have cN := fun x w => num9_any x w
  have cW := fun w => wakes9_any w
  have cK := fun w => Kind_any 7 w
  have HN := Lib.hid hn
  clear hn
  go_enter Try.func7, Try.ntmps7
  go_wp2_with fail
  generalize w.alloc (.cells #[.slice pm lm cm, .slice ps ls cs, .slice pn ln cn, .slice pa la ca] 55) = w1 at *
  go_loopw [3] (fun v wr => RelEn w1 v wr) (fun v _ => 7 - (intOf v).toNat)
  case atStart => exact ⟨0, by omega, rfl, Below.refl _ _⟩
  case round =>
    obtain ⟨n, hn7, rfl, hbr⟩ := hrel
    by_cases hlt : n < 7
    · have hn6 : (n : Int) ≤ 6 := by omega
      have dK2 := At.below' hbr dK
      have hKl : w.heap.size < wr.heap.size := dK2.lt
      obtain ⟨w2, hw2⟩ : ∃ w2, w2 = wr := ⟨_, rfl⟩
      rw [← hw2] at dK2 hKl hbr ⊢
      clear hw2
      go_wp2_with fail
      go_loopw [4, 5] (fun v4 v5 wr => RelEi n w2 v4 v5 wr) (fun _ v5 _ => n - (intOf v5).toNat)
      case atStart => exact ⟨0, [], by omega, rfl, rfl, rfl, World.ownsRow_nil _ _ _ _, Below.refl _ _⟩
      case round =>
        obtain ⟨i, ys, hi, rfl, hyl, hym, hown, hbi⟩ := hrel
        by_cases hin : i < n
        · have hin3 : (i : Int) < (n : Int) := by omega
          have hi250 : i * 50 ≤ 255 := by omega
          have dK3 := At.below' hbi dK2
          obtain ⟨r7, hr7⟩ : ∃ r7 : Nat, r7 = (ln + n) % 7 := ⟨_, rfl⟩
          have e7 : ((ln : Int) + (n : Int)) % 7 = (r7 : Nat) := by omega
          have hln := HN.out
          have hno : u4.ownBlock ≠ some wr.heap.size := fun hh => by have := (hown.lt _ hh).2; omega
          obtain ⟨i0, hi0, hz0, hz1, hz2⟩ := info_parts Try.infoByte
          have dX := At.new wr #[.int .i64 1, .int .i64 ((i : Int) * 50), .int .i64 0, .int .i64 0, .int .i64 0] 51
          have hbA := hbi.alloc hbi.size (.cells #[.int .i64 1, .int .i64 ((i : Int) * 50), .int .i64 0, .int .i64 0, .int .i64 0] 51)
          have hownA := hown.alloc (.cells #[.int .i64 1, .int .i64 ((i : Int) * 50), .int .i64 0, .int .i64 0, .int .i64 0] 51)
          have k2 := (At.alloc dK3 (.cells #[.int .i64 1, .int .i64 ((i : Int) * 50), .int .i64 0, .int .i64 0, .int .i64 0] 51)).cell 2 rfl
          have hKl3 : w.heap.size < wr.heap.size := dK3.lt
          have HBI := Lib.hid hbi
          have HOW := Lib.hid hown
          have HYL := Lib.hid hyl
          have HYM := Lib.hid hym
          clear hr7 hyl hym hown hbi dK3
          by_cases hir : i = r7
          · have t1 : ((i : Int) == (r7 : Int)) = true := by rw [beq_iff_eq]; omega
            have t2 : (i == r7) = true := by rw [beq_iff_eq]; exact hir
            clear hir
            clear dX hbA hownA
            go_upto_region 11 with (fail)
            have dY := At.new wr #[.int .i64 0, .int .i64 0, .int .i64 0, .int .i64 0, .int .i64 0] 51
            have hbB := HBI.out.alloc HBI.out.size (.cells #[.int .i64 0, .int .i64 0, .int .i64 0, .int .i64 0, .int .i64 0] 51)
            have hownB := HOW.out.alloc (.cells #[.int .i64 0, .int .i64 0, .int .i64 0, .int .i64 0, .int .i64 0] 51)
            generalize (wr.alloc (.cells #[.int .i64 0, .int .i64 0, .int .i64 0, .int .i64 0, .int .i64 0] 51)) = w5 at *
            clear k2
            have y0 : w5.cell? ⟨wr.heap.size, 0, none⟩ = some (.int .i64 0) := dY.cell 0 rfl
            have y1 : w5.cell? ⟨wr.heap.size, 1, none⟩ = some (.int .i64 0) := dY.cell 1 rfl
            have y2 : w5.cell? ⟨wr.heap.size, 2, none⟩ = some (.int .i64 0) := dY.cell 2 rfl
            have y3 : w5.cell? ⟨wr.heap.size, 3, none⟩ = some (.int .i64 0) := dY.cell 3 rfl
            have y4 : w5.cell? ⟨wr.heap.size, 4, none⟩ = some (.int .i64 0) := dY.cell 4 rfl
            have hown0 := hownB.alloc (.cells #[.int .i64 0, .int .i64 0, .int .i64 0, .int .i64 0, .int .i64 0] 51)
            have hbC := hbB.alloc hbB.size (.cells #[.int .i64 0, .int .i64 0, .int .i64 0, .int .i64 0, .int .i64 0] 51)
            clear dY hownB hbB
            go_wp2_with ((at_builtin; go_must (refine wpList_append_own _ rfl _ _ 24 rfl w2.heap.size 51 i0 _ 5 40 Try.underlying24 hi0 hz0 hz1 hz2 rfl (by decide) _ i (flatY ys) rfl hown0 ⟨w5.heap.size, 0, none⟩ 1 1 [.int .i64 0, .int .i64 0, .int .i64 0, .int .i64 0, .int .i64 0] rfl rfl (World.news_of_block (cs := #[.int .i64 0, .int .i64 0, .int .i64 0, .int .i64 0, .int .i64 0]) (t := 51) (fr := (0, 0)) (heap_alloc_new w5 _)) (by simp [Value.oneCell']) (by unfold maxLen; omega) (by omega) hbC.size ?_)))
            intro v3 w6 hown3 hgrow _
            have hbF := hbC.grown hgrow hbC.size (fun i hi => ownY_ge hown0 hi)
            have hown4 : w6.ownsRow w2.heap.size 51 5 v3 (i + 1) (flatY (ys ++ [noY])) := by rw [flatY_snoc]; exact hown3
            clear hown0 hbC hgrow hown3 hi0 hz0 hz1 hz2 y0 y1 y2 y3 y4 e7
            go_wp2_with fail
            go_roundw
            case rel => exact ⟨i + 1, ys ++ [noY], by omega, by go_num, by simp [HYL.out], by rw [mays_snoc, HYM.out]; rfl, hown4, hbF⟩
            case measure => simp [intOf]; omega
          · have t1 : ((i : Int) == (r7 : Int)) = false := by rw [beq_eq_false_iff_ne]; omega
            have t2 : (i == r7) = false := by rw [beq_eq_false_iff_ne]; exact hir
            clear hir
            go_upto_region 11 with (fail)
            generalize (wr.alloc (.cells #[.int .i64 1, .int .i64 ((i : Int) * 50), .int .i64 0, .int .i64 0, .int .i64 0] 51)) = w5 at *
            clear k2
            have y0 : w5.cell? ⟨wr.heap.size, 0, none⟩ = some (.int .i64 1) := dX.cell 0 rfl
            have y1 : w5.cell? ⟨wr.heap.size, 1, none⟩ = some (.int .i64 ((i : Int) * 50)) := dX.cell 1 rfl
            have y2 : w5.cell? ⟨wr.heap.size, 2, none⟩ = some (.int .i64 0) := dX.cell 2 rfl
            have y3 : w5.cell? ⟨wr.heap.size, 3, none⟩ = some (.int .i64 0) := dX.cell 3 rfl
            have y4 : w5.cell? ⟨wr.heap.size, 4, none⟩ = some (.int .i64 0) := dX.cell 4 rfl
            have hown0 := hownA.alloc (.cells #[.int .i64 1, .int .i64 ((i : Int) * 50), .int .i64 0, .int .i64 0, .int .i64 0] 51)
            have hbC := hbA.alloc hbA.size (.cells #[.int .i64 1, .int .i64 ((i : Int) * 50), .int .i64 0, .int .i64 0, .int .i64 0] 51)
            clear dX hownA hbA
            go_wp2_with ((at_builtin; go_must (refine wpList_append_own _ rfl _ _ 24 rfl w2.heap.size 51 i0 _ 5 40 Try.underlying24 hi0 hz0 hz1 hz2 rfl (by decide) _ i (flatY ys) rfl hown0 ⟨w5.heap.size, 0, none⟩ 1 1 [.int .i64 1, .int .i64 ((i : Int) * 50), .int .i64 0, .int .i64 0, .int .i64 0] rfl rfl (World.news_of_block (cs := #[.int .i64 1, .int .i64 ((i : Int) * 50), .int .i64 0, .int .i64 0, .int .i64 0]) (t := 51) (fr := (0, 0)) (heap_alloc_new w5 _)) (by simp [Value.oneCell']) (by unfold maxLen; omega) (by omega) hbC.size ?_)))
            intro v3 w6 hown3 hgrow _
            have hbF := hbC.grown hgrow hbC.size (fun i hi => ownY_ge hown0 hi)
            have hown4 : w6.ownsRow w2.heap.size 51 5 v3 (i + 1) (flatY (ys ++ [digY ((i : Int) * 50)])) := by rw [flatY_snoc]; exact hown3
            have hmx : mayY (digY ((i : Int) * 50)) = true := by rw [digY, mayY_1]; simp [upTo]; omega
            have HMX := Lib.hid hmx
            clear hown0 hbC hgrow hown3 hi0 hz0 hz1 hz2 y0 y1 y2 y3 y4 e7 hmx
            go_wp2_with fail
            go_roundw
            case rel => exact ⟨i + 1, ys ++ [digY ((i : Int) * 50)], by omega, by go_num, by simp [HYL.out], by rw [mays_snoc, HYM.out, HMX.out]; rfl, hown4, hbF⟩
            case measure => simp [intOf]; omega
        · obtain rfl : i = n := by omega
          obtain ⟨q, c, rfl, hys, hcap, hq⟩ := isBys_own hown hyl (by omega)
          have hG := At.new wr #[.int .i64 0, .slice none 0 0, .int .i64 1, .slice q i c, .int .i64 2, .slice none 0 0, .int .i64 3, .slice none 0 0, .int .i64 0, .slice none 0 0] 72
          have hbG := hbi.alloc hbi.size (.cells #[.int .i64 0, .slice none 0 0, .int .i64 1, .slice q i c, .int .i64 2, .slice none 0 0, .int .i64 3, .slice none 0 0, .int .i64 0, .slice none 0 0] 72)
          have hmem := isMem_five hyl hG (hys.below (below_box1 wr _)) hcap hq
          have hhas := fun b o hb ho h0 => five_has (v := q) (c := c) (ys := ys) (by omega) hym b o hb ho h0
          have hbW := hbr.trans (hbG.mono hbr.size)
          obtain ⟨r2, hr2⟩ : ∃ r2 : Nat, r2 = i % 2 := ⟨_, rfl⟩
          have e2 : (i : Int) % 2 = (r2 : Nat) := by omega
          have hpA : mayA (2 + 2 * (r2 : Int)) := by unfold mayA; omega
          have HPA := Lib.hid hpA
          have HM := Lib.hid hmem
          have HH := Lib.hid hhas
          have HBW := Lib.hid hbW
          clear hr2 hpA hmem hhas hbW hbi hys hcap hq hym hyl hown hG hbG hbr dK2 hKl
          go_wp2_with fail
          generalize fiveM q c ys = m at *
          generalize (wr.alloc (.cells #[.int .i64 0, .slice none 0 0, .int .i64 1, .slice q i c, .int .i64 2, .slice none 0 0, .int .i64 3, .slice none 0 0, .int .i64 0, .slice none 0 0] 72)) = w3 at *
          generalize wr.heap.size = G at *
          go_loopw [8] (fun v wr => RelEk (i + 3) w3 v wr) (fun v _ => (i + 3) - (intOf v).toNat)
          case atStart => exact ⟨0, by omega, rfl, Below.refl _ _⟩
          case round =>
            obtain ⟨off, hof, rfl, hbo⟩ := hrel
            by_cases hol : off < i + 3
            · have ho3 : (off : Int) ≤ (i : Int) + 2 := by omega
              obtain ⟨w4, hw4⟩ : ∃ w4, w4 = wr := ⟨_, rfl⟩
              rw [← hw4] at hbo ⊢
              clear hw4
              go_wp2_with fail
              go_loopw [9] (fun v wr => RelEd w4 v wr) (fun v _ => 8 - (intOf v).toNat)
              case atStart => exact ⟨1, by omega, by omega, rfl, Below.refl _ _⟩
              case round =>
                obtain ⟨k, hk1, hk8, rfl, hbk⟩ := hrel
                by_cases hkl : k < 8
                · have hk3 : (k : Int) ≤ 7 := by omega
                  have hkk : 1 ≤ (k : Int) ∧ (k : Int) ≤ 7 := by omega
                  have HKK := Lib.hid hkk
                  obtain ⟨w5, hw5⟩ : ∃ w5, w5 = wr := ⟨_, rfl⟩
                  rw [← hw5] at hbk ⊢
                  clear hw5 hkk
                  go_wp2_with fail
                  go_loopw [10] (fun v wr => RelEk 5 w5 v wr) (fun v _ => 5 - (intOf v).toNat)
                  case atStart => exact ⟨0, by omega, rfl, Below.refl _ _⟩
                  case round =>
                    obtain ⟨b, hb5, rfl, hbb⟩ := hrel
                    by_cases hbl : b < 5
                    · have hb3 : (b : Int) < 5 := by omega
                      have hM5 := ((HM.out.below hbo).below hbk).below hbb
                      have HM5 := Lib.hid hM5
                      clear hM5
                      have hro : off % 2 = 0 ∨ off % 2 = 1 := by omega
                      by_cases hb0' : b = 0
                      · subst hb0'
                        have hh := HH.out 0 0 (by omega) (by omega) (fun _ => rfl)
                        rcases hro with hro | hro
                        · have er : (off : Int) % 2 = 0 := by omega
                          clear hro
                          have dT := At.alloc (At.new wr #[.bool true, .int .i64 0, .int .i64 0, .int .i64 0] 33) (.cells #[.bool true, .int .i64 (2 + 2 * (r2 : Int))] 38)
                          have dA := At.new2 wr (.cells #[.bool true, .int .i64 0, .int .i64 0, .int .i64 0] 33) #[.bool true, .int .i64 (2 + 2 * (r2 : Int))] 38
                          have hb2 := below_box2 wr (.cells #[.bool true, .int .i64 0, .int .i64 0, .int .i64 0] 33) (.cells #[.bool true, .int .i64 (2 + 2 * (r2 : Int))] 38)
                          have hM6 := HM5.out.below hb2
                          have hb6 := hbb.trans (hb2.mono hbb.size)
                          have HB6 := Lib.hid hb6
                          have HM6 := Lib.hid hM6
                          have DT := Lib.hid dT
                          have DA := Lib.hid dA
                          clear hb2 hb6 hM6 dT dA hbb HM5
                          go_upto_region 26 with (fail)
                          generalize ((wr.alloc (.cells #[.bool true, .int .i64 0, .int .i64 0, .int .i64 0] 33)).alloc (.cells #[.bool true, .int .i64 (2 + 2 * (r2 : Int))] 38)) = w6 at *
                          generalize wr.heap.size = TX at *
                          have a0 : w6.cell? ⟨TX + 1, 0, none⟩ = some (.bool true) := DA.out.cell 0 rfl
                          have a1 : w6.cell? ⟨TX + 1, 1, none⟩ = some (.int .i64 (2 + 2 * (r2 : Int))) := DA.out.cell 1 rfl
                          have t0 : w6.cell? ⟨TX, 0, none⟩ = some (.bool true) := DT.out.cell 0 rfl
                          have t1 : w6.cell? ⟨TX, 1, none⟩ = some (.int .i64 0) := DT.out.cell 1 rfl
                          have t2 : w6.cell? ⟨TX, 2, none⟩ = some (.int .i64 0) := DT.out.cell 2 rfl
                          have t3 : w6.cell? ⟨TX, 3, none⟩ = some (.int .i64 0) := DT.out.cell 3 rfl
                          have cL := Load_yes true (2 + 2 * (r2 : Int)) (k : Nat) (some ⟨G, 0, none⟩) 5 5 m (pt 0 0) HPA.out HKK.out hh w6 HM6.out
                          have cR := fun w hx => rLoad_any true (2 + 2 * (r2 : Int)) (k : Nat) (some ⟨G, 0, none⟩) 5 5 m (pt 0 0) HPA.out HKK.out hh w hx
                          generalize loadS true (2 + 2 * (r2 : Int)) (k : Nat) m (pt 0 0) = R at *
                          obtain ⟨⟨rp, rn, rbk, ro⟩, rbad⟩ := R
                          simp only [scV_pt] at cL cR
                          unfold LoadPost scA at cL
                          unfold RLoadPost scA at cR
                          dsimp only at cL cR
                          go_wp2_with fail
                          refine cL.mono ?_
                          rintro e w7 ⟨rfl, hb7⟩
                          replace hb7 := hb7.alloc hb7.size (.cells #[.bool rp, .int .i64 rn, .int .i64 rbk, .int .i64 ro] 33)
                          have DX := Lib.hid (At.new w7 #[.bool rp, .int .i64 rn, .int .i64 rbk, .int .i64 ro] 33)
                          replace DT := Lib.hid (At.below' hb7 DT.out)
                          replace DA := Lib.hid (At.below' hb7 DA.out)
                          replace HM6 := Lib.hid (HM6.out.below hb7)
                          replace HB6 := Lib.hid (HB6.out.trans (hb7.mono HB6.out.size))
                          clear hb7 cL a0 a1 t0 t1 t2 t3 hh
                          go_upto_region 27 with (fail)
                          generalize w7.alloc (.cells #[.bool rp, .int .i64 rn, .int .i64 rbk, .int .i64 ro] 33) = w8 at *
                          generalize w7.heap.size = XX at *
                          have a0 : w8.cell? ⟨TX + 1, 0, none⟩ = some (.bool true) := DA.out.cell 0 rfl
                          have a1 : w8.cell? ⟨TX + 1, 1, none⟩ = some (.int .i64 (2 + 2 * (r2 : Int))) := DA.out.cell 1 rfl
                          have t0 : w8.cell? ⟨TX, 0, none⟩ = some (.bool true) := DT.out.cell 0 rfl
                          have t1 : w8.cell? ⟨TX, 1, none⟩ = some (.int .i64 0) := DT.out.cell 1 rfl
                          have t2 : w8.cell? ⟨TX, 2, none⟩ = some (.int .i64 0) := DT.out.cell 2 rfl
                          have t3 : w8.cell? ⟨TX, 3, none⟩ = some (.int .i64 0) := DT.out.cell 3 rfl
                          go_wp2_with fail
                          refine (cR _ HM6.out).mono ?_
                          rintro e w9 ⟨rfl, hb7⟩
                          replace hb7 := hb7.alloc hb7.size (.cells #[.bool rp, .int .i64 rn, .int .i64 rbk, .int .i64 ro] 33)
                          have DW := Lib.hid (At.new w9 #[.bool rp, .int .i64 rn, .int .i64 rbk, .int .i64 ro] 33)
                          replace DX := Lib.hid (At.below' hb7 DX.out)
                          replace HB6 := Lib.hid (HB6.out.trans (hb7.mono HB6.out.size))
                          clear hb7 cR a0 a1 t0 t1 t2 t3 HM6 DT DA
                          go_upto_region 28 with (fail)
                          generalize w9.alloc (.cells #[.bool rp, .int .i64 rn, .int .i64 rbk, .int .i64 ro] 33) = w10 at *
                          generalize w9.heap.size = WX at *
                          have x0 : w10.cell? ⟨XX, 0, none⟩ = some (.bool rp) := DX.out.cell 0 rfl
                          have x1 : w10.cell? ⟨XX, 1, none⟩ = some (.int .i64 rn) := DX.out.cell 1 rfl
                          have x2 : w10.cell? ⟨XX, 2, none⟩ = some (.int .i64 rbk) := DX.out.cell 2 rfl
                          have x3 : w10.cell? ⟨XX, 3, none⟩ = some (.int .i64 ro) := DX.out.cell 3 rfl
                          have y0 : w10.cell? ⟨WX, 0, none⟩ = some (.bool rp) := DW.out.cell 0 rfl
                          have y1 : w10.cell? ⟨WX, 1, none⟩ = some (.int .i64 rn) := DW.out.cell 1 rfl
                          have y2 : w10.cell? ⟨WX, 2, none⟩ = some (.int .i64 rbk) := DW.out.cell 2 rfl
                          have y3 : w10.cell? ⟨WX, 3, none⟩ = some (.int .i64 ro) := DW.out.cell 3 rfl
                          have hNE := fun w => neq_sc' rp rn rbk ro rp rn rbk ro w
                          rw [eqS_refl] at hNE
                          have hbb2 : (rbad != rbad) = false := by simp
                          go_wp2_with (go_at_call 31; (with_reducible refine (cN _ _).mono ?_); rintro e w' ⟨rfl, rfl⟩)
                          go_roundw
                          case rel => exact ⟨1, by omega, by go_num, HB6.out⟩
                          case measure => (simp [intOf]; try omega)
                        · have er : (off : Int) % 2 = 1 := by omega
                          clear hro
                          have dT := At.alloc (At.new wr #[.bool true, .int .i64 0, .int .i64 0, .int .i64 0] 33) (.cells #[.bool false, .int .i64 (2 + 2 * (r2 : Int))] 38)
                          have dA := At.new2 wr (.cells #[.bool true, .int .i64 0, .int .i64 0, .int .i64 0] 33) #[.bool false, .int .i64 (2 + 2 * (r2 : Int))] 38
                          have hb2 := below_box2 wr (.cells #[.bool true, .int .i64 0, .int .i64 0, .int .i64 0] 33) (.cells #[.bool false, .int .i64 (2 + 2 * (r2 : Int))] 38)
                          have hM6 := HM5.out.below hb2
                          have hb6 := hbb.trans (hb2.mono hbb.size)
                          have HB6 := Lib.hid hb6
                          have HM6 := Lib.hid hM6
                          have DT := Lib.hid dT
                          have DA := Lib.hid dA
                          clear hb2 hb6 hM6 dT dA hbb HM5
                          go_upto_region 26 with (fail)
                          generalize ((wr.alloc (.cells #[.bool true, .int .i64 0, .int .i64 0, .int .i64 0] 33)).alloc (.cells #[.bool false, .int .i64 (2 + 2 * (r2 : Int))] 38)) = w6 at *
                          generalize wr.heap.size = TX at *
                          have a0 : w6.cell? ⟨TX + 1, 0, none⟩ = some (.bool false) := DA.out.cell 0 rfl
                          have a1 : w6.cell? ⟨TX + 1, 1, none⟩ = some (.int .i64 (2 + 2 * (r2 : Int))) := DA.out.cell 1 rfl
                          have t0 : w6.cell? ⟨TX, 0, none⟩ = some (.bool true) := DT.out.cell 0 rfl
                          have t1 : w6.cell? ⟨TX, 1, none⟩ = some (.int .i64 0) := DT.out.cell 1 rfl
                          have t2 : w6.cell? ⟨TX, 2, none⟩ = some (.int .i64 0) := DT.out.cell 2 rfl
                          have t3 : w6.cell? ⟨TX, 3, none⟩ = some (.int .i64 0) := DT.out.cell 3 rfl
                          have cL := Load_yes false (2 + 2 * (r2 : Int)) (k : Nat) (some ⟨G, 0, none⟩) 5 5 m (pt 0 0) HPA.out HKK.out hh w6 HM6.out
                          have cR := fun w hx => rLoad_any false (2 + 2 * (r2 : Int)) (k : Nat) (some ⟨G, 0, none⟩) 5 5 m (pt 0 0) HPA.out HKK.out hh w hx
                          generalize loadS false (2 + 2 * (r2 : Int)) (k : Nat) m (pt 0 0) = R at *
                          obtain ⟨⟨rp, rn, rbk, ro⟩, rbad⟩ := R
                          simp only [scV_pt] at cL cR
                          unfold LoadPost scA at cL
                          unfold RLoadPost scA at cR
                          dsimp only at cL cR
                          go_wp2_with fail
                          refine cL.mono ?_
                          rintro e w7 ⟨rfl, hb7⟩
                          replace hb7 := hb7.alloc hb7.size (.cells #[.bool rp, .int .i64 rn, .int .i64 rbk, .int .i64 ro] 33)
                          have DX := Lib.hid (At.new w7 #[.bool rp, .int .i64 rn, .int .i64 rbk, .int .i64 ro] 33)
                          replace DT := Lib.hid (At.below' hb7 DT.out)
                          replace DA := Lib.hid (At.below' hb7 DA.out)
                          replace HM6 := Lib.hid (HM6.out.below hb7)
                          replace HB6 := Lib.hid (HB6.out.trans (hb7.mono HB6.out.size))
                          clear hb7 cL a0 a1 t0 t1 t2 t3 hh
                          go_upto_region 27 with (fail)
                          generalize w7.alloc (.cells #[.bool rp, .int .i64 rn, .int .i64 rbk, .int .i64 ro] 33) = w8 at *
                          generalize w7.heap.size = XX at *
                          have a0 : w8.cell? ⟨TX + 1, 0, none⟩ = some (.bool false) := DA.out.cell 0 rfl
                          have a1 : w8.cell? ⟨TX + 1, 1, none⟩ = some (.int .i64 (2 + 2 * (r2 : Int))) := DA.out.cell 1 rfl
                          have t0 : w8.cell? ⟨TX, 0, none⟩ = some (.bool true) := DT.out.cell 0 rfl
                          have t1 : w8.cell? ⟨TX, 1, none⟩ = some (.int .i64 0) := DT.out.cell 1 rfl
                          have t2 : w8.cell? ⟨TX, 2, none⟩ = some (.int .i64 0) := DT.out.cell 2 rfl
                          have t3 : w8.cell? ⟨TX, 3, none⟩ = some (.int .i64 0) := DT.out.cell 3 rfl
                          go_wp2_with fail
                          refine (cR _ HM6.out).mono ?_
                          rintro e w9 ⟨rfl, hb7⟩
                          replace hb7 := hb7.alloc hb7.size (.cells #[.bool rp, .int .i64 rn, .int .i64 rbk, .int .i64 ro] 33)
                          have DW := Lib.hid (At.new w9 #[.bool rp, .int .i64 rn, .int .i64 rbk, .int .i64 ro] 33)
                          replace DX := Lib.hid (At.below' hb7 DX.out)
                          replace HB6 := Lib.hid (HB6.out.trans (hb7.mono HB6.out.size))
                          clear hb7 cR a0 a1 t0 t1 t2 t3 HM6 DT DA
                          go_upto_region 28 with (fail)
                          generalize w9.alloc (.cells #[.bool rp, .int .i64 rn, .int .i64 rbk, .int .i64 ro] 33) = w10 at *
                          generalize w9.heap.size = WX at *
                          have x0 : w10.cell? ⟨XX, 0, none⟩ = some (.bool rp) := DX.out.cell 0 rfl
                          have x1 : w10.cell? ⟨XX, 1, none⟩ = some (.int .i64 rn) := DX.out.cell 1 rfl
                          have x2 : w10.cell? ⟨XX, 2, none⟩ = some (.int .i64 rbk) := DX.out.cell 2 rfl
                          have x3 : w10.cell? ⟨XX, 3, none⟩ = some (.int .i64 ro) := DX.out.cell 3 rfl
                          have y0 : w10.cell? ⟨WX, 0, none⟩ = some (.bool rp) := DW.out.cell 0 rfl
                          have y1 : w10.cell? ⟨WX, 1, none⟩ = some (.int .i64 rn) := DW.out.cell 1 rfl
                          have y2 : w10.cell? ⟨WX, 2, none⟩ = some (.int .i64 rbk) := DW.out.cell 2 rfl
                          have y3 : w10.cell? ⟨WX, 3, none⟩ = some (.int .i64 ro) := DW.out.cell 3 rfl
                          have hNE := fun w => neq_sc' rp rn rbk ro rp rn rbk ro w
                          rw [eqS_refl] at hNE
                          have hbb2 : (rbad != rbad) = false := by simp
                          go_wp2_with (go_at_call 31; (with_reducible refine (cN _ _).mono ?_); rintro e w' ⟨rfl, rfl⟩)
                          go_roundw
                          case rel => exact ⟨1, by omega, by go_num, HB6.out⟩
                          case measure => (simp [intOf]; try omega)
                      · have tb : ((b : Int) == 0) = false := by rw [beq_eq_false_iff_ne]; omega
                        have tb2 : (b == 0) = false := by rw [beq_eq_false_iff_ne]; exact hb0'
                        have hh := HH.out b off hbl (by omega) (fun h => absurd h hb0')
                        clear hb0'
                        rcases hro with hro | hro
                        · have er : (off : Int) % 2 = 0 := by omega
                          clear hro
                          have dT := At.alloc (At.new wr #[.bool true, .int .i64 0, .int .i64 (b : Int), .int .i64 (off : Int)] 33) (.cells #[.bool true, .int .i64 (2 + 2 * (r2 : Int))] 38)
                          have dA := At.new2 wr (.cells #[.bool true, .int .i64 0, .int .i64 (b : Int), .int .i64 (off : Int)] 33) #[.bool true, .int .i64 (2 + 2 * (r2 : Int))] 38
                          have hb2 := below_box2 wr (.cells #[.bool true, .int .i64 0, .int .i64 (b : Int), .int .i64 (off : Int)] 33) (.cells #[.bool true, .int .i64 (2 + 2 * (r2 : Int))] 38)
                          have hM6 := HM5.out.below hb2
                          have hb6 := hbb.trans (hb2.mono hbb.size)
                          have HB6 := Lib.hid hb6
                          have HM6 := Lib.hid hM6
                          have DT := Lib.hid dT
                          have DA := Lib.hid dA
                          clear hb2 hb6 hM6 dT dA hbb HM5
                          go_upto_region 26 with (fail)
                          generalize ((wr.alloc (.cells #[.bool true, .int .i64 0, .int .i64 (b : Int), .int .i64 (off : Int)] 33)).alloc (.cells #[.bool true, .int .i64 (2 + 2 * (r2 : Int))] 38)) = w6 at *
                          generalize wr.heap.size = TX at *
                          have a0 : w6.cell? ⟨TX + 1, 0, none⟩ = some (.bool true) := DA.out.cell 0 rfl
                          have a1 : w6.cell? ⟨TX + 1, 1, none⟩ = some (.int .i64 (2 + 2 * (r2 : Int))) := DA.out.cell 1 rfl
                          have t0 : w6.cell? ⟨TX, 0, none⟩ = some (.bool true) := DT.out.cell 0 rfl
                          have t1 : w6.cell? ⟨TX, 1, none⟩ = some (.int .i64 0) := DT.out.cell 1 rfl
                          have t2 : w6.cell? ⟨TX, 2, none⟩ = some (.int .i64 (b : Int)) := DT.out.cell 2 rfl
                          have t3 : w6.cell? ⟨TX, 3, none⟩ = some (.int .i64 (off : Int)) := DT.out.cell 3 rfl
                          have cL := Load_yes true (2 + 2 * (r2 : Int)) (k : Nat) (some ⟨G, 0, none⟩) 5 5 m (pt (b : Int) (off : Int)) HPA.out HKK.out hh w6 HM6.out
                          have cR := fun w hx => rLoad_any true (2 + 2 * (r2 : Int)) (k : Nat) (some ⟨G, 0, none⟩) 5 5 m (pt (b : Int) (off : Int)) HPA.out HKK.out hh w hx
                          generalize loadS true (2 + 2 * (r2 : Int)) (k : Nat) m (pt (b : Int) (off : Int)) = R at *
                          obtain ⟨⟨rp, rn, rbk, ro⟩, rbad⟩ := R
                          simp only [scV_pt] at cL cR
                          unfold LoadPost scA at cL
                          unfold RLoadPost scA at cR
                          dsimp only at cL cR
                          go_wp2_with fail
                          refine cL.mono ?_
                          rintro e w7 ⟨rfl, hb7⟩
                          replace hb7 := hb7.alloc hb7.size (.cells #[.bool rp, .int .i64 rn, .int .i64 rbk, .int .i64 ro] 33)
                          have DX := Lib.hid (At.new w7 #[.bool rp, .int .i64 rn, .int .i64 rbk, .int .i64 ro] 33)
                          replace DT := Lib.hid (At.below' hb7 DT.out)
                          replace DA := Lib.hid (At.below' hb7 DA.out)
                          replace HM6 := Lib.hid (HM6.out.below hb7)
                          replace HB6 := Lib.hid (HB6.out.trans (hb7.mono HB6.out.size))
                          clear hb7 cL a0 a1 t0 t1 t2 t3 hh
                          go_upto_region 27 with (fail)
                          generalize w7.alloc (.cells #[.bool rp, .int .i64 rn, .int .i64 rbk, .int .i64 ro] 33) = w8 at *
                          generalize w7.heap.size = XX at *
                          have a0 : w8.cell? ⟨TX + 1, 0, none⟩ = some (.bool true) := DA.out.cell 0 rfl
                          have a1 : w8.cell? ⟨TX + 1, 1, none⟩ = some (.int .i64 (2 + 2 * (r2 : Int))) := DA.out.cell 1 rfl
                          have t0 : w8.cell? ⟨TX, 0, none⟩ = some (.bool true) := DT.out.cell 0 rfl
                          have t1 : w8.cell? ⟨TX, 1, none⟩ = some (.int .i64 0) := DT.out.cell 1 rfl
                          have t2 : w8.cell? ⟨TX, 2, none⟩ = some (.int .i64 (b : Int)) := DT.out.cell 2 rfl
                          have t3 : w8.cell? ⟨TX, 3, none⟩ = some (.int .i64 (off : Int)) := DT.out.cell 3 rfl
                          go_wp2_with fail
                          refine (cR _ HM6.out).mono ?_
                          rintro e w9 ⟨rfl, hb7⟩
                          replace hb7 := hb7.alloc hb7.size (.cells #[.bool rp, .int .i64 rn, .int .i64 rbk, .int .i64 ro] 33)
                          have DW := Lib.hid (At.new w9 #[.bool rp, .int .i64 rn, .int .i64 rbk, .int .i64 ro] 33)
                          replace DX := Lib.hid (At.below' hb7 DX.out)
                          replace HB6 := Lib.hid (HB6.out.trans (hb7.mono HB6.out.size))
                          clear hb7 cR a0 a1 t0 t1 t2 t3 HM6 DT DA
                          go_upto_region 28 with (fail)
                          generalize w9.alloc (.cells #[.bool rp, .int .i64 rn, .int .i64 rbk, .int .i64 ro] 33) = w10 at *
                          generalize w9.heap.size = WX at *
                          have x0 : w10.cell? ⟨XX, 0, none⟩ = some (.bool rp) := DX.out.cell 0 rfl
                          have x1 : w10.cell? ⟨XX, 1, none⟩ = some (.int .i64 rn) := DX.out.cell 1 rfl
                          have x2 : w10.cell? ⟨XX, 2, none⟩ = some (.int .i64 rbk) := DX.out.cell 2 rfl
                          have x3 : w10.cell? ⟨XX, 3, none⟩ = some (.int .i64 ro) := DX.out.cell 3 rfl
                          have y0 : w10.cell? ⟨WX, 0, none⟩ = some (.bool rp) := DW.out.cell 0 rfl
                          have y1 : w10.cell? ⟨WX, 1, none⟩ = some (.int .i64 rn) := DW.out.cell 1 rfl
                          have y2 : w10.cell? ⟨WX, 2, none⟩ = some (.int .i64 rbk) := DW.out.cell 2 rfl
                          have y3 : w10.cell? ⟨WX, 3, none⟩ = some (.int .i64 ro) := DW.out.cell 3 rfl
                          have hNE := fun w => neq_sc' rp rn rbk ro rp rn rbk ro w
                          rw [eqS_refl] at hNE
                          have hbb2 : (rbad != rbad) = false := by simp
                          go_wp2_with (go_at_call 31; (with_reducible refine (cN _ _).mono ?_); rintro e w' ⟨rfl, rfl⟩)
                          go_roundw
                          case rel => exact ⟨b + 1, by omega, by go_num, HB6.out⟩
                          case measure => (simp [intOf]; try omega)
                        · have er : (off : Int) % 2 = 1 := by omega
                          clear hro
                          have dT := At.alloc (At.new wr #[.bool true, .int .i64 0, .int .i64 (b : Int), .int .i64 (off : Int)] 33) (.cells #[.bool false, .int .i64 (2 + 2 * (r2 : Int))] 38)
                          have dA := At.new2 wr (.cells #[.bool true, .int .i64 0, .int .i64 (b : Int), .int .i64 (off : Int)] 33) #[.bool false, .int .i64 (2 + 2 * (r2 : Int))] 38
                          have hb2 := below_box2 wr (.cells #[.bool true, .int .i64 0, .int .i64 (b : Int), .int .i64 (off : Int)] 33) (.cells #[.bool false, .int .i64 (2 + 2 * (r2 : Int))] 38)
                          have hM6 := HM5.out.below hb2
                          have hb6 := hbb.trans (hb2.mono hbb.size)
                          have HB6 := Lib.hid hb6
                          have HM6 := Lib.hid hM6
                          have DT := Lib.hid dT
                          have DA := Lib.hid dA
                          clear hb2 hb6 hM6 dT dA hbb HM5
                          go_upto_region 26 with (fail)
                          generalize ((wr.alloc (.cells #[.bool true, .int .i64 0, .int .i64 (b : Int), .int .i64 (off : Int)] 33)).alloc (.cells #[.bool false, .int .i64 (2 + 2 * (r2 : Int))] 38)) = w6 at *
                          generalize wr.heap.size = TX at *
                          have a0 : w6.cell? ⟨TX + 1, 0, none⟩ = some (.bool false) := DA.out.cell 0 rfl
                          have a1 : w6.cell? ⟨TX + 1, 1, none⟩ = some (.int .i64 (2 + 2 * (r2 : Int))) := DA.out.cell 1 rfl
                          have t0 : w6.cell? ⟨TX, 0, none⟩ = some (.bool true) := DT.out.cell 0 rfl
                          have t1 : w6.cell? ⟨TX, 1, none⟩ = some (.int .i64 0) := DT.out.cell 1 rfl
                          have t2 : w6.cell? ⟨TX, 2, none⟩ = some (.int .i64 (b : Int)) := DT.out.cell 2 rfl
                          have t3 : w6.cell? ⟨TX, 3, none⟩ = some (.int .i64 (off : Int)) := DT.out.cell 3 rfl
                          have cL := Load_yes false (2 + 2 * (r2 : Int)) (k : Nat) (some ⟨G, 0, none⟩) 5 5 m (pt (b : Int) (off : Int)) HPA.out HKK.out hh w6 HM6.out
                          have cR := fun w hx => rLoad_any false (2 + 2 * (r2 : Int)) (k : Nat) (some ⟨G, 0, none⟩) 5 5 m (pt (b : Int) (off : Int)) HPA.out HKK.out hh w hx
                          generalize loadS false (2 + 2 * (r2 : Int)) (k : Nat) m (pt (b : Int) (off : Int)) = R at *
                          obtain ⟨⟨rp, rn, rbk, ro⟩, rbad⟩ := R
                          simp only [scV_pt] at cL cR
                          unfold LoadPost scA at cL
                          unfold RLoadPost scA at cR
                          dsimp only at cL cR
                          go_wp2_with fail
                          refine cL.mono ?_
                          rintro e w7 ⟨rfl, hb7⟩
                          replace hb7 := hb7.alloc hb7.size (.cells #[.bool rp, .int .i64 rn, .int .i64 rbk, .int .i64 ro] 33)
                          have DX := Lib.hid (At.new w7 #[.bool rp, .int .i64 rn, .int .i64 rbk, .int .i64 ro] 33)
                          replace DT := Lib.hid (At.below' hb7 DT.out)
                          replace DA := Lib.hid (At.below' hb7 DA.out)
                          replace HM6 := Lib.hid (HM6.out.below hb7)
                          replace HB6 := Lib.hid (HB6.out.trans (hb7.mono HB6.out.size))
                          clear hb7 cL a0 a1 t0 t1 t2 t3 hh
                          go_upto_region 27 with (fail)
                          generalize w7.alloc (.cells #[.bool rp, .int .i64 rn, .int .i64 rbk, .int .i64 ro] 33) = w8 at *
                          generalize w7.heap.size = XX at *
                          have a0 : w8.cell? ⟨TX + 1, 0, none⟩ = some (.bool false) := DA.out.cell 0 rfl
                          have a1 : w8.cell? ⟨TX + 1, 1, none⟩ = some (.int .i64 (2 + 2 * (r2 : Int))) := DA.out.cell 1 rfl
                          have t0 : w8.cell? ⟨TX, 0, none⟩ = some (.bool true) := DT.out.cell 0 rfl
                          have t1 : w8.cell? ⟨TX, 1, none⟩ = some (.int .i64 0) := DT.out.cell 1 rfl
                          have t2 : w8.cell? ⟨TX, 2, none⟩ = some (.int .i64 (b : Int)) := DT.out.cell 2 rfl
                          have t3 : w8.cell? ⟨TX, 3, none⟩ = some (.int .i64 (off : Int)) := DT.out.cell 3 rfl
                          go_wp2_with fail
                          refine (cR _ HM6.out).mono ?_
                          rintro e w9 ⟨rfl, hb7⟩
                          replace hb7 := hb7.alloc hb7.size (.cells #[.bool rp, .int .i64 rn, .int .i64 rbk, .int .i64 ro] 33)
                          have DW := Lib.hid (At.new w9 #[.bool rp, .int .i64 rn, .int .i64 rbk, .int .i64 ro] 33)
                          replace DX := Lib.hid (At.below' hb7 DX.out)
                          replace HB6 := Lib.hid (HB6.out.trans (hb7.mono HB6.out.size))
                          clear hb7 cR a0 a1 t0 t1 t2 t3 HM6 DT DA
                          go_upto_region 28 with (fail)
                          generalize w9.alloc (.cells #[.bool rp, .int .i64 rn, .int .i64 rbk, .int .i64 ro] 33) = w10 at *
                          generalize w9.heap.size = WX at *
                          have x0 : w10.cell? ⟨XX, 0, none⟩ = some (.bool rp) := DX.out.cell 0 rfl
                          have x1 : w10.cell? ⟨XX, 1, none⟩ = some (.int .i64 rn) := DX.out.cell 1 rfl
                          have x2 : w10.cell? ⟨XX, 2, none⟩ = some (.int .i64 rbk) := DX.out.cell 2 rfl
                          have x3 : w10.cell? ⟨XX, 3, none⟩ = some (.int .i64 ro) := DX.out.cell 3 rfl
                          have y0 : w10.cell? ⟨WX, 0, none⟩ = some (.bool rp) := DW.out.cell 0 rfl
                          have y1 : w10.cell? ⟨WX, 1, none⟩ = some (.int .i64 rn) := DW.out.cell 1 rfl
                          have y2 : w10.cell? ⟨WX, 2, none⟩ = some (.int .i64 rbk) := DW.out.cell 2 rfl
                          have y3 : w10.cell? ⟨WX, 3, none⟩ = some (.int .i64 ro) := DW.out.cell 3 rfl
                          have hNE := fun w => neq_sc' rp rn rbk ro rp rn rbk ro w
                          rw [eqS_refl] at hNE
                          have hbb2 : (rbad != rbad) = false := by simp
                          go_wp2_with (go_at_call 31; (with_reducible refine (cN _ _).mono ?_); rintro e w' ⟨rfl, rfl⟩)
                          go_roundw
                          case rel => exact ⟨b + 1, by omega, by go_num, HB6.out⟩
                          case measure => (simp [intOf]; try omega)
                    · have hb9 := hbk.trans (hbb.mono hbk.size)
                      clear hbb
                      go_wp2
                      go_roundw
                      case rel => exact ⟨k + 1, by omega, by omega, by go_num, hb9⟩
                      case measure => (simp [intOf]; try omega)
                · have hb9 := hbo.trans (hbk.mono hbo.size)
                  clear hbk
                  go_wp2
                  go_roundw
                  case rel => exact ⟨off + 1, by omega, by go_num, hb9⟩
                  case measure => (simp [intOf]; try omega)
            · have ho4 : decide ((off : Int) ≤ (i : Int) + 2) = false := by simp; omega
              have hb9 := HBW.out.trans (hbo.mono HBW.out.size)
              clear hbo
              go_wp2
              go_roundw
              case rel => exact ⟨i + 1, by omega, by go_num, hb9⟩
              case measure => (simp [intOf]; try omega)
    · have hn6 : decide ((n : Int) ≤ 6) = false := by simp; omega
      have hb9 := hb0.trans (hbr.mono hb0.size)
      have e7 : upTo 7 1 7 = true := by decide
      rw [e7] at cK
      clear hbr e7
      go_wp2_with (first | (go_at_call 15; refine (cK _).mono ?_; rintro e w' ⟨rfl, rfl⟩) | (go_at_call 34; refine (cW _).mono ?_; rintro e w3 ⟨rfl, hb3⟩))
      go_ret
      exact ⟨rfl, hb9.trans (hb3.mono hb9.size)⟩
end Go.Proofs.Ytoooddjlgbflfaa
