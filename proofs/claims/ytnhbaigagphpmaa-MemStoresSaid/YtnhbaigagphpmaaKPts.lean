/- The statements of package mem: pointers that are played. -/
import Derived.Test.YtnhbaigagphpmaaKRMem
import Derived.Test.YtnhbaigagphpmaaBPutLaw
import Derived.BigRegion
namespace Go.Proofs.Ytnhbaigagphpmaa
open Go.ChangeShapes Go.WideShapes Go.ChangeAt Go.RowKit Go.Joins Go.Deep
set_option linter.unusedVariables false

theorem ownsRow_cut {w : World} {base e size g n k cap : Nat} {xs : List Value} (h : w.ownsRow base e size (.slice (some ⟨g, 0, none⟩) n cap) n xs) (hk : k ≤ n) : w.ownsRow base e size (.slice (some ⟨g, 0, none⟩) k cap) k (xs.take (k * size)) := by
  obtain ⟨hl, ⟨he, _⟩ | ⟨g', cap', cur, he, hb, hg, hn, hm, hc, hx⟩⟩ := h
  · cases he
  · cases he
    have hkn : k * size ≤ n * size := Nat.mul_le_mul_right _ hk
    refine ⟨by rw [List.length_take, hl]; exact Nat.min_eq_left hkn, Or.inr ⟨g, cap, cur, rfl, hb, hg, by omega, hm, hc, ?_⟩⟩
    rw [← hx, List.take_take, Nat.min_eq_left hkn]
theorem scCs_take (L : List SC) (k : Nat) : (scCs L).take (k * 4) = scCs (L.take k) := by
  induction L generalizing k with
  | nil => simp [scCs]
  | cons x r ih =>
    cases k with
    | zero => simp [scCs]
    | succ k =>
      have := ih k
      simp only [scCs, List.flatMap_cons, List.take_succ_cons] at this ⊢
      rw [show (k + 1) * 4 = (scL x).length + k * 4 by simp [scL]; omega, List.take_length_add_append, this]
theorem scCs_app (a b : List SC) : scCs a ++ scCs b = scCs (a ++ b) := by simp [scCs]
theorem minT {Ly mn : Nat} (h : mn = min Ly 32) : (if (32 : Int) < (Ly : Int) then (32 : Int) else (Ly : Int)) = (mn : Int) := by subst h; split <;> omega
theorem mulT {i i3 : Nat} (h : i3 = i * 3) (h7 : i ≤ 7) : IntKind.i64.wrap ((i : Int) * 3) = (i3 : Int) := by rw [IntKind.wrap_i64]; omega
theorem addT {i3 ln sm : Nat} (h : sm = i3 + ln) (h7 : i3 ≤ 100) (hl : ln ≤ 700) : IntKind.i64.wrap ((i3 : Int) + (ln : Int)) = (sm : Int) := by rw [IntKind.wrap_i64]; omega
theorem modT {sm r9 : Nat} (h : r9 = sm % 9) : (sm : Int).tmod 9 = (r9 : Int) := by rw [Int.tmod_eq_emod_of_nonneg (by omega)]; omega
/-- a row of scalars of so many -/
def PtsP (w : World) (e : Ending) (w' : World) : Prop := ∃ g n cap L, e = .returned (.slice (some ⟨g, 0, none⟩) n cap) ∧ 2 ≤ n ∧ n ≤ 25 ∧ w.heap.size ≤ g ∧ ScRow w' g n L ∧ Below w.heap.size w w'
def RelPt (w0 : World) (v5 v6 : Value) (wr : World) : Prop := ∃ (n i : Nat) (L : List SC), v6 = .int .i64 (i : Nat) ∧ 1 ≤ i ∧ i ≤ 7 ∧ L.length = n ∧ 2 ≤ n ∧ n ≤ 4 + 3 * i ∧ wr.ownsRow w0.heap.size 33 4 v5 n (scCs L) ∧ ¬ v5 = .slice none 0 0 ∧ Below w0.heap.size w0 wr
def two2 : List SC := [⟨true, 0, 0, 0⟩, ⟨true, 0, 50, 0⟩]
set_option maxRecDepth 100000 in
set_option maxHeartbeats 6400000 in
theorem pointers9_any (pm ps pn pa : Option Addr) (lm cm ls cs ln cn la ca : Nat) (ss : List SC) (hls : ls ≤ 700) (hln : ln ≤ 700) (q : Option Addr) (len cap : Nat) (m : List BK) (w : World) (hss : InScs w ps ls cs ss) (hx : IsMem w q len m) :
    Calls Try.prog 21 #[.agg #[.slice pm lm cm, .slice ps ls cs, .slice pn ln cn, .slice pa la ca], .slice q len cap] w (PtsP w) := by
  have hb := below_box1 w (.cells #[.slice pm lm cm, .slice ps ls cs, .slice pn ln cn, .slice pa la ca] 51)
  have dK := At.new w #[.slice pm lm cm, .slice ps ls cs, .slice pn ln cn, .slice pa la ca] 51
  have HM := Lib.hid (hx.below hb)
  have HSL := Lib.hid hss.1
  have hlen := hx.1
  have hmlen := hx.2.1
  have HML := Lib.hid hmlen
  have hys := ((hss.below hb).below (below_box1 _ (.cells #[.bool true, .int .i64 0, .int .i64 0, .int .i64 0, .bool true, .int .i64 0, .int .i64 50, .int .i64 0] 33))).yields
  generalize hW1 : w.alloc (.cells #[.slice pm lm cm, .slice ps ls cs, .slice pn ln cn, .slice pa la ca] 51) = w1 at *
  have HW1 := Lib.hid hW1
  clear hW1
  have hown0 := ownsRow_lit w1 w1.heap.size 33 4 2 #[.bool true, .int .i64 0, .int .i64 0, .int .i64 0, .bool true, .int .i64 0, .int .i64 50, .int .i64 0] (Nat.le_refl _) rfl (by decide)
  obtain ⟨j0, gi, gz0, gz1, gz2⟩ := info_parts Try.infoSc
  have hKl : w.heap.size < w1.heap.size := dK.lt
  have HYS := Lib.hid hys
  have k1 : (w1.alloc (.cells #[.bool true, .int .i64 0, .int .i64 0, .int .i64 0, .bool true, .int .i64 0, .int .i64 50, .int .i64 0] 33)).cell? ⟨w.heap.size, 1, none⟩ = some (.slice ps ls cs) := (At.alloc dK _).cell 1 rfl
  clear hss hx hmlen hys
  go_enter Try.func21, Try.ntmps21
  go_upto_region 1 with (fail)
  rw [HW1.out]
  go_wp2_with (first | (at_builtin; refine wpList_append_any rfl _ _ 23 rfl w1.heap.size 33 j0 _ 4 32 Try.underlying23 gi gz0 gz1 gz2 rfl (by decide) _ 2 _ rfl hown0 (fun h => by cases h) _ _ _ _ rfl HYS.out ?_ ?_ ?_ ?_))
  · unfold maxLen; omega
  · omega
  all_goals try (simp; done)
  · intro v3 w3 hown3 hgrow3 hne3
    have hbel : Below w1.heap.size w1 w3 := (((Below.refl _ _).alloc (Nat.le_refl _) _).grown hgrow3 (by simp) (fun k hk => by simp [Value.ownBlock] at hk; omega))
    replace hown3 : w3.ownsRow w1.heap.size 33 4 v3 (2 + ls) (scCs (two2 ++ ss)) := by simpa [scCs, two2, scL] using hown3
    obtain ⟨gs, cap2, rfl, hncap, hge, hlt, _⟩ := ownsRow_row hown3 hne3
    have hLL : (two2 ++ ss).length = 2 + ls := by rw [List.length_append, HSL.out]; rfl
    obtain ⟨L0, hL0⟩ : ∃ L0, L0 = two2 ++ ss := ⟨_, rfl⟩
    rw [← hL0] at hown3 hLL
    obtain ⟨n0, hn0⟩ : ∃ n0, n0 = 2 + ls := ⟨_, rfl⟩
    rw [← hn0] at hown3 hLL hncap ⊢
    have e1 : 2 + (ls : Int) = (n0 : Int) := by omega
    have e2 : n0 ≤ 702 := by omega
    have e3 : 2 ≤ n0 := by omega
    have HLL := Lib.hid hLL
    have HOWN := Lib.hid hown3
    have HB3 := Lib.hid hbel
    clear hown0 hgrow3 hne3 gi gz0 gz1 gz2 k1 hL0 hn0 hLL hown3 hbel
    go_upto_if 15 with (fail)
    go_cut [5] from 14 to 17 (fun v5 wx => ∃ (n : Nat) (L : List SC), L.length = n ∧ 2 ≤ n ∧ n ≤ 7 ∧ wx.ownsRow w1.heap.size 33 4 v5 n (scCs L) ∧ (¬ v5 = .slice none 0 0) ∧ Below w1.heap.size w1 wx)
    case first =>
      by_cases h7 : 7 < n0
      · have t7 : (7 : Int) < (n0 : Int) := by omega
        have c7 : 7 ≤ cap2 := by omega
        have c77 : (7 : Int) ≤ (cap2 : Int) := by omega
        go_wp2
        go_meet
        case rel => exact ⟨7, L0.take 7, by rw [List.length_take, HLL.out]; omega, by omega, by omega, by rw [← scCs_take]; exact ownsRow_cut HOWN.out (by omega), (fun h => by cases h), HB3.out⟩
      · have t7 : decide ((7 : Int) < (n0 : Int)) = false := by simp; omega
        go_wp2
        go_meet
        case rel => exact ⟨n0, L0, HLL.out, e3, by omega, HOWN.out, (fun h => by cases h), HB3.out⟩
    case rest =>
      obtain ⟨n, L, hLn, hn2, hn7, hown, hnn, hbx⟩ := hcut
      have HLn := Lib.hid hLn
      clear hLn HLL HOWN HB3 HYS
      go_wp2_with fail
      go_loopw [5, 6] (fun v5 v6 wr => RelPt w1 v5 v6 wr) (fun _ v6 _ => 7 - (intOf v6).toNat)
      case atStart => exact ⟨n, 1, L, rfl, by omega, by omega, HLn.out, hn2, by omega, hown, hnn, hbx⟩
      case round =>
        clear hown hnn hbx hn2 hn7 HLn
        obtain ⟨n, i, L, rfl, hi1, hi7, hLn, hn2, hn3, hown, hnn, hbr⟩ := hrel
        have HLn := Lib.hid hLn
        clear hLn
        by_cases hlt : i < len ∧ i < 7
        · obtain ⟨hl1, hl2⟩ := hlt
          have hj3 : (i : Int) < (len : Int) := by omega
          have hj4 : (i : Int) < 7 := by omega
          obtain ⟨b, off, rfl, hbb, hcells⟩ := HM.out.2.2 (by omega)
          have h1 := (hcells i hl1).below hbr
          generalize m.getD i default = x at *
          obtain ⟨s, xq, xc, ys⟩ := x
          obtain ⟨c0, c1, hi1', _⟩ := h1
          have hyl : ys.length ≤ 1000 := hi1'.1
          dsimp only at c0 c1
          have k2 : wr.cell? ⟨w.heap.size, 2, none⟩ = some (.slice pn ln cn) := (At.below' hbr dK).cell 2 rfl
          generalize ys.length = Ly at *
          obtain ⟨mn, hmn⟩ : ∃ mn : Nat, mn = min Ly 32 := ⟨_, rfl⟩
          obtain ⟨i3, hi3⟩ : ∃ i3 : Nat, i3 = i * 3 := ⟨_, rfl⟩
          obtain ⟨sm, hsm⟩ : ∃ sm : Nat, sm = i3 + ln := ⟨_, rfl⟩
          obtain ⟨r9, hr9⟩ : ∃ r9 : Nat, r9 = sm % 9 := ⟨_, rfl⟩
          have hKr : w.heap.size < wr.heap.size := (At.below' hbr dK).lt
          obtain ⟨i0, hi0, hz0, hz1, hz2⟩ := info_parts Try.infoSc
          have hbs := hbr.size
          have HOW := Lib.hid hown
          have HBR := Lib.hid hbr
          have b1 : n + 3 ≤ maxLen := by unfold maxLen; omega
          have b2 : (n + 3) * 32 ≤ 140737488355328 := by omega
          have b3 : w1.heap.size ≤ wr.heap.size + 1 := by omega
          have b4 : 0 < 4 := by decide
          have b5 : 0 < 3 := by decide
          have q1 := minT hmn
          have q2 := mulT hi3 (show i ≤ 7 by omega)
          have q3 := addT hsm (show i3 ≤ 100 by omega) hln
          have q4 := modT hr9
          clear hcells hi1' hmn hr9 hown hbr hsm hi3
          go_wp2_with fail
          go_region_law ((refine step_append_lies _ (by rfl) _ _ _ (by rfl) w1.heap.size 33 i0 _ 4 32 Try.underlying23 hi0 hz0 hz1 hz2 rfl b4 u5 n (scCs L) (by rfl) ((HOW.out.alloc _).drew) ⟨wr.heap.size, 0, none⟩ 3 3 [.bool true, .int .i64 0, .int .i64 (i : Nat), .int .i64 0, .bool true, .int .i64 0, .int .i64 (i : Nat), .int .i64 (mn : Nat), .bool true, .int .i64 0, .int .i64 (i : Nat), .int .i64 (r9 : Nat)] (by rfl) (by rfl) (World.news_of_block (cs := #[.bool true, .int .i64 0, .int .i64 (i : Nat), .int .i64 0, .bool true, .int .i64 0, .int .i64 (i : Nat), .int .i64 (mn : Nat), .bool true, .int .i64 0, .int .i64 (i : Nat), .int .i64 (r9 : Nat)]) (t := 33) (fr := (0, 0)) (heap_alloc_new wr _)) (by simp [Value.oneCell']) b5 b1 b2 (by simpa using b3) (wr.heap.size + 1) (by simp) ?_; intro g2 cap2' w4 hown3 hgrow hat hlt3))
          all_goals
            have hbF : Below w1.heap.size w1 w4 := ((HBR.out.alloc HBR.out.size _).drew).grown hgrow (by simpa using b3) (fun k hk => ownY_ge HOW.out hk)
            have hown4 : w4.ownsRow w1.heap.size 33 4 (.slice (some ⟨g2, 0, none⟩) (n + 3) cap2') (n + 3) (scCs (L ++ [⟨true, 0, (i : Nat), 0⟩, ⟨true, 0, (i : Nat), (mn : Nat)⟩, ⟨true, 0, (i : Nat), (r9 : Nat)⟩])) := by rw [← scCs_app]; exact hown3
            clear q1 q2 q3 q4 hown3 hgrow hat hlt3 c0 c1 k2 hi0 hz0 hz1 hz2
            go_wp2_with fail
            go_roundw
            case rel => exact ⟨n + 3, i + 1, _, by go_num, by omega, by omega, by rw [List.length_append, HLn.out]; rfl, by omega, by omega, hown4, (fun h => by cases h), hbF⟩
            case measure => simp [intOf]; omega
        · have hcase : ¬ i < len ∨ (i < len ∧ ¬ i < 7) := by
            by_cases h1 : i < len
            · exact Or.inr ⟨h1, fun h2 => hlt ⟨h1, h2⟩⟩
            · exact Or.inl h1
          have hown2 : wr.ownsRow w1.heap.size 33 4 u5 n (scCs L) := hown
          obtain ⟨gs, cap3, rfl, hncap, hge, hlt2, hcells⟩ := ownsRow_row hown2 hnn
          have fin : PtsP w (.returned (.slice (some ⟨gs, 0, none⟩) n cap3)) wr := ⟨gs, n, cap3, L, rfl, hn2, by omega, by omega, ⟨hlt2, fun k hk => by
            have hh := fun c hc => scCs_get L k (by rw [HLn.out]; exact hk) c hc
            exact ⟨hcells _ _ (hh 0 (by decide)), hcells _ _ (hh 1 (by decide)), hcells _ _ (hh 2 (by decide)), hcells _ _ (hh 3 (by decide))⟩⟩, hb.trans (hbr.mono hb.size)⟩
          clear hown hown2 hcells hlt hnn hbr
          rcases hcase with hc1 | ⟨hc1, hc2⟩
          · have t1 : decide ((i : Int) < (len : Int)) = false := by simp; omega
            go_wp2
            go_ret
            exact fin
          · have t1 : (i : Int) < (len : Int) := by omega
            have t2 : decide ((i : Int) < 7) = false := by simp; omega
            go_wp2
            go_ret
            exact fin
end Go.Proofs.Ytnhbaigagphpmaa
