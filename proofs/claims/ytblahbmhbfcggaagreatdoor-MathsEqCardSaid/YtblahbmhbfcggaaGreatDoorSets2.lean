/- The sets of a script, of a kind's width, and corners: the law's own rows. -/
import Derived.Test.YtblahbmhbfcggaaGreatDoorSets
import Derived.Deep.CutRange
import Derived.Deep.RegionHeld3
import Derived.BigRegion
namespace Go.Proofs.YtblahbmhbfcggaaGreatDoor
open Go.ChangeShapes Go.WideShapes Go.ChangeAt Go.RowKit Go.Joins Go.Deep
set_option linter.unusedVariables false

theorem info_v : (Tryz.prog.info? 30).map (fun i => (i.zero, i.size, i.bytes)) = some (some (.agg #[.int .i64 0, .bool false, .int .i64 0, .int .i64 0, .int .i64 0, .int .i64 0]), 6, 48) := by kernel_rfl
theorem wrap9 (n : Nat) (hn : n < 4294967296) : IntKind.i64.wrap ((n : Int) + 9) = (n : Int) + 9 := by
  simp [IntKind.wrap, IntKind.bits, IntKind.signed]; omega
theorem width_or (kind K : Int) (eK : K = Al.widthI kind) : K = 0 ∨ isW K := by
  rw [eK]; unfold Al.widthI isW; (repeat' split) <;> simp
def SetsP (w : World) (e : Ending) (w' : World) : Prop := ∃ p len cap vs, e = .returned (.slice p len cap) ∧ IsVals w' p len vs ∧ len ≤ 20 ∧ Below w.heap.size w w'
def RelA (base lv : Nat) (w1 : World) (v6 v7 : Value) (wr : World) : Prop := ∃ xs i, xs.length ≤ 4 ∧ i ≤ lv ∧ v7 = .int .i64 (i : Nat) ∧ RowV base xs v6 wr ∧ Below base w1 wr
theorem RowV.below {base : Nat} {xs : List VI} {sv : Value} {w w' : World} (h : RowV base xs sv w) (hb : Below w.heap.size w w') : RowV base xs sv w' := ⟨ownsRow_below h.1 hb, h.2⟩
theorem RowV.snoc {base q : Nat} {xs ys : List VI} {sv : Value} {w : World} (hq : q = xs.length) {m : Nat} (hm : m = ys.length) (h : w.ownsRow base 30 6 sv (q + m) (xs.flatMap viC ++ ys.flatMap viC)) (hne : 0 < m) : RowV base (xs ++ ys) sv w := by
  refine ⟨?_, fun hh => ?_⟩
  · rw [List.flatMap_append, List.length_append, ← hq, ← hm]; exact h
  · have := congrArg List.length hh
    simp at this
    rw [this.2] at hm
    simp at hm
    omega
set_option maxRecDepth 100000 in
set_option maxHeartbeats 1600000 in
theorem sets_any (pv : Option Addr) (lv cv : Nat) (vs : List VI) (pn : Option Addr) (ln cn : Nat) (zs : List Int) (kind : Int) (w : World) (hv : IsVals w pv lv vs) (hn : IsInts w pn ln zs) (hlv : lv ≤ 100) :
    Calls Tryz.prog 9 #[.agg #[.slice pv lv cv, .slice pn ln cn], .int .i64 kind] w (SetsP w) := by
  have d0 := At.new w #[.slice pv lv cv, .slice pn ln cn] 25
  have hb0 : Below w.heap.size w (w.alloc (.cells #[.slice pv lv cv, .slice pn ln cn] 25)) := (Below.refl _ _).alloc (Nat.le_refl _) _
  have cW := fun w => Al.rWidth_any kind w
  obtain ⟨K, eK⟩ : ∃ K, K = Al.widthI kind := ⟨_, rfl⟩
  have hK := width_or kind K eK
  rw [← eK] at cW
  obtain ⟨i0, hi0, hz0, hz1, hz2⟩ := info_parts info_v
  clear eK
  go_enter Tryz.func9, Tryz.ntmps9
  go_wp2_with (first | (go_at_call 13; refine (cW _).mono ?_; rintro e w' ⟨rfl, rfl⟩))
  obtain ⟨base, hbase⟩ : ∃ b, b = w.heap.size + 1 := ⟨_, rfl⟩
  obtain ⟨BP, hBP⟩ : ∃ b, b = w.heap.size := ⟨_, rfl⟩
  have hw1 : (w.alloc (.cells #[.slice pv lv cv, .slice pn ln cn] 25)).heap.size = base := by simp [hbase]
  rw [← hBP] at d0 ⊢
  generalize w.alloc (.cells #[.slice pv lv cv, .slice pn ln cn] 25) = w1 at *
  have HBP := Lib.hid hBP
  have HBS := Lib.hid hbase
  have HW1 := Lib.hid hw1
  have hBl : BP < base := by omega
  clear hBP hbase hw1
  go_loopw [6, 7] (fun v6 v7 wr => RelA base lv w1 v6 v7 wr) (fun _ v7 _ => lv - (intOf v7).toNat)
  case atStart => exact ⟨[], 0, by simp, by omega, rfl, ⟨⟨rfl, Or.inl ⟨rfl, rfl⟩⟩, fun _ => rfl⟩, Below.refl _ _⟩
  case round =>
    obtain ⟨xs, i, hx4, hi, rfl, hR, hbr⟩ := hrel
    obtain ⟨p, cap, rfl, _⟩ := hR.vals
    have d1 := d0.below hbr hBl
    have c0 : wr.cell? ⟨BP, 0, none⟩ = some (.slice pv lv cv) := d1.cell 0 rfl
    obtain ⟨q, hq⟩ : ∃ q, q = xs.length := ⟨_, rfl⟩
    have hR1 : wr.ownsRow base 30 6 (.slice p xs.length cap) xs.length (xs.flatMap viC) := hR.1
    rw [← hq] at hx4 hR hR1 ⊢
    have HQ := Lib.hid hq
    clear hq
    obtain ⟨gd, hgd⟩ : ∃ g, g = decide (i < lv ∧ q < 4) := ⟨_, rfl⟩
    go_upto_region 4 with (fail)
    go_cut [21] from 12 to 21 (fun v21 wx => v21 = .bool gd ∧ wx = wr)
    case first =>
      subst hgd
      by_cases h1 : i < lv
      · have h1i : (i : Int) < (lv : Int) := by omega
        by_cases h2 : q < 4
        · have h2i : (q : Int) < 4 := by omega
          go_wp2_with fail
          go_meet
          exact ⟨by simp [h1, h2], rfl⟩
        · have h2i : decide ((q : Int) < 4) = false := by simp; omega
          go_wp2_with fail
          go_meet
          exact ⟨by simp [h1, h2], rfl⟩
      · have h1i : decide ((i : Int) < (lv : Int)) = false := by simp; omega
        go_wp2_with fail
        go_meet
        exact ⟨by simp [h1], rfl⟩
    case rest =>
    obtain ⟨rfl, hwc⟩ := hcut
    obtain rfl : wr = wc := hwc.symm
    have hbs : base ≤ wr.heap.size := by have := hbr.size; have := HW1.out; omega
    cases gd
    · clear hgd
      rcases hK with rfl | hK
      · obtain ⟨u, hu⟩ := rAll_v 8 (Or.inl rfl)
        go_wp2_with fail
        refine (hu _).mono ?_
        rintro e w4 ⟨rfl, hb4⟩
        have hbA : Below base w1 w4 := hbr.trans (hb4.mono hbs)
        have hbs4 : base ≤ w4.heap.size := Nat.le_trans hbs hb4.size
        have hown := (ownsRow_below hR1 hb4).alloc (.cells #[.int .i64 u.k, .bool u.no, .int .i64 u.l, .int .i64 u.h, .int .i64 u.f, .int .i64 u.b] 30)
        have hbB := hbA.alloc hbs4 (.cells #[.int .i64 u.k, .bool u.no, .int .i64 u.l, .int .i64 u.h, .int .i64 u.f, .int .i64 u.b] 30)
        clear hbA hb4 hR hR1 hu c0
        go_wp2_with ((at_builtin; refine wpList_append_lies _ rfl _ _ 22 rfl base 30 i0 (.agg #[.int .i64 0, .bool false, .int .i64 0, .int .i64 0, .int .i64 0, .int .i64 0]) 6 48 Tryz.underlying22 hi0 hz0 hz1 hz2 rfl (by decide) (.slice p q cap) q (xs.flatMap viC) rfl hown ⟨w4.heap.size, 0, none⟩ 1 1 [.int .i64 u.k, .bool u.no, .int .i64 u.l, .int .i64 u.h, .int .i64 u.f, .int .i64 u.b] rfl rfl (World.news_of_block (cs := #[.int .i64 u.k, .bool u.no, .int .i64 u.l, .int .i64 u.h, .int .i64 u.f, .int .i64 u.b]) (t := 30) (fr := (0, 0)) (heap_alloc_new w4 _)) (by simp [Value.oneCell']) (by omega) (by unfold maxLen; omega) (by omega) (by simp; omega) (w4.heap.size + 1) (by simp) ?_; intro g2 cap2 w3 hown3 hgrow hat hlt3))
        have hRn : RowV base (xs ++ [u]) (.slice (some ⟨g2, 0, none⟩) (q + 1) cap2) w3 := RowV.snoc HQ.out (ys := [u]) rfl hown3 (by simp)
        have hbW : Below base w1 w3 := hbB.grown hgrow (by simp; omega) (fun k hk => own_ge hown hk)
        obtain ⟨p2, cap3, hpe, hvals⟩ := hRn.vals
        have hlen : (xs ++ [u]).length = q + 1 := by have := HQ.out; simp; omega
        rw [hlen] at hpe hvals
        have hpp : p2 = some ⟨g2, 0, none⟩ := by simp at hpe; exact hpe.1.symm
        subst hpp
        have hbT : Below w.heap.size w w3 := hb0.trans (hbW.mono (by have := HBS.out; omega))
        clear hown3 hgrow hat hlt3 hown hbB hi0 hz0 hz1 hz2 hRn hpe
        go_wp2_with fail
        go_ret
        exact ⟨_, q + 1, _, _, rfl, hvals, by omega, hbT⟩
      · have hK0 : (K == 0) = false := by rcases hK with rfl | rfl | rfl <;> rfl
        go_upto_region 10 with (fail)
        go_cut [6] from 51 to 69 (fun v6 wx => ∃ ys g cap2, ys.length = 5 ∧ v6 = .slice (some ⟨g, 0, none⟩) (q + 5) cap2 ∧ RowV base (xs ++ ys) v6 wx ∧ Below base w1 wx)
        case first =>
          have hown : wr.drew.ownsRow base 30 6 (.slice p q cap) q (xs.flatMap viC) := hR1.drew
          have hbd : Below base w1 wr.drew := hbr.drew
          have hbl : base ≤ wr.drew.heap.size := hbs
          clear hbr hR hR1 hbs d1 c0 hb0 d0 hn hv
          rcases hK with rfl | rfl | rfl
          · have ew : IntKind.i64.wrap 7 = 7 := rfl
            obtain ⟨u, hu⟩ := rAll_v 8 (by unfold isW; omega)
            go_region_held3 (fun _ => True)
              (exact trivial)
              ((first
                | (go_at_call 26
                   refine (hu _).mono ?_
                   rintro e w' ⟨rfl, hbN⟩
                   replace hown := ownsRow_below hown hbN
                   replace hbd := hbd.trans (hbN.mono hbl)
                   replace hbl := Nat.le_trans hbl hbN.size
                   clear hbN)
                | (go_at_call 27
                   refine (rNo_v _ _).mono ?_
                   rintro e w' ⟨rfl, hbN⟩
                   replace hown := ownsRow_below hown hbN
                   replace hbd := hbd.trans (hbN.mono hbl)
                   replace hbl := Nat.le_trans hbl hbN.size
                   clear hbN)
                | (go_at_call 28
                   refine (rJust_v _ _ _).mono ?_
                   rintro e w' ⟨rfl, hbN⟩
                   replace hown := ownsRow_below hown hbN
                   replace hbd := hbd.trans (hbN.mono hbl)
                   replace hbl := Nat.le_trans hbl hbN.size
                   clear hbN)
                | (refine step_append_lies _ (by rfl) _ _ 22 (by rfl) base 30 i0 (.agg #[.int .i64 0, .bool false, .int .i64 0, .int .i64 0, .int .i64 0, .int .i64 0]) 6 48 Tryz.underlying22 hi0 hz0 hz1 hz2 rfl (by decide) (.slice p q cap) q (xs.flatMap viC) (by rfl) (hown.alloc (.cells #[.int .i64 u.k, .bool u.no, .int .i64 u.l, .int .i64 u.h, .int .i64 u.f, .int .i64 u.b, .int .i64 8, .bool true, .int .i64 0, .int .i64 0, .int .i64 0, .int .i64 0, .int .i64 8, .bool false, .int .i64 0, .int .i64 0, .int .i64 0, .int .i64 0, .int .i64 8, .bool false, .int .i64 128, .int .i64 128, .int .i64 0, .int .i64 128, .int .i64 8, .bool false, .int .i64 255, .int .i64 255, .int .i64 0, .int .i64 255] 30)) ⟨w'.heap.size, 0, none⟩ 5 5 [.int .i64 u.k, .bool u.no, .int .i64 u.l, .int .i64 u.h, .int .i64 u.f, .int .i64 u.b, .int .i64 8, .bool true, .int .i64 0, .int .i64 0, .int .i64 0, .int .i64 0, .int .i64 8, .bool false, .int .i64 0, .int .i64 0, .int .i64 0, .int .i64 0, .int .i64 8, .bool false, .int .i64 128, .int .i64 128, .int .i64 0, .int .i64 128, .int .i64 8, .bool false, .int .i64 255, .int .i64 255, .int .i64 0, .int .i64 255] (by rfl) (by rfl) (World.news_of_block (cs := #[.int .i64 u.k, .bool u.no, .int .i64 u.l, .int .i64 u.h, .int .i64 u.f, .int .i64 u.b, .int .i64 8, .bool true, .int .i64 0, .int .i64 0, .int .i64 0, .int .i64 0, .int .i64 8, .bool false, .int .i64 0, .int .i64 0, .int .i64 0, .int .i64 0, .int .i64 8, .bool false, .int .i64 128, .int .i64 128, .int .i64 0, .int .i64 128, .int .i64 8, .bool false, .int .i64 255, .int .i64 255, .int .i64 0, .int .i64 255]) (t := 30) (fr := (0, 0)) (heap_alloc_new w' _)) (by simp [Value.oneCell']) (by omega) (by unfold maxLen; omega) (by omega) (by simp; omega) (w'.heap.size + 1) (by simp) ?_; intro g2 cap2 w3 hown3 hgrow hat hlt3)))
            have hRn : RowV base (xs ++ [u, ⟨8, true, 0, 0, 0, 0⟩, ⟨8, false, 0, 0, 0, 0⟩, ⟨8, false, 128, 128, 0, 128⟩, ⟨8, false, 255, 255, 0, 255⟩]) (.slice (some ⟨g2, 0, none⟩) (q + 5) cap2) w3 := RowV.snoc HQ.out (ys := [u, ⟨8, true, 0, 0, 0, 0⟩, ⟨8, false, 0, 0, 0, 0⟩, ⟨8, false, 128, 128, 0, 128⟩, ⟨8, false, 255, 255, 0, 255⟩]) rfl hown3 (by simp)
            have hbW : Below base w1 w3 := (hbd.alloc hbl _).grown hgrow (by simp; omega) (fun k hk => own_ge hown hk)
            clear hown3 hgrow hat hlt3 hown hbd hu hi0 hz0 hz1 hz2
            go_wp2_with fail
            go_meet
            exact ⟨_, g2, cap2, rfl, rfl, hRn, hbW⟩
          · have ew : IntKind.i64.wrap 15 = 15 := rfl
            obtain ⟨u, hu⟩ := rAll_v 16 (by unfold isW; omega)
            go_region_held3 (fun _ => True)
              (exact trivial)
              ((first
                | (go_at_call 26
                   refine (hu _).mono ?_
                   rintro e w' ⟨rfl, hbN⟩
                   replace hown := ownsRow_below hown hbN
                   replace hbd := hbd.trans (hbN.mono hbl)
                   replace hbl := Nat.le_trans hbl hbN.size
                   clear hbN)
                | (go_at_call 27
                   refine (rNo_v _ _).mono ?_
                   rintro e w' ⟨rfl, hbN⟩
                   replace hown := ownsRow_below hown hbN
                   replace hbd := hbd.trans (hbN.mono hbl)
                   replace hbl := Nat.le_trans hbl hbN.size
                   clear hbN)
                | (go_at_call 28
                   refine (rJust_v _ _ _).mono ?_
                   rintro e w' ⟨rfl, hbN⟩
                   replace hown := ownsRow_below hown hbN
                   replace hbd := hbd.trans (hbN.mono hbl)
                   replace hbl := Nat.le_trans hbl hbN.size
                   clear hbN)
                | (refine step_append_lies _ (by rfl) _ _ 22 (by rfl) base 30 i0 (.agg #[.int .i64 0, .bool false, .int .i64 0, .int .i64 0, .int .i64 0, .int .i64 0]) 6 48 Tryz.underlying22 hi0 hz0 hz1 hz2 rfl (by decide) (.slice p q cap) q (xs.flatMap viC) (by rfl) (hown.alloc (.cells #[.int .i64 u.k, .bool u.no, .int .i64 u.l, .int .i64 u.h, .int .i64 u.f, .int .i64 u.b, .int .i64 16, .bool true, .int .i64 0, .int .i64 0, .int .i64 0, .int .i64 0, .int .i64 16, .bool false, .int .i64 0, .int .i64 0, .int .i64 0, .int .i64 0, .int .i64 16, .bool false, .int .i64 32768, .int .i64 32768, .int .i64 0, .int .i64 32768, .int .i64 16, .bool false, .int .i64 65535, .int .i64 65535, .int .i64 0, .int .i64 65535] 30)) ⟨w'.heap.size, 0, none⟩ 5 5 [.int .i64 u.k, .bool u.no, .int .i64 u.l, .int .i64 u.h, .int .i64 u.f, .int .i64 u.b, .int .i64 16, .bool true, .int .i64 0, .int .i64 0, .int .i64 0, .int .i64 0, .int .i64 16, .bool false, .int .i64 0, .int .i64 0, .int .i64 0, .int .i64 0, .int .i64 16, .bool false, .int .i64 32768, .int .i64 32768, .int .i64 0, .int .i64 32768, .int .i64 16, .bool false, .int .i64 65535, .int .i64 65535, .int .i64 0, .int .i64 65535] (by rfl) (by rfl) (World.news_of_block (cs := #[.int .i64 u.k, .bool u.no, .int .i64 u.l, .int .i64 u.h, .int .i64 u.f, .int .i64 u.b, .int .i64 16, .bool true, .int .i64 0, .int .i64 0, .int .i64 0, .int .i64 0, .int .i64 16, .bool false, .int .i64 0, .int .i64 0, .int .i64 0, .int .i64 0, .int .i64 16, .bool false, .int .i64 32768, .int .i64 32768, .int .i64 0, .int .i64 32768, .int .i64 16, .bool false, .int .i64 65535, .int .i64 65535, .int .i64 0, .int .i64 65535]) (t := 30) (fr := (0, 0)) (heap_alloc_new w' _)) (by simp [Value.oneCell']) (by omega) (by unfold maxLen; omega) (by omega) (by simp; omega) (w'.heap.size + 1) (by simp) ?_; intro g2 cap2 w3 hown3 hgrow hat hlt3)))
            have hRn : RowV base (xs ++ [u, ⟨16, true, 0, 0, 0, 0⟩, ⟨16, false, 0, 0, 0, 0⟩, ⟨16, false, 32768, 32768, 0, 32768⟩, ⟨16, false, 65535, 65535, 0, 65535⟩]) (.slice (some ⟨g2, 0, none⟩) (q + 5) cap2) w3 := RowV.snoc HQ.out (ys := [u, ⟨16, true, 0, 0, 0, 0⟩, ⟨16, false, 0, 0, 0, 0⟩, ⟨16, false, 32768, 32768, 0, 32768⟩, ⟨16, false, 65535, 65535, 0, 65535⟩]) rfl hown3 (by simp)
            have hbW : Below base w1 w3 := (hbd.alloc hbl _).grown hgrow (by simp; omega) (fun k hk => own_ge hown hk)
            clear hown3 hgrow hat hlt3 hown hbd hu hi0 hz0 hz1 hz2
            go_wp2_with fail
            go_meet
            exact ⟨_, g2, cap2, rfl, rfl, hRn, hbW⟩
          · have ew : IntKind.i64.wrap 31 = 31 := rfl
            obtain ⟨u, hu⟩ := rAll_v 32 (by unfold isW; omega)
            go_region_held3 (fun _ => True)
              (exact trivial)
              ((first
                | (go_at_call 26
                   refine (hu _).mono ?_
                   rintro e w' ⟨rfl, hbN⟩
                   replace hown := ownsRow_below hown hbN
                   replace hbd := hbd.trans (hbN.mono hbl)
                   replace hbl := Nat.le_trans hbl hbN.size
                   clear hbN)
                | (go_at_call 27
                   refine (rNo_v _ _).mono ?_
                   rintro e w' ⟨rfl, hbN⟩
                   replace hown := ownsRow_below hown hbN
                   replace hbd := hbd.trans (hbN.mono hbl)
                   replace hbl := Nat.le_trans hbl hbN.size
                   clear hbN)
                | (go_at_call 28
                   refine (rJust_v _ _ _).mono ?_
                   rintro e w' ⟨rfl, hbN⟩
                   replace hown := ownsRow_below hown hbN
                   replace hbd := hbd.trans (hbN.mono hbl)
                   replace hbl := Nat.le_trans hbl hbN.size
                   clear hbN)
                | (refine step_append_lies _ (by rfl) _ _ 22 (by rfl) base 30 i0 (.agg #[.int .i64 0, .bool false, .int .i64 0, .int .i64 0, .int .i64 0, .int .i64 0]) 6 48 Tryz.underlying22 hi0 hz0 hz1 hz2 rfl (by decide) (.slice p q cap) q (xs.flatMap viC) (by rfl) (hown.alloc (.cells #[.int .i64 u.k, .bool u.no, .int .i64 u.l, .int .i64 u.h, .int .i64 u.f, .int .i64 u.b, .int .i64 32, .bool true, .int .i64 0, .int .i64 0, .int .i64 0, .int .i64 0, .int .i64 32, .bool false, .int .i64 0, .int .i64 0, .int .i64 0, .int .i64 0, .int .i64 32, .bool false, .int .i64 2147483648, .int .i64 2147483648, .int .i64 0, .int .i64 2147483648, .int .i64 32, .bool false, .int .i64 4294967295, .int .i64 4294967295, .int .i64 0, .int .i64 4294967295] 30)) ⟨w'.heap.size, 0, none⟩ 5 5 [.int .i64 u.k, .bool u.no, .int .i64 u.l, .int .i64 u.h, .int .i64 u.f, .int .i64 u.b, .int .i64 32, .bool true, .int .i64 0, .int .i64 0, .int .i64 0, .int .i64 0, .int .i64 32, .bool false, .int .i64 0, .int .i64 0, .int .i64 0, .int .i64 0, .int .i64 32, .bool false, .int .i64 2147483648, .int .i64 2147483648, .int .i64 0, .int .i64 2147483648, .int .i64 32, .bool false, .int .i64 4294967295, .int .i64 4294967295, .int .i64 0, .int .i64 4294967295] (by rfl) (by rfl) (World.news_of_block (cs := #[.int .i64 u.k, .bool u.no, .int .i64 u.l, .int .i64 u.h, .int .i64 u.f, .int .i64 u.b, .int .i64 32, .bool true, .int .i64 0, .int .i64 0, .int .i64 0, .int .i64 0, .int .i64 32, .bool false, .int .i64 0, .int .i64 0, .int .i64 0, .int .i64 0, .int .i64 32, .bool false, .int .i64 2147483648, .int .i64 2147483648, .int .i64 0, .int .i64 2147483648, .int .i64 32, .bool false, .int .i64 4294967295, .int .i64 4294967295, .int .i64 0, .int .i64 4294967295]) (t := 30) (fr := (0, 0)) (heap_alloc_new w' _)) (by simp [Value.oneCell']) (by omega) (by unfold maxLen; omega) (by omega) (by simp; omega) (w'.heap.size + 1) (by simp) ?_; intro g2 cap2 w3 hown3 hgrow hat hlt3)))
            have hRn : RowV base (xs ++ [u, ⟨32, true, 0, 0, 0, 0⟩, ⟨32, false, 0, 0, 0, 0⟩, ⟨32, false, 2147483648, 2147483648, 0, 2147483648⟩, ⟨32, false, 4294967295, 4294967295, 0, 4294967295⟩]) (.slice (some ⟨g2, 0, none⟩) (q + 5) cap2) w3 := RowV.snoc HQ.out (ys := [u, ⟨32, true, 0, 0, 0, 0⟩, ⟨32, false, 0, 0, 0, 0⟩, ⟨32, false, 2147483648, 2147483648, 0, 2147483648⟩, ⟨32, false, 4294967295, 4294967295, 0, 4294967295⟩]) rfl hown3 (by simp)
            have hbW : Below base w1 w3 := (hbd.alloc hbl _).grown hgrow (by simp; omega) (fun k hk => own_ge hown hk)
            clear hown3 hgrow hat hlt3 hown hbd hu hi0 hz0 hz1 hz2
            go_wp2_with fail
            go_meet
            exact ⟨_, g2, cap2, rfl, rfl, hRn, hbW⟩
        case rest =>
        obtain ⟨ys, g, cap2, hys, rfl, hR2, hb2⟩ := hcut
        generalize wc = wv at *
        have hx9 : (xs ++ ys).length ≤ 9 := by have := HQ.out; simp; omega
        obtain ⟨xz, hxz⟩ : ∃ xz, xz = xs ++ ys := ⟨_, rfl⟩
        have hq5 : q + 5 = xz.length := by have := HQ.out; rw [hxz]; simp; omega
        rw [← hxz] at hx9 hR2
        have hR3 : RowV base xz (.slice (some ⟨g, 0, none⟩) xz.length cap2) wv := by rw [← hq5]; exact hR2
        rw [hq5]
        have cWr : ∀ (x : Int) w, Calls Tryz.prog 29 #[.int .i64 x, .int .i64 K] w (fun e w' => ∃ n : Nat, n < 4294967296 ∧ e = .returned (.int .i64 n) ∧ w = w') := by
          intro x w
          rcases hK with rfl | rfl | rfl
          · exact (rWrap_nat x 8 (Or.inl rfl) w).mono fun e w' ⟨n, h1, h2, h3⟩ => ⟨n, by omega, h2, h3⟩
          · exact (rWrap_nat x 16 (Or.inr (Or.inl rfl)) w).mono fun e w' ⟨n, h1, h2, h3⟩ => ⟨n, by omega, h2, h3⟩
          · exact (rWrap_nat x 32 (Or.inr (Or.inr rfl)) w).mono fun e w' ⟨n, h1, h2, h3⟩ => ⟨n, by omega, h2, h3⟩
        clear hR2 hxz hq5 HQ hx4 hys hR hR1 hbr hbs c0 d1 hwc cW hK0 hv
        go_wp2_with fail
        go_loopw [6, 8] (fun v6 v8 wr => ∃ zs j, zs.length ≤ 9 + 2 * j ∧ j ≤ 2 ∧ v8 = .int .i64 (j : Nat) ∧ RowV base zs v6 wr ∧ Below base w1 wr) (fun _ v8 _ => 2 - (intOf v8).toNat)
        case atStart => exact ⟨xz, 0, by omega, by omega, rfl, hR3, hb2⟩
        case round =>
          clear hR3 hb2 hx9
          obtain ⟨zz, j, hz9, hj, rfl, hR, hbr⟩ := hrel
          obtain ⟨p, cap, rfl, _⟩ := hR.vals
          have d1 := d0.below hbr hBl
          have c1 : wr.cell? ⟨BP, 1, none⟩ = some (.slice pn ln cn) := d1.cell 1 rfl
          obtain ⟨q, hq⟩ : ∃ q, q = zz.length := ⟨_, rfl⟩
          have hR1 : wr.ownsRow base 30 6 (.slice p zz.length cap) zz.length (zz.flatMap viC) := hR.1
          rw [← hq] at hz9 hR hR1 ⊢
          have HQ := Lib.hid hq
          clear hq
          obtain ⟨gd, hgd⟩ : ∃ g, g = decide (j < ln ∧ j < 2) := ⟨_, rfl⟩
          go_upto_region 12 with (fail)
          go_cut [78] from 70 to 78 (fun v78 wx => v78 = .bool gd ∧ wx = wr)
          case first =>
            subst hgd
            by_cases h1 : j < ln
            · have h1i : (j : Int) < (ln : Int) := by omega
              by_cases h2 : j < 2
              · have h2i : (j : Int) < 2 := by omega
                go_wp2_with fail
                go_meet
                exact ⟨by simp [h1, h2], rfl⟩
              · have h2i : decide ((j : Int) < 2) = false := by simp; omega
                go_wp2_with fail
                go_meet
                exact ⟨by simp [h1, h2], rfl⟩
            · have h1i : decide ((j : Int) < (ln : Int)) = false := by simp; omega
              go_wp2_with fail
              go_meet
              exact ⟨by simp [h1], rfl⟩
          case rest =>
          obtain ⟨rfl, hwc⟩ := hcut
          obtain rfl : wr = wc := hwc.symm
          have hbs : base ≤ wr.heap.size := by have := hbr.size; have := HW1.out; omega
          cases gd
          · obtain ⟨p2, cap3, hpe, hvals⟩ := hR.vals
            have hlen := HQ.out
            rw [← hlen] at hpe hvals
            have hpp : p2 = p := by simp at hpe; exact hpe.1.symm
            subst hpp
            have hbT : Below w.heap.size w wr := hb0.trans (hbr.mono (by have := HBS.out; omega))
            clear hi0 hz0 hz1 hz2 hpe hgd hR hR1 hlen
            go_wp2_with fail
            go_ret
            exact ⟨_, q, _, _, rfl, hvals, by omega, hbT⟩
          · obtain ⟨h1, h2⟩ := of_decide_eq_true hgd.symm
            clear hgd
            have h1i : (j : Int) < (ln : Int) := by omega
            obtain ⟨b0, off, rfl, hbb, hcells⟩ := hn.2.2 (by omega)
            obtain ⟨N, hN⟩ : ∃ N, N = zs.getD j 0 := ⟨_, rfl⟩
            have hcN : wr.cell? ⟨b0, off + j, none⟩ = some (.int .i64 N) := by
              rw [hN]
              have hbx : Below w.heap.size w wr := hb0.trans (hbr.mono (by have := HBS.out; omega))
              exact cell_below (hcells j h1) hbx
            clear hN hcells hn
            go_wp2_with fail
            refine (cWr _ _).mono ?_
            rintro e w' ⟨n, hn, rfl, rfl⟩
            go_upto_region 15 with (fail)
            have hown : wr.drew.ownsRow base 30 6 (.slice p q cap) q (zz.flatMap viC) := hR1.drew
            have hbd : Below base w1 wr.drew := hbr.drew
            have hbl : base ≤ wr.drew.heap.size := hbs
            have hs9 := wrap9 n hn
            clear hbr hR hR1 hbs d1 c1 hb0 d0 hcN
            rcases hK with rfl | rfl | rfl
            · go_region_held3 (fun _ => True)
                (exact trivial)
                ((first
                  | (go_at_call 28
                     refine (rJust_v _ _ _).mono ?_
                     rintro e w' ⟨rfl, hbN⟩
                     replace hown := ownsRow_below hown hbN
                     replace hbd := hbd.trans (hbN.mono hbl)
                     replace hbl := Nat.le_trans hbl hbN.size
                     clear hbN)
                  | (go_at_call 29
                     refine (cWr _ _).mono ?_
                     rintro e w'' ⟨m, hm, rfl, rfl⟩)
                  | (refine step_append_lies _ (by rfl) _ _ 22 (by rfl) base 30 i0 (.agg #[.int .i64 0, .bool false, .int .i64 0, .int .i64 0, .int .i64 0, .int .i64 0]) 6 48 Tryz.underlying22 hi0 hz0 hz1 hz2 rfl (by decide) (.slice p q cap) q (zz.flatMap viC) (by rfl) (hown.alloc (.cells #[.int .i64 8, .bool false, .int .i64 n, .int .i64 n, .int .i64 0, .int .i64 n, .int .i64 8, .bool false, .int .i64 n, .int .i64 m, .int .i64 255, .int .i64 0] 30)) ⟨w'.heap.size, 0, none⟩ 2 2 [.int .i64 8, .bool false, .int .i64 n, .int .i64 n, .int .i64 0, .int .i64 n, .int .i64 8, .bool false, .int .i64 n, .int .i64 m, .int .i64 255, .int .i64 0] (by rfl) (by rfl) (World.news_of_block (cs := #[.int .i64 8, .bool false, .int .i64 n, .int .i64 n, .int .i64 0, .int .i64 n, .int .i64 8, .bool false, .int .i64 n, .int .i64 m, .int .i64 255, .int .i64 0]) (t := 30) (fr := (0, 0)) (heap_alloc_new w' _)) (by simp [Value.oneCell']) (by omega) (by unfold maxLen; omega) (by omega) (by simp; omega) (w'.heap.size + 1) (by simp) ?_; intro g2 cap2 w3 hown3 hgrow hat hlt3)))
              have hRn : RowV base (zz ++ [⟨8, false, n, n, 0, n⟩, ⟨8, false, n, m, 255, 0⟩]) (.slice (some ⟨g2, 0, none⟩) (q + 2) cap2) w3 := RowV.snoc HQ.out (ys := [⟨8, false, n, n, 0, n⟩, ⟨8, false, n, m, 255, 0⟩]) rfl hown3 (by simp)
              have hbW : Below base w1 w3 := (hbd.alloc hbl _).grown hgrow (by simp; omega) (fun k hk => own_ge hown hk)
              have hln : q + 2 ≤ 9 + 2 * (j + 1) := by omega
              clear hown3 hgrow hat hlt3 hown hbd hi0 hz0 hz1 hz2 cWr
              go_wp2_with fail
              go_roundw
              case rel => exact ⟨_, j + 1, by rw [List.length_append, ← HQ.out]; exact hln, by omega, by go_num, hRn, hbW⟩
              case measure => simp [intOf]; omega
            · go_region_held3 (fun _ => True)
                (exact trivial)
                ((first
                  | (go_at_call 28
                     refine (rJust_v _ _ _).mono ?_
                     rintro e w' ⟨rfl, hbN⟩
                     replace hown := ownsRow_below hown hbN
                     replace hbd := hbd.trans (hbN.mono hbl)
                     replace hbl := Nat.le_trans hbl hbN.size
                     clear hbN)
                  | (go_at_call 29
                     refine (cWr _ _).mono ?_
                     rintro e w'' ⟨m, hm, rfl, rfl⟩)
                  | (refine step_append_lies _ (by rfl) _ _ 22 (by rfl) base 30 i0 (.agg #[.int .i64 0, .bool false, .int .i64 0, .int .i64 0, .int .i64 0, .int .i64 0]) 6 48 Tryz.underlying22 hi0 hz0 hz1 hz2 rfl (by decide) (.slice p q cap) q (zz.flatMap viC) (by rfl) (hown.alloc (.cells #[.int .i64 16, .bool false, .int .i64 n, .int .i64 n, .int .i64 0, .int .i64 n, .int .i64 16, .bool false, .int .i64 n, .int .i64 m, .int .i64 65535, .int .i64 0] 30)) ⟨w'.heap.size, 0, none⟩ 2 2 [.int .i64 16, .bool false, .int .i64 n, .int .i64 n, .int .i64 0, .int .i64 n, .int .i64 16, .bool false, .int .i64 n, .int .i64 m, .int .i64 65535, .int .i64 0] (by rfl) (by rfl) (World.news_of_block (cs := #[.int .i64 16, .bool false, .int .i64 n, .int .i64 n, .int .i64 0, .int .i64 n, .int .i64 16, .bool false, .int .i64 n, .int .i64 m, .int .i64 65535, .int .i64 0]) (t := 30) (fr := (0, 0)) (heap_alloc_new w' _)) (by simp [Value.oneCell']) (by omega) (by unfold maxLen; omega) (by omega) (by simp; omega) (w'.heap.size + 1) (by simp) ?_; intro g2 cap2 w3 hown3 hgrow hat hlt3)))
              have hRn : RowV base (zz ++ [⟨16, false, n, n, 0, n⟩, ⟨16, false, n, m, 65535, 0⟩]) (.slice (some ⟨g2, 0, none⟩) (q + 2) cap2) w3 := RowV.snoc HQ.out (ys := [⟨16, false, n, n, 0, n⟩, ⟨16, false, n, m, 65535, 0⟩]) rfl hown3 (by simp)
              have hbW : Below base w1 w3 := (hbd.alloc hbl _).grown hgrow (by simp; omega) (fun k hk => own_ge hown hk)
              have hln : q + 2 ≤ 9 + 2 * (j + 1) := by omega
              clear hown3 hgrow hat hlt3 hown hbd hi0 hz0 hz1 hz2 cWr
              go_wp2_with fail
              go_roundw
              case rel => exact ⟨_, j + 1, by rw [List.length_append, ← HQ.out]; exact hln, by omega, by go_num, hRn, hbW⟩
              case measure => simp [intOf]; omega
            · go_region_held3 (fun _ => True)
                (exact trivial)
                ((first
                  | (go_at_call 28
                     refine (rJust_v _ _ _).mono ?_
                     rintro e w' ⟨rfl, hbN⟩
                     replace hown := ownsRow_below hown hbN
                     replace hbd := hbd.trans (hbN.mono hbl)
                     replace hbl := Nat.le_trans hbl hbN.size
                     clear hbN)
                  | (go_at_call 29
                     refine (cWr _ _).mono ?_
                     rintro e w'' ⟨m, hm, rfl, rfl⟩)
                  | (refine step_append_lies _ (by rfl) _ _ 22 (by rfl) base 30 i0 (.agg #[.int .i64 0, .bool false, .int .i64 0, .int .i64 0, .int .i64 0, .int .i64 0]) 6 48 Tryz.underlying22 hi0 hz0 hz1 hz2 rfl (by decide) (.slice p q cap) q (zz.flatMap viC) (by rfl) (hown.alloc (.cells #[.int .i64 32, .bool false, .int .i64 n, .int .i64 n, .int .i64 0, .int .i64 n, .int .i64 32, .bool false, .int .i64 n, .int .i64 m, .int .i64 4294967295, .int .i64 0] 30)) ⟨w'.heap.size, 0, none⟩ 2 2 [.int .i64 32, .bool false, .int .i64 n, .int .i64 n, .int .i64 0, .int .i64 n, .int .i64 32, .bool false, .int .i64 n, .int .i64 m, .int .i64 4294967295, .int .i64 0] (by rfl) (by rfl) (World.news_of_block (cs := #[.int .i64 32, .bool false, .int .i64 n, .int .i64 n, .int .i64 0, .int .i64 n, .int .i64 32, .bool false, .int .i64 n, .int .i64 m, .int .i64 4294967295, .int .i64 0]) (t := 30) (fr := (0, 0)) (heap_alloc_new w' _)) (by simp [Value.oneCell']) (by omega) (by unfold maxLen; omega) (by omega) (by simp; omega) (w'.heap.size + 1) (by simp) ?_; intro g2 cap2 w3 hown3 hgrow hat hlt3)))
              have hRn : RowV base (zz ++ [⟨32, false, n, n, 0, n⟩, ⟨32, false, n, m, 4294967295, 0⟩]) (.slice (some ⟨g2, 0, none⟩) (q + 2) cap2) w3 := RowV.snoc HQ.out (ys := [⟨32, false, n, n, 0, n⟩, ⟨32, false, n, m, 4294967295, 0⟩]) rfl hown3 (by simp)
              have hbW : Below base w1 w3 := (hbd.alloc hbl _).grown hgrow (by simp; omega) (fun k hk => own_ge hown hk)
              have hln : q + 2 ≤ 9 + 2 * (j + 1) := by omega
              clear hown3 hgrow hat hlt3 hown hbd hi0 hz0 hz1 hz2 cWr
              go_wp2_with fail
              go_roundw
              case rel => exact ⟨_, j + 1, by rw [List.length_append, ← HQ.out]; exact hln, by omega, by go_num, hRn, hbW⟩
              case measure => simp [intOf]; omega
    · obtain ⟨h1, h2⟩ := of_decide_eq_true hgd.symm
      clear hgd
      have h1i : (i : Int) < (lv : Int) := by omega
      obtain ⟨bb, off, rfl, hbb, hcells⟩ := hv.2 (by omega)
      have his : i < vs.length := by have := hv.1; omega
      have hcj := (hcells i his).below (hb0.trans (hbr.mono (by have := HBS.out; omega)))
      obtain ⟨v, hvj⟩ : ∃ v, v = vs[i] := ⟨_, rfl⟩
      rw [← hvj] at hcj
      obtain ⟨p0, p1, p2, p3, p4, p5⟩ := hcj
      have hown := hR1.alloc (.cells #[.int .i64 v.k, .bool v.no, .int .i64 v.l, .int .i64 v.h, .int .i64 v.f, .int .i64 v.b] 30)
      have hbA := hbr.alloc hbs (.cells #[.int .i64 v.k, .bool v.no, .int .i64 v.l, .int .i64 v.h, .int .i64 v.f, .int .i64 v.b] 30)
      clear hvj hcells hv
      by_cases hk : v.k = K
      · subst hk
        go_wp2_with ((at_builtin; refine wpList_append_lies _ rfl _ _ 22 rfl base 30 i0 (.agg #[.int .i64 0, .bool false, .int .i64 0, .int .i64 0, .int .i64 0, .int .i64 0]) 6 48 Tryz.underlying22 hi0 hz0 hz1 hz2 rfl (by decide) (.slice p q cap) q (xs.flatMap viC) rfl hown ⟨wr.heap.size, 0, none⟩ 1 1 [.int .i64 v.k, .bool v.no, .int .i64 v.l, .int .i64 v.h, .int .i64 v.f, .int .i64 v.b] rfl rfl (World.news_of_block (cs := #[.int .i64 v.k, .bool v.no, .int .i64 v.l, .int .i64 v.h, .int .i64 v.f, .int .i64 v.b]) (t := 30) (fr := (0, 0)) (heap_alloc_new wr _)) (by simp [Value.oneCell']) (by omega) (by unfold maxLen; omega) (by omega) (by simp; omega) (wr.heap.size + 1) (by simp) ?_; intro g2 cap2 w3 hown3 hgrow hat hlt3))
        have hRn : RowV base (xs ++ [v]) (.slice (some ⟨g2, 0, none⟩) (q + 1) cap2) w3 := RowV.snoc HQ.out (ys := [v]) rfl hown3 (by simp)
        have hbW : Below base w1 w3 := hbA.grown hgrow (by simp; omega) (fun k hk => own_ge hown hk)
        have hln : (xs ++ [v]).length ≤ 4 := by have := HQ.out; simp; omega
        clear hown3 hgrow hat hlt3 hown hbA hi0 hz0 hz1 hz2 p0 p1 p2 p3 p4 p5 c0 hR hR1
        go_wp2_with fail
        go_roundw
        case rel => exact ⟨xs ++ [v], i + 1, hln, by omega, by go_num, hRn, hbW⟩
        case measure => simp [intOf]; omega
      · have t0 : (v.k == K) = false := by simpa using hk
        by_cases h5 : i % 5 = 4
        · have t1 : ((i : Int) % 5 == 4) = true := by simp; omega
          have t2 : (Int.tmod (i : Int) 5 == 4) = true := by simp [Int.tmod]; omega
          go_wp2_with ((at_builtin; refine wpList_append_lies _ rfl _ _ 22 rfl base 30 i0 (.agg #[.int .i64 0, .bool false, .int .i64 0, .int .i64 0, .int .i64 0, .int .i64 0]) 6 48 Tryz.underlying22 hi0 hz0 hz1 hz2 rfl (by decide) (.slice p q cap) q (xs.flatMap viC) rfl hown ⟨wr.heap.size, 0, none⟩ 1 1 [.int .i64 v.k, .bool v.no, .int .i64 v.l, .int .i64 v.h, .int .i64 v.f, .int .i64 v.b] rfl rfl (World.news_of_block (cs := #[.int .i64 v.k, .bool v.no, .int .i64 v.l, .int .i64 v.h, .int .i64 v.f, .int .i64 v.b]) (t := 30) (fr := (0, 0)) (heap_alloc_new wr _)) (by simp [Value.oneCell']) (by omega) (by unfold maxLen; omega) (by omega) (by simp; omega) (wr.heap.size + 1) (by simp) ?_; intro g2 cap2 w3 hown3 hgrow hat hlt3))
          have hRn : RowV base (xs ++ [v]) (.slice (some ⟨g2, 0, none⟩) (q + 1) cap2) w3 := RowV.snoc HQ.out (ys := [v]) rfl hown3 (by simp)
          have hbW : Below base w1 w3 := hbA.grown hgrow (by simp; omega) (fun k hk => own_ge hown hk)
          have hln : (xs ++ [v]).length ≤ 4 := by have := HQ.out; simp; omega
          clear hown3 hgrow hat hlt3 hown hbA hi0 hz0 hz1 hz2 p0 p1 p2 p3 p4 p5 c0 hR hR1
          go_wp2_with fail
          go_roundw
          case rel => exact ⟨xs ++ [v], i + 1, hln, by omega, by go_num, hRn, hbW⟩
          case measure => simp [intOf]; omega
        · have t1 : ((i : Int) % 5 == 4) = false := by simp; omega
          have t2 : (Int.tmod (i : Int) 5 == 4) = false := by simp [Int.tmod]; omega
          have hRq : RowV base xs (.slice p q cap) wr := hR
          have hln : xs.length ≤ 4 := by have := HQ.out; omega
          clear hown hbA hR1 hR
          go_wp2_with fail
          go_roundw
          case rel => exact ⟨xs, i + 1, hln, by omega, by go_num, hRq, hbr⟩
          case measure => simp [intOf]; omega
end Go.Proofs.YtblahbmhbfcggaaGreatDoor
