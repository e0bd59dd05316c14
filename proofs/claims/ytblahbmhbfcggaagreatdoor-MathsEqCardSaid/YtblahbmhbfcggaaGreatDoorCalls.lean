/- Package alu: its three calls. -/
import Derived.Test.YtblahbmhbfcggaaGreatDoorAlu
namespace Go.Proofs.YtblahbmhbfcggaaGreatDoor.Al
open Go.ChangeShapes Go.WideShapes Go.ChangeAt Go.RowKit Go.Joins Go.Deep
set_option linter.unusedVariables false

/-- a number, what went wrong, and what both together tell -/
def ToldIn (b : Nat) (W : Int) (sg : Bool) (a c : Int) (r : Int × Int) (w : World) (e : Ending) (w' : World) : Prop :=
  ∃ n bad dn u v, e = .returned (.int .i64 n) ∧ NumAt w' b W sg a c dn 0 u v bad ∧ Below b w w' ∧ 0 ≤ bad ∧ bad ≤ 6 ∧ (bad = 0 → r = (n, 0)) ∧ (¬ bad = 0 → r = (0, bad))
theorem told_0 {b : Nat} {W : Int} {sg : Bool} {a c dn u v n : Int} {w w' : World} (m1 : NumAt w' b W sg a c dn 0 u v 0) (m2 : Below b w w') : ToldIn b W sg a c (n, 0) w (.returned (.int .i64 n)) w' :=
  ⟨n, 0, dn, u, v, rfl, m1, m2, by decide, by decide, fun _ => rfl, fun h => absurd rfl h⟩
theorem told_b {b : Nat} {W : Int} {sg : Bool} {a c dn u v n bad : Int} {w w' : World} (m1 : NumAt w' b W sg a c dn 0 u v bad) (m2 : Below b w w') (h1 : 1 ≤ bad) (h6 : bad ≤ 6) : ToldIn b W sg a c (0, bad) w (.returned (.int .i64 n)) w' :=
  ⟨n, bad, dn, u, v, rfl, m1, m2, by omega, h6, fun h => absurd h (by omega), fun _ => rfl⟩
theorem told_fit {b : Nat} {k x : Int} {a c dn u v : Int} {w w' : World} (m1 : NumAt w' b (widthI k) (signedB k) a c dn 0 u v (badOf (fitsW (widthI k) (signedB k) x))) (m2 : Below b w w') :
    ToldIn b (widthI k) (signedB k) a c (fitI k x) w (.returned (.int .i64 (wrapI x (widthI k)))) w' := by
  have e : fitsW (widthI k) (signedB k) x = fitsB k x := rfl
  rw [e] at m1
  cases h : fitsB k x
  · rw [h] at m1
    rw [fit_no h]
    exact told_b m1 m2 (by decide) (by decide)
  · rw [h] at m1
    rw [fit_yes h]
    exact told_0 m1 m2

theorem two_8 (b : Nat) (k a c : Int) (hk : 1 ≤ k ∧ k ≤ 6) (ha : isN a (widthI k)) (hc : isN c (widthI k)) (w : World) (h : NumAt w b (widthI k) (signedB k) a c 0 0 0 0 0) :
    Calls Tryz.prog 56 #[.pointer (some ⟨b, 0, none⟩), .int .i64 8] w (ToldIn b (widthI k) (signedB k) a c (fitI k ((seeI k a) + (seeI k c))) w) := by
  have ct := add_8 b _ _ a c (width_isW hk) ha hc w h
  generalize hW : widthI k = W at *
  go_enter Tryz.func56, Tryz.ntmps56
  go_wp2_with (go_at_call 82; refine ct.mono ?_; rintro e w1 ⟨rfl, m1, m2⟩)
  go_ret
  subst hW
  exact told_fit m1 m2
theorem two_9 (b : Nat) (k a c : Int) (hk : 1 ≤ k ∧ k ≤ 6) (ha : isN a (widthI k)) (hc : isN c (widthI k)) (w : World) (h : NumAt w b (widthI k) (signedB k) a c 0 0 0 0 0) :
    Calls Tryz.prog 56 #[.pointer (some ⟨b, 0, none⟩), .int .i64 9] w (ToldIn b (widthI k) (signedB k) a c (fitI k ((seeI k a) - (seeI k c))) w) := by
  have ct := add_9 b _ _ a c (width_isW hk) ha hc w h
  generalize hW : widthI k = W at *
  go_enter Tryz.func56, Tryz.ntmps56
  go_wp2_with (go_at_call 82; refine ct.mono ?_; rintro e w1 ⟨rfl, m1, m2⟩)
  go_ret
  subst hW
  exact told_fit m1 m2
theorem two_10 (b : Nat) (k a c : Int) (hk : 1 ≤ k ∧ k ≤ 6) (ha : isN a (widthI k)) (hc : isN c (widthI k)) (w : World) (h : NumAt w b (widthI k) (signedB k) a c 0 0 0 0 0) :
    Calls Tryz.prog 56 #[.pointer (some ⟨b, 0, none⟩), .int .i64 10] w (ToldIn b (widthI k) (signedB k) a c (fitI k (wrap64 ((seeI k a) * (seeI k c)))) w) := by
  have ct := add_10 b _ _ a c (width_isW hk) ha hc w h
  generalize hW : widthI k = W at *
  go_enter Tryz.func56, Tryz.ntmps56
  go_wp2_with (go_at_call 82; refine ct.mono ?_; rintro e w1 ⟨rfl, m1, m2⟩)
  go_ret
  subst hW
  exact told_fit m1 m2
theorem two_11_z (b : Nat) (k a c : Int) (hk : 1 ≤ k ∧ k ≤ 6) (ha : isN a (widthI k)) (hc : isN c (widthI k)) (w : World) (h : NumAt w b (widthI k) (signedB k) a c 0 0 0 0 0) (hv : (seeI k c) = 0) :
    Calls Tryz.prog 56 #[.pointer (some ⟨b, 0, none⟩), .int .i64 11] w (ToldIn b (widthI k) (signedB k) a c (0, 6) w) := by
  have ct := divide_11_z b _ _ a c (width_isW hk) ha hc w h hv
  clear hv
  generalize hW : widthI k = W at *
  go_enter Tryz.func56, Tryz.ntmps56
  go_wp2_with (go_at_call 83; refine ct.mono ?_; rintro e w1 ⟨rfl, m1, m2⟩)
  go_ret
  subst hW
  exact told_b m1 m2 (by decide) (by decide)
theorem two_11_u (b : Nat) (k a c : Int) (hk : 1 ≤ k ∧ k ≤ 6) (ha : isN a (widthI k)) (hc : isN c (widthI k)) (w : World) (h : NumAt w b (widthI k) (signedB k) a c 0 0 0 0 0) (hv : ¬ (seeI k c) = 0) (hs : signedB k = false) :
    Calls Tryz.prog 56 #[.pointer (some ⟨b, 0, none⟩), .int .i64 11] w (ToldIn b (widthI k) (signedB k) a c (wrapI (wrap64 ((seeI k a).tdiv (seeI k c))) (widthI k), 0) w) := by
  have ct := divide_11_u b _ _ a c (width_isW hk) ha hc w h hv hs
  clear hv hs
  generalize hW : widthI k = W at *
  go_enter Tryz.func56, Tryz.ntmps56
  go_wp2_with (go_at_call 83; refine ct.mono ?_; rintro e w1 ⟨rfl, m1, m2⟩)
  go_ret
  subst hW
  exact told_0 m1 m2
theorem two_11_a (b : Nat) (k a c : Int) (hk : 1 ≤ k ∧ k ≤ 6) (ha : isN a (widthI k)) (hc : isN c (widthI k)) (w : World) (h : NumAt w b (widthI k) (signedB k) a c 0 0 0 0 0) (hv : ¬ (seeI k c) = 0) (hs : signedB k = true) (hu : ¬ (seeI k a) = -(halfI k)) :
    Calls Tryz.prog 56 #[.pointer (some ⟨b, 0, none⟩), .int .i64 11] w (ToldIn b (widthI k) (signedB k) a c (wrapI (wrap64 ((seeI k a).tdiv (seeI k c))) (widthI k), 0) w) := by
  have ct := divide_11_a b _ _ a c (width_isW hk) ha hc w h hv hs hu
  clear hv hs hu
  generalize hW : widthI k = W at *
  go_enter Tryz.func56, Tryz.ntmps56
  go_wp2_with (go_at_call 83; refine ct.mono ?_; rintro e w1 ⟨rfl, m1, m2⟩)
  go_ret
  subst hW
  exact told_0 m1 m2
theorem two_11_b (b : Nat) (k a c : Int) (hk : 1 ≤ k ∧ k ≤ 6) (ha : isN a (widthI k)) (hc : isN c (widthI k)) (w : World) (h : NumAt w b (widthI k) (signedB k) a c 0 0 0 0 0) (hv : ¬ (seeI k c) = 0) (hs : signedB k = true) (hu : (seeI k a) = -(halfI k)) (hm : ¬ (seeI k c) = -1) :
    Calls Tryz.prog 56 #[.pointer (some ⟨b, 0, none⟩), .int .i64 11] w (ToldIn b (widthI k) (signedB k) a c (wrapI (wrap64 ((seeI k a).tdiv (seeI k c))) (widthI k), 0) w) := by
  have ct := divide_11_b b _ _ a c (width_isW hk) ha hc w h hv hs hu hm
  clear hv hs hu hm
  generalize hW : widthI k = W at *
  go_enter Tryz.func56, Tryz.ntmps56
  go_wp2_with (go_at_call 83; refine ct.mono ?_; rintro e w1 ⟨rfl, m1, m2⟩)
  go_ret
  subst hW
  exact told_0 m1 m2
theorem two_11_o (b : Nat) (k a c : Int) (hk : 1 ≤ k ∧ k ≤ 6) (ha : isN a (widthI k)) (hc : isN c (widthI k)) (w : World) (h : NumAt w b (widthI k) (signedB k) a c 0 0 0 0 0) (hv : ¬ (seeI k c) = 0) (hs : signedB k = true) (hu : (seeI k a) = -(halfI k)) (hm : (seeI k c) = -1) :
    Calls Tryz.prog 56 #[.pointer (some ⟨b, 0, none⟩), .int .i64 11] w (ToldIn b (widthI k) (signedB k) a c (0, 4) w) := by
  have ct := divide_11_o b _ _ a c (width_isW hk) ha hc w h hv hs hu hm
  clear hv hs hu hm
  generalize hW : widthI k = W at *
  go_enter Tryz.func56, Tryz.ntmps56
  go_wp2_with (go_at_call 83; refine ct.mono ?_; rintro e w1 ⟨rfl, m1, m2⟩)
  go_ret
  subst hW
  exact told_b m1 m2 (by decide) (by decide)
theorem two_12_z (b : Nat) (k a c : Int) (hk : 1 ≤ k ∧ k ≤ 6) (ha : isN a (widthI k)) (hc : isN c (widthI k)) (w : World) (h : NumAt w b (widthI k) (signedB k) a c 0 0 0 0 0) (hv : (seeI k c) = 0) :
    Calls Tryz.prog 56 #[.pointer (some ⟨b, 0, none⟩), .int .i64 12] w (ToldIn b (widthI k) (signedB k) a c (0, 6) w) := by
  have ct := divide_12_z b _ _ a c (width_isW hk) ha hc w h hv
  clear hv
  generalize hW : widthI k = W at *
  go_enter Tryz.func56, Tryz.ntmps56
  go_wp2_with (go_at_call 83; refine ct.mono ?_; rintro e w1 ⟨rfl, m1, m2⟩)
  go_ret
  subst hW
  exact told_b m1 m2 (by decide) (by decide)
theorem two_12_u (b : Nat) (k a c : Int) (hk : 1 ≤ k ∧ k ≤ 6) (ha : isN a (widthI k)) (hc : isN c (widthI k)) (w : World) (h : NumAt w b (widthI k) (signedB k) a c 0 0 0 0 0) (hv : ¬ (seeI k c) = 0) (hs : signedB k = false) :
    Calls Tryz.prog 56 #[.pointer (some ⟨b, 0, none⟩), .int .i64 12] w (ToldIn b (widthI k) (signedB k) a c (wrapI ((seeI k a).tmod (seeI k c)) (widthI k), 0) w) := by
  have ct := divide_12_u b _ _ a c (width_isW hk) ha hc w h hv hs
  clear hv hs
  generalize hW : widthI k = W at *
  go_enter Tryz.func56, Tryz.ntmps56
  go_wp2_with (go_at_call 83; refine ct.mono ?_; rintro e w1 ⟨rfl, m1, m2⟩)
  go_ret
  subst hW
  exact told_0 m1 m2
theorem two_12_a (b : Nat) (k a c : Int) (hk : 1 ≤ k ∧ k ≤ 6) (ha : isN a (widthI k)) (hc : isN c (widthI k)) (w : World) (h : NumAt w b (widthI k) (signedB k) a c 0 0 0 0 0) (hv : ¬ (seeI k c) = 0) (hs : signedB k = true) (hu : ¬ (seeI k a) = -(halfI k)) :
    Calls Tryz.prog 56 #[.pointer (some ⟨b, 0, none⟩), .int .i64 12] w (ToldIn b (widthI k) (signedB k) a c (wrapI ((seeI k a).tmod (seeI k c)) (widthI k), 0) w) := by
  have ct := divide_12_a b _ _ a c (width_isW hk) ha hc w h hv hs hu
  clear hv hs hu
  generalize hW : widthI k = W at *
  go_enter Tryz.func56, Tryz.ntmps56
  go_wp2_with (go_at_call 83; refine ct.mono ?_; rintro e w1 ⟨rfl, m1, m2⟩)
  go_ret
  subst hW
  exact told_0 m1 m2
theorem two_12_b (b : Nat) (k a c : Int) (hk : 1 ≤ k ∧ k ≤ 6) (ha : isN a (widthI k)) (hc : isN c (widthI k)) (w : World) (h : NumAt w b (widthI k) (signedB k) a c 0 0 0 0 0) (hv : ¬ (seeI k c) = 0) (hs : signedB k = true) (hu : (seeI k a) = -(halfI k)) (hm : ¬ (seeI k c) = -1) :
    Calls Tryz.prog 56 #[.pointer (some ⟨b, 0, none⟩), .int .i64 12] w (ToldIn b (widthI k) (signedB k) a c (wrapI ((seeI k a).tmod (seeI k c)) (widthI k), 0) w) := by
  have ct := divide_12_b b _ _ a c (width_isW hk) ha hc w h hv hs hu hm
  clear hv hs hu hm
  generalize hW : widthI k = W at *
  go_enter Tryz.func56, Tryz.ntmps56
  go_wp2_with (go_at_call 83; refine ct.mono ?_; rintro e w1 ⟨rfl, m1, m2⟩)
  go_ret
  subst hW
  exact told_0 m1 m2
theorem two_12_o (b : Nat) (k a c : Int) (hk : 1 ≤ k ∧ k ≤ 6) (ha : isN a (widthI k)) (hc : isN c (widthI k)) (w : World) (h : NumAt w b (widthI k) (signedB k) a c 0 0 0 0 0) (hv : ¬ (seeI k c) = 0) (hs : signedB k = true) (hu : (seeI k a) = -(halfI k)) (hm : (seeI k c) = -1) :
    Calls Tryz.prog 56 #[.pointer (some ⟨b, 0, none⟩), .int .i64 12] w (ToldIn b (widthI k) (signedB k) a c (0, 4) w) := by
  have ct := divide_12_o b _ _ a c (width_isW hk) ha hc w h hv hs hu hm
  clear hv hs hu hm
  generalize hW : widthI k = W at *
  go_enter Tryz.func56, Tryz.ntmps56
  go_wp2_with (go_at_call 83; refine ct.mono ?_; rintro e w1 ⟨rfl, m1, m2⟩)
  go_ret
  subst hW
  exact told_b m1 m2 (by decide) (by decide)
theorem two_13 (b : Nat) (k a c : Int) (hk : 1 ≤ k ∧ k ≤ 6) (ha : isN a (widthI k)) (hc : isN c (widthI k)) (w : World) (h : NumAt w b (widthI k) (signedB k) a c 0 0 0 0 0) :
    Calls Tryz.prog 56 #[.pointer (some ⟨b, 0, none⟩), .int .i64 13] w (ToldIn b (widthI k) (signedB k) a c (bits .and .i64 a c, 0) w) := by
  have ct := mix_13 b _ _ a c w h
  generalize hW : widthI k = W at *
  go_enter Tryz.func56, Tryz.ntmps56
  go_wp2_with (go_at_call 86; refine ct.mono ?_; rintro e w1 ⟨rfl, m1, m2⟩)
  go_ret
  subst hW
  exact told_0 m1 m2
theorem two_14 (b : Nat) (k a c : Int) (hk : 1 ≤ k ∧ k ≤ 6) (ha : isN a (widthI k)) (hc : isN c (widthI k)) (w : World) (h : NumAt w b (widthI k) (signedB k) a c 0 0 0 0 0) :
    Calls Tryz.prog 56 #[.pointer (some ⟨b, 0, none⟩), .int .i64 14] w (ToldIn b (widthI k) (signedB k) a c (bits .or .i64 a c, 0) w) := by
  have ct := mix_14 b _ _ a c w h
  generalize hW : widthI k = W at *
  go_enter Tryz.func56, Tryz.ntmps56
  go_wp2_with (go_at_call 86; refine ct.mono ?_; rintro e w1 ⟨rfl, m1, m2⟩)
  go_ret
  subst hW
  exact told_0 m1 m2
theorem two_15 (b : Nat) (k a c : Int) (hk : 1 ≤ k ∧ k ≤ 6) (ha : isN a (widthI k)) (hc : isN c (widthI k)) (w : World) (h : NumAt w b (widthI k) (signedB k) a c 0 0 0 0 0) :
    Calls Tryz.prog 56 #[.pointer (some ⟨b, 0, none⟩), .int .i64 15] w (ToldIn b (widthI k) (signedB k) a c (bits .xor .i64 a c, 0) w) := by
  have ct := mix_15 b _ _ a c w h
  generalize hW : widthI k = W at *
  go_enter Tryz.func56, Tryz.ntmps56
  go_wp2_with (go_at_call 86; refine ct.mono ?_; rintro e w1 ⟨rfl, m1, m2⟩)
  go_ret
  subst hW
  exact told_0 m1 m2
theorem two_16_y (b : Nat) (k a c : Int) (hk : 1 ≤ k ∧ k ≤ 6) (ha : isN a (widthI k)) (hc : isN c (widthI k)) (w : World) (h : NumAt w b (widthI k) (signedB k) a c 0 0 0 0 0) (hv : 0 ≤ (seeI k c) ∧ (seeI k c) < widthI k) :
    Calls Tryz.prog 56 #[.pointer (some ⟨b, 0, none⟩), .int .i64 16] w (ToldIn b (widthI k) (signedB k) a c (wrapI (wrap64 (a * 2 ^ ((seeI k c)).toNat)) (widthI k), 0) w) := by
  have ct := shift_16_y b _ _ a c (width_isW hk) ha hc w h hv
  clear hv
  generalize hW : widthI k = W at *
  go_enter Tryz.func56, Tryz.ntmps56
  go_wp2_with (go_at_call 84; refine ct.mono ?_; rintro e w1 ⟨rfl, m1, m2⟩)
  go_ret
  subst hW
  exact told_0 m1 m2
theorem two_16_n (b : Nat) (k a c : Int) (hk : 1 ≤ k ∧ k ≤ 6) (ha : isN a (widthI k)) (hc : isN c (widthI k)) (w : World) (h : NumAt w b (widthI k) (signedB k) a c 0 0 0 0 0) (hv : ¬ (0 ≤ (seeI k c) ∧ (seeI k c) < widthI k)) :
    Calls Tryz.prog 56 #[.pointer (some ⟨b, 0, none⟩), .int .i64 16] w (ToldIn b (widthI k) (signedB k) a c (0, 5) w) := by
  have ct := shift_16_n b _ _ a c (width_isW hk) ha hc w h hv
  clear hv
  generalize hW : widthI k = W at *
  go_enter Tryz.func56, Tryz.ntmps56
  go_wp2_with (go_at_call 84; refine ct.mono ?_; rintro e w1 ⟨rfl, m1, m2⟩)
  go_ret
  subst hW
  exact told_b m1 m2 (by decide) (by decide)
theorem two_17_y (b : Nat) (k a c : Int) (hk : 1 ≤ k ∧ k ≤ 6) (ha : isN a (widthI k)) (hc : isN c (widthI k)) (w : World) (h : NumAt w b (widthI k) (signedB k) a c 0 0 0 0 0) (hv : 0 ≤ (seeI k c) ∧ (seeI k c) < widthI k) :
    Calls Tryz.prog 56 #[.pointer (some ⟨b, 0, none⟩), .int .i64 17] w (ToldIn b (widthI k) (signedB k) a c (wrapI ((seeI k a) / 2 ^ ((seeI k c)).toNat) (widthI k), 0) w) := by
  have ct := shift_17_y b _ _ a c (width_isW hk) ha hc w h hv
  clear hv
  generalize hW : widthI k = W at *
  go_enter Tryz.func56, Tryz.ntmps56
  go_wp2_with (go_at_call 84; refine ct.mono ?_; rintro e w1 ⟨rfl, m1, m2⟩)
  go_ret
  subst hW
  exact told_0 m1 m2
theorem two_17_n (b : Nat) (k a c : Int) (hk : 1 ≤ k ∧ k ≤ 6) (ha : isN a (widthI k)) (hc : isN c (widthI k)) (w : World) (h : NumAt w b (widthI k) (signedB k) a c 0 0 0 0 0) (hv : ¬ (0 ≤ (seeI k c) ∧ (seeI k c) < widthI k)) :
    Calls Tryz.prog 56 #[.pointer (some ⟨b, 0, none⟩), .int .i64 17] w (ToldIn b (widthI k) (signedB k) a c (0, 5) w) := by
  have ct := shift_17_n b _ _ a c (width_isW hk) ha hc w h hv
  clear hv
  generalize hW : widthI k = W at *
  go_enter Tryz.func56, Tryz.ntmps56
  go_wp2_with (go_at_call 84; refine ct.mono ?_; rintro e w1 ⟨rfl, m1, m2⟩)
  go_ret
  subst hW
  exact told_b m1 m2 (by decide) (by decide)
theorem two_18 (b : Nat) (k a c : Int) (hk : 1 ≤ k ∧ k ≤ 6) (ha : isN a (widthI k)) (hc : isN c (widthI k)) (w : World) (h : NumAt w b (widthI k) (signedB k) a c 0 0 0 0 0) :
    Calls Tryz.prog 56 #[.pointer (some ⟨b, 0, none⟩), .int .i64 18] w (ToldIn b (widthI k) (signedB k) a c (truthI (decide ((seeI k a) = (seeI k c))), 0) w) := by
  have ct := compare_18 b _ _ a c (width_isW hk) ha hc w h
  generalize hW : widthI k = W at *
  go_enter Tryz.func56, Tryz.ntmps56
  go_wp2_with (go_at_call 85; refine ct.mono ?_; rintro e w1 ⟨rfl, m1, m2⟩)
  go_ret
  subst hW
  exact told_0 m1 m2
theorem two_19 (b : Nat) (k a c : Int) (hk : 1 ≤ k ∧ k ≤ 6) (ha : isN a (widthI k)) (hc : isN c (widthI k)) (w : World) (h : NumAt w b (widthI k) (signedB k) a c 0 0 0 0 0) :
    Calls Tryz.prog 56 #[.pointer (some ⟨b, 0, none⟩), .int .i64 19] w (ToldIn b (widthI k) (signedB k) a c (truthI (decide ((seeI k a) < (seeI k c))), 0) w) := by
  have ct := compare_19 b _ _ a c (width_isW hk) ha hc w h
  generalize hW : widthI k = W at *
  go_enter Tryz.func56, Tryz.ntmps56
  go_wp2_with (go_at_call 85; refine ct.mono ?_; rintro e w1 ⟨rfl, m1, m2⟩)
  go_ret
  subst hW
  exact told_0 m1 m2
theorem two_any (o : Int) (ho : 8 ≤ o ∧ o ≤ 19) (b : Nat) (k a c : Int) (hk : 1 ≤ k ∧ k ≤ 6) (ha : isN a (widthI k)) (hc : isN c (widthI k)) (w : World) (h : NumAt w b (widthI k) (signedB k) a c 0 0 0 0 0) :
    Calls Tryz.prog 56 #[.pointer (some ⟨b, 0, none⟩), .int .i64 o] w (ToldIn b (widthI k) (signedB k) a c (twoI o k a c) w) := by
  obtain rfl | rfl | rfl | rfl | rfl | rfl | rfl | rfl | rfl | rfl | rfl | rfl : o = 8 ∨ o = 9 ∨ o = 10 ∨ o = 11 ∨ o = 12 ∨ o = 13 ∨ o = 14 ∨ o = 15 ∨ o = 16 ∨ o = 17 ∨ o = 18 ∨ o = 19 := by omega
  · exact two_8 b k a c hk ha hc w h
  · exact two_9 b k a c hk ha hc w h
  · exact two_10 b k a c hk ha hc w h
  · by_cases hv : seeI k c = 0
    · rw [show twoI 11 k a c = (0, 6) from if_pos hv]; exact two_11_z b k a c hk ha hc w h hv
    · cases hs : signedB k
      · rw [show twoI 11 k a c = _ from (if_neg hv).trans (if_neg (fun h => by rw [hs] at h; exact absurd h.1 (by decide)))]; rw [← hs]; exact two_11_u b k a c hk ha hc w h hv hs
      · by_cases hu : seeI k a = -(halfI k)
        · by_cases hm : seeI k c = -1
          · rw [show twoI 11 k a c = (0, 4) from (if_neg hv).trans (if_pos ⟨hs, hu, hm⟩)]; rw [← hs]; exact two_11_o b k a c hk ha hc w h hv hs hu hm
          · rw [show twoI 11 k a c = _ from (if_neg hv).trans (if_neg (fun h => hm h.2.2))]; rw [← hs]; exact two_11_b b k a c hk ha hc w h hv hs hu hm
        · rw [show twoI 11 k a c = _ from (if_neg hv).trans (if_neg (fun h => hu h.2.1))]; rw [← hs]; exact two_11_a b k a c hk ha hc w h hv hs hu
  · by_cases hv : seeI k c = 0
    · rw [show twoI 12 k a c = (0, 6) from if_pos hv]; exact two_12_z b k a c hk ha hc w h hv
    · cases hs : signedB k
      · rw [show twoI 12 k a c = _ from (if_neg hv).trans (if_neg (fun h => by rw [hs] at h; exact absurd h.1 (by decide)))]; rw [← hs]; exact two_12_u b k a c hk ha hc w h hv hs
      · by_cases hu : seeI k a = -(halfI k)
        · by_cases hm : seeI k c = -1
          · rw [show twoI 12 k a c = (0, 4) from (if_neg hv).trans (if_pos ⟨hs, hu, hm⟩)]; rw [← hs]; exact two_12_o b k a c hk ha hc w h hv hs hu hm
          · rw [show twoI 12 k a c = _ from (if_neg hv).trans (if_neg (fun h => hm h.2.2))]; rw [← hs]; exact two_12_b b k a c hk ha hc w h hv hs hu hm
        · rw [show twoI 12 k a c = _ from (if_neg hv).trans (if_neg (fun h => hu h.2.1))]; rw [← hs]; exact two_12_a b k a c hk ha hc w h hv hs hu
  · exact two_13 b k a c hk ha hc w h
  · exact two_14 b k a c hk ha hc w h
  · exact two_15 b k a c hk ha hc w h
  · by_cases hv : 0 ≤ seeI k c ∧ seeI k c < widthI k
    · rw [show twoI 16 k a c = _ from if_pos hv]; exact two_16_y b k a c hk ha hc w h hv
    · rw [show twoI 16 k a c = _ from if_neg hv]; exact two_16_n b k a c hk ha hc w h hv
  · by_cases hv : 0 ≤ seeI k c ∧ seeI k c < widthI k
    · rw [show twoI 17 k a c = _ from if_pos hv]; exact two_17_y b k a c hk ha hc w h hv
    · rw [show twoI 17 k a c = _ from if_neg hv]; exact two_17_n b k a c hk ha hc w h hv
  · exact two_18 b k a c hk ha hc w h
  · exact two_19 b k a c hk ha hc w h

theorem one_5 (b : Nat) (k a : Int) (hk : 1 ≤ k ∧ k ≤ 6) (ha : isN a (widthI k)) (w : World) (h : NumAt w b (widthI k) (signedB k) 0 a 0 0 0 0 0) :
    Calls Tryz.prog 69 #[.pointer (some ⟨b, 0, none⟩), .int .i64 5] w (ToldIn b (widthI k) (signedB k) 0 a (fitI k (seeI k 0 - seeI k a)) w) := by
  have ct := add_9 b _ _ 0 a (width_isW hk) (isN_0 hk) ha w h
  generalize hW : widthI k = W at *
  go_enter Tryz.func69, Tryz.ntmps69
  go_wp2_with (go_at_call 82; refine ct.mono ?_; rintro e w1 ⟨rfl, m1, m2⟩)
  go_ret
  subst hW
  exact told_fit m1 m2
theorem one_6 (b : Nat) (k a : Int) (hk : 1 ≤ k ∧ k ≤ 6) (ha : isN a (widthI k)) (w : World) (h : NumAt w b (widthI k) (signedB k) 0 a 0 0 0 0 0) :
    Calls Tryz.prog 69 #[.pointer (some ⟨b, 0, none⟩), .int .i64 6] w (ToldIn b (widthI k) (signedB k) 0 a (wrapI (bits .xor .i64 (-1) a) (widthI k), 0) w) := by
  have hI := width_isW hk
  have c3 := h.c3
  have hsg : IntKind.i64.signed = true := rfl
  generalize hW : widthI k = W at *
  go_enter Tryz.func69, Tryz.ntmps69
  go_wp2_with (go_at_call 111; refine (wrap_any b _ _ 0 a 0 0 0 0 0 _ hI _ h).mono ?_; rintro e w' ⟨rfl, rfl⟩)
  go_ret
  subst hW
  exact told_0 h (Below.refl _ _)
theorem one_7 (b : Nat) (k a : Int) (hk : 1 ≤ k ∧ k ≤ 6) (ha : isN a (widthI k)) (w : World) (h : NumAt w b (widthI k) (signedB k) 0 a 0 0 0 0 0) :
    Calls Tryz.prog 69 #[.pointer (some ⟨b, 0, none⟩), .int .i64 7] w (ToldIn b (widthI k) (signedB k) 0 a (truthI (a == 0), 0) w) := by
  have c3 := h.c3
  generalize hW : widthI k = W at *
  go_enter Tryz.func69, Tryz.ntmps69
  go_wp2_with (go_at_call 112; refine (atruth_any _ _).mono ?_; rintro e w' ⟨rfl, rfl⟩)
  go_ret
  subst hW
  exact told_0 h (Below.refl _ _)
theorem one_any (o : Int) (ho : 5 ≤ o ∧ o ≤ 7) (b : Nat) (k a : Int) (hk : 1 ≤ k ∧ k ≤ 6) (ha : isN a (widthI k)) (w : World) (h : NumAt w b (widthI k) (signedB k) 0 a 0 0 0 0 0) :
    Calls Tryz.prog 69 #[.pointer (some ⟨b, 0, none⟩), .int .i64 o] w (ToldIn b (widthI k) (signedB k) 0 a (oneI o k a) w) := by
  obtain rfl | rfl | rfl : o = 5 ∨ o = 6 ∨ o = 7 := by omega
  · rw [show oneI 5 k a = fitI k (seeI k 0 - seeI k a) from if_pos rfl]; exact one_5 b k a hk ha w h
  · rw [show oneI 6 k a = (wrapI (bits .xor .i64 (-1) a) (widthI k), 0) from (if_neg (by decide)).trans (if_pos rfl)]; exact one_6 b k a hk ha w h
  · rw [show oneI 7 k a = (truthI (a == 0), 0) from (if_neg (by decide)).trans (if_neg (by decide))]; exact one_7 b k a hk ha w h

end Go.Proofs.YtblahbmhbfcggaaGreatDoor.Al

/- Package alu: its exported calls. -/
namespace Go.Proofs.YtblahbmhbfcggaaGreatDoor.Al
open Go.ChangeShapes Go.WideShapes Go.ChangeAt Go.RowKit Go.Joins Go.Deep
set_option linter.unusedVariables false

theorem ret_3 {a b c d e f : Int} (h : a = b) (h' : c = d) (h'' : e = f) : Ending.returned (.tuple #[.int .i64 a, .int .i64 c, .int .i64 e]) = .returned (.tuple #[.int .i64 b, .int .i64 d, .int .i64 f]) := by rw [h, h', h'']

theorem take_no_k (k a c : Int) (hk : ¬ (1 ≤ k ∧ k ≤ 6)) (w : World) : Calls Tryz.prog 54 #[.int .i64 k, .int .i64 a, .int .i64 c] w fun e w' => e = .returned (.tuple #[.pointer none, .int .i64 1]) ∧ w = w' := by
  go_enter Tryz.func54, Tryz.ntmps54
  go_wp2_with ((go_at_call 78; refine (Width_no _ hk _).mono ?_; rintro e w' ⟨rfl, rfl⟩))
  go_ret2
  exact ⟨rfl, rfl⟩
theorem take_no_a (k a c : Int) (hk : 1 ≤ k ∧ k ≤ 6) (ha : ¬ isN a (widthI k)) (w : World) : Calls Tryz.prog 54 #[.int .i64 k, .int .i64 a, .int .i64 c] w fun e w' => e = .returned (.tuple #[.pointer none, .int .i64 1]) ∧ w = w' := by
  go_enter Tryz.func54, Tryz.ntmps54
  go_wp2_with (first | (go_at_call 78; refine (Width_yes _ hk _).mono ?_; rintro e w' ⟨rfl, rfl⟩) | (go_at_call 79; refine (Signed_yes _ hk _).mono ?_; rintro e w' ⟨rfl, rfl⟩) | (go_at_call 80; refine (isNumber_no _ _ (width_isW hk) ha _).mono ?_; rintro e w' ⟨rfl, rfl⟩))
  go_ret2
  exact ⟨rfl, rfl⟩
theorem take_no_c (k a c : Int) (hk : 1 ≤ k ∧ k ≤ 6) (ha : isN a (widthI k)) (hc : ¬ isN c (widthI k)) (w : World) : Calls Tryz.prog 54 #[.int .i64 k, .int .i64 a, .int .i64 c] w fun e w' => e = .returned (.tuple #[.pointer none, .int .i64 1]) ∧ w = w' := by
  have ia := fun w => isNumber_yes a _ (width_isW hk) ha w
  have ic := fun w => isNumber_no c _ (width_isW hk) hc w
  go_enter Tryz.func54, Tryz.ntmps54
  go_wp2_with (first | (go_at_call 78; refine (Width_yes _ hk _).mono ?_; rintro e w' ⟨rfl, rfl⟩) | (go_at_call 79; refine (Signed_yes _ hk _).mono ?_; rintro e w' ⟨rfl, rfl⟩) | (go_at_call 80; ((with_reducible refine (ia _).mono ?_); rintro e w' ⟨rfl, rfl⟩)) | (go_at_call 80; ((with_reducible refine (ic _).mono ?_); rintro e w' ⟨rfl, rfl⟩)))
  go_ret2
  exact ⟨rfl, rfl⟩
def takenW (k a c : Int) (w : World) : World := w.alloc (.cells (numC (widthI k) (signedB k) a c 0 0 0 0 0) 125)
theorem taken_at (k a c : Int) (w : World) : NumAt (takenW k a c w) w.heap.size (widthI k) (signedB k) a c 0 0 0 0 0 := heap_alloc_new _ _
theorem take_yes (k a c : Int) (hk : 1 ≤ k ∧ k ≤ 6) (ha : isN a (widthI k)) (hc : isN c (widthI k)) (w : World) : Calls Tryz.prog 54 #[.int .i64 k, .int .i64 a, .int .i64 c] w fun e w' => e = .returned (.tuple #[.pointer (some ⟨w.heap.size, 0, none⟩), .int .i64 0]) ∧ takenW k a c w = w' := by
  have ia := fun w => isNumber_yes a _ (width_isW hk) ha w
  have ic := fun w => isNumber_yes c _ (width_isW hk) hc w
  go_enter Tryz.func54, Tryz.ntmps54
  go_wp2_with (first | (go_at_call 78; refine (Width_yes _ hk _).mono ?_; rintro e w' ⟨rfl, rfl⟩) | (go_at_call 79; refine (Signed_yes _ hk _).mono ?_; rintro e w' ⟨rfl, rfl⟩) | (go_at_call 80; ((with_reducible refine (ia _).mono ?_); rintro e w' ⟨rfl, rfl⟩)) | (go_at_call 80; ((with_reducible refine (ic _).mono ?_); rintro e w' ⟨rfl, rfl⟩)))
  go_ret2
  exact ⟨rfl, rfl⟩
def NoPost (w : World) (e : Ending) (w' : World) : Prop := e = .returned (.tuple #[.int .i64 0, .int .i64 0, .int .i64 1]) ∧ w = w'
def YesPost (r : Int × Int) (w : World) (e : Ending) (w' : World) : Prop := e = .returned (.tuple #[.int .i64 r.1, .int .i64 r.2, .int .i64 0]) ∧ Below w.heap.size w w'

theorem Two_no_o (o k : Int) (a c : Int) (ho : ¬ (8 ≤ o ∧ o ≤ 19)) (w : World) : Calls Tryz.prog 30 #[.int .i64 o, .int .i64 k, .int .i64 a, .int .i64 c] w (NoPost w) := by
  by_cases h1 : o < 8
  · go_enter Tryz.func30, Tryz.ntmps30
    go_wp2_with fail
    go_ret3
    exact ⟨rfl, rfl⟩
  · have d1 : decide (o < 8) = false := by simp; omega
    have d2 : decide (19 < o) = true := by simp; omega
    go_enter Tryz.func30, Tryz.ntmps30
    go_wp2_with fail
    go_ret3
    exact ⟨rfl, rfl⟩
theorem Two_no_k (o k : Int) (a c : Int) (ho : 8 ≤ o ∧ o ≤ 19) (hk : ¬ (1 ≤ k ∧ k ≤ 6)) (w : World) : Calls Tryz.prog 30 #[.int .i64 o, .int .i64 k, .int .i64 a, .int .i64 c] w (NoPost w) := by
  obtain ⟨o1, o2⟩ := ho
  have d1 : decide (o < 8) = false := by simp; omega
  have d2 : decide (19 < o) = false := by simp; omega
  go_enter Tryz.func30, Tryz.ntmps30
  go_wp2_with (go_at_call 54; refine (take_no_k _ _ _ hk _).mono ?_; rintro e w' ⟨rfl, rfl⟩)
  go_ret3
  exact ⟨rfl, rfl⟩
theorem Two_no_a (o k : Int) (a c : Int) (ho : 8 ≤ o ∧ o ≤ 19) (hk : 1 ≤ k ∧ k ≤ 6) (ha : ¬ isN a (widthI k)) (w : World) : Calls Tryz.prog 30 #[.int .i64 o, .int .i64 k, .int .i64 a, .int .i64 c] w (NoPost w) := by
  obtain ⟨o1, o2⟩ := ho
  have d1 : decide (o < 8) = false := by simp; omega
  have d2 : decide (19 < o) = false := by simp; omega
  go_enter Tryz.func30, Tryz.ntmps30
  go_wp2_with (go_at_call 54; refine (take_no_a _ _ _ hk ha _).mono ?_; rintro e w' ⟨rfl, rfl⟩)
  go_ret3
  exact ⟨rfl, rfl⟩
theorem Two_no_c (o k : Int) (a c : Int) (ho : 8 ≤ o ∧ o ≤ 19) (hk : 1 ≤ k ∧ k ≤ 6) (ha : isN a (widthI k)) (hc : ¬ isN c (widthI k)) (w : World) : Calls Tryz.prog 30 #[.int .i64 o, .int .i64 k, .int .i64 a, .int .i64 c] w (NoPost w) := by
  obtain ⟨o1, o2⟩ := ho
  have d1 : decide (o < 8) = false := by simp; omega
  have d2 : decide (19 < o) = false := by simp; omega
  go_enter Tryz.func30, Tryz.ntmps30
  go_wp2_with (go_at_call 54; refine (take_no_c _ _ _ hk ha hc _).mono ?_; rintro e w' ⟨rfl, rfl⟩)
  go_ret3
  exact ⟨rfl, rfl⟩
theorem Two_yes (o k : Int) (a c : Int) (ho : 8 ≤ o ∧ o ≤ 19) (hk : 1 ≤ k ∧ k ≤ 6) (ha : isN a (widthI k)) (hc : isN c (widthI k)) (w : World) : Calls Tryz.prog 30 #[.int .i64 o, .int .i64 k, .int .i64 a, .int .i64 c] w (YesPost (twoI o k a c) w) := by
  have ct := fun w b h => two_any o ho b k a c hk ha hc w h
  have hb : Below w.heap.size w (takenW k a c w) := (Below.refl _ _).alloc (Nat.le_refl _) _
  have hn := taken_at k a c w
  generalize twoI o k a c = r at *
  obtain ⟨o1, o2⟩ := ho
  have d1 : decide (o < 8) = false := by simp; omega
  have d2 : decide (19 < o) = false := by simp; omega
  go_enter Tryz.func30, Tryz.ntmps30
  go_wp2_with (first | (go_at_call 54; refine (take_yes _ _ _ hk ha hc _).mono ?_; rintro e w' ⟨rfl, rfl⟩) | (go_at_call 56; refine (ct _ _ hn).mono ?_; rintro e w' ⟨n, bad, dn, u, v, rfl, m1, m2, b0, b6, e0, e1⟩))
  by_cases hbad : bad = 0
  · have er := e0 hbad
    subst hbad er
    clear e0 e1
    refine (tell_no w.heap.size _ _ _ _ _ _ _ _ n _ m1).mono ?_
    rintro e w' ⟨rfl, rfl⟩
    go_wp2_with fail
    go_ret3
    exact ⟨rfl, hb.trans m2⟩
  · have er := e1 hbad
    subst er
    clear e0 e1
    refine (tell_yes w.heap.size _ _ _ _ _ _ _ _ n bad (by omega) b6 _ m1).mono ?_
    rintro e w' ⟨rfl, rfl⟩
    go_wp2_with fail
    go_ret3
    exact ⟨rfl, hb.trans m2⟩
theorem One_no_o (o k : Int) (c : Int) (ho : ¬ (5 ≤ o ∧ o ≤ 7)) (w : World) : Calls Tryz.prog 52 #[.int .i64 o, .int .i64 k, .int .i64 c] w (NoPost w) := by
  by_cases h1 : o < 5
  · go_enter Tryz.func52, Tryz.ntmps52
    go_wp2_with fail
    go_ret3
    exact ⟨rfl, rfl⟩
  · have d1 : decide (o < 5) = false := by simp; omega
    have d2 : decide (7 < o) = true := by simp; omega
    go_enter Tryz.func52, Tryz.ntmps52
    go_wp2_with fail
    go_ret3
    exact ⟨rfl, rfl⟩
theorem One_no_k (o k : Int) (c : Int) (ho : 5 ≤ o ∧ o ≤ 7) (hk : ¬ (1 ≤ k ∧ k ≤ 6)) (w : World) : Calls Tryz.prog 52 #[.int .i64 o, .int .i64 k, .int .i64 c] w (NoPost w) := by
  obtain ⟨o1, o2⟩ := ho
  have d1 : decide (o < 5) = false := by simp; omega
  have d2 : decide (7 < o) = false := by simp; omega
  go_enter Tryz.func52, Tryz.ntmps52
  go_wp2_with (go_at_call 54; refine (take_no_k _ _ _ hk _).mono ?_; rintro e w' ⟨rfl, rfl⟩)
  go_ret3
  exact ⟨rfl, rfl⟩
theorem One_no_c (o k : Int) (c : Int) (ho : 5 ≤ o ∧ o ≤ 7) (hk : 1 ≤ k ∧ k ≤ 6) (hc : ¬ isN c (widthI k)) (w : World) : Calls Tryz.prog 52 #[.int .i64 o, .int .i64 k, .int .i64 c] w (NoPost w) := by
  obtain ⟨o1, o2⟩ := ho
  have d1 : decide (o < 5) = false := by simp; omega
  have d2 : decide (7 < o) = false := by simp; omega
  go_enter Tryz.func52, Tryz.ntmps52
  go_wp2_with (go_at_call 54; refine (take_no_c _ _ _ hk (isN_0 hk) hc _).mono ?_; rintro e w' ⟨rfl, rfl⟩)
  go_ret3
  exact ⟨rfl, rfl⟩
theorem One_yes (o k : Int) (c : Int) (ho : 5 ≤ o ∧ o ≤ 7) (hk : 1 ≤ k ∧ k ≤ 6) (hc : isN c (widthI k)) (w : World) : Calls Tryz.prog 52 #[.int .i64 o, .int .i64 k, .int .i64 c] w (YesPost (oneI o k c) w) := by
  have ct := fun w b h => one_any o ho b k c hk hc w h
  have hb : Below w.heap.size w (takenW k 0 c w) := (Below.refl _ _).alloc (Nat.le_refl _) _
  have hn := taken_at k 0 c w
  generalize oneI o k c = r at *
  obtain ⟨o1, o2⟩ := ho
  have d1 : decide (o < 5) = false := by simp; omega
  have d2 : decide (7 < o) = false := by simp; omega
  go_enter Tryz.func52, Tryz.ntmps52
  go_wp2_with (first | (go_at_call 54; refine (take_yes _ _ _ hk (isN_0 hk) hc _).mono ?_; rintro e w' ⟨rfl, rfl⟩) | (go_at_call 69; refine (ct _ _ hn).mono ?_; rintro e w' ⟨n, bad, dn, u, v, rfl, m1, m2, b0, b6, e0, e1⟩))
  by_cases hbad : bad = 0
  · have er := e0 hbad
    subst hbad er
    clear e0 e1
    refine (tell_no w.heap.size _ _ _ _ _ _ _ _ n _ m1).mono ?_
    rintro e w' ⟨rfl, rfl⟩
    go_wp2_with fail
    go_ret3
    exact ⟨rfl, hb.trans m2⟩
  · have er := e1 hbad
    subst er
    clear e0 e1
    refine (tell_yes w.heap.size _ _ _ _ _ _ _ _ n bad (by omega) b6 _ m1).mono ?_
    rintro e w' ⟨rfl, rfl⟩
    go_wp2_with fail
    go_ret3
    exact ⟨rfl, hb.trans m2⟩
def CastNo (w : World) (e : Ending) (w' : World) : Prop := e = .returned (.tuple #[.int .i64 0, .int .i64 1]) ∧ Below w.heap.size w w'
def CastYes (n : Int) (w : World) (e : Ending) (w' : World) : Prop := e = .returned (.tuple #[.int .i64 n, .int .i64 0]) ∧ Below w.heap.size w w'
end Go.Proofs.YtblahbmhbfcggaaGreatDoor.Al
