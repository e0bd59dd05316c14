/- WordBack. -/
import Derived.Test.YtlefbaekloinhaaAsk
import Derived.Deep.QuietTactic
import Derived.BigQuiet
namespace Go.Proofs.Ytlefbaekloinhaa
open Go.ChangeShapes Go.WideShapes Go.ChangeAt Go.RowKit Go.Joins

def HeavyPost (w : World) (n s a : Value) (e : Ending) (w' : World) : Prop := ∃ b : Bool, e = .returned (.bool b) ∧ w.alloc (.cells #[n, s, a] 26) = w'

set_option maxHeartbeats 400000 in
theorem heavy_any (pn : Option Addr) (ln cn : Nat) (ps : Option Addr) (ls cs : Nat) (ss : List ByteArray) (pa : Option Addr) (la ca : Nat) (w : World) (h : IsStrs w ps ls ss) (h1 : ln ≤ maxLen) (h2 : la ≤ maxLen) :
    Calls Try.prog 5 #[.agg #[.slice pn ln cn, .slice ps ls cs, .slice pa la ca]] w (HeavyPost w (.slice pn ln cn) (.slice ps ls cs) (.slice pa la ca)) := by
  have hs := h.below (below_alloc1 w (.cells #[.slice pn ln cn, .slice ps ls cs, .slice pa la ca] 26))
  unfold maxLen at h1 h2
  by_cases hg : (100 : Int) < wrap64 (↑ln + ↑la)
  · go_enter Try.func5, Try.ntmps5
    go_wp2
    go_ret
    exact ⟨_, rfl, rfl⟩
  · have hd : decide ((100 : Int) < wrap64 (↑ln + ↑la)) = false := by simpa using hg
    go_enter Try.func5, Try.ntmps5
    go_wp2_with (go_at_call 22; refine (texts_any _ _ _ ss _ hs).mono ?_; rintro e w' ⟨n, rfl, rfl⟩)
    go_ret
    exact ⟨_, rfl, rfl⟩

/-- what is asked of a number of a script at a width -/
structure Right (N w : Int) (lo hi m : Int) : Prop where
  a : 0 ≤ wrapI N w
  b : wrapI N w < 2 ^ w.toNat
  c : (wrapI (viewI (wrapI N w) w) w != wrapI N w) = false
  d : lo ≤ viewI (wrapI N w) w
  e : viewI (wrapI N w) w < hi
  f : -9223372036854775808 ≤ N - wrapI N w
  g : N - wrapI N w ≤ 9223372036854775807
  h : ((N - wrapI N w).tmod m != 0) = false

theorem right_8 (N : Int) (h : -9223372036854775808 ≤ N) (h' : N ≤ 9223372036854775807) : Right N 8 (-128) 128 256 := by
  refine ⟨?_, ?_, ?_, ?_, ?_, ?_, ?_, ?_⟩
  all_goals simp only [wrapI_8, viewI_8, Int.reduceToNat, Int.reducePow]
  all_goals first | omega | (split <;> omega) | skip
  · simp; split <;> omega
  · simp; rw [show N - N % 256 = 256 * (N / 256) by omega]; simp
theorem right_16 (N : Int) (h : -9223372036854775808 ≤ N) (h' : N ≤ 9223372036854775807) : Right N 16 (-32768) 32768 65536 := by
  refine ⟨?_, ?_, ?_, ?_, ?_, ?_, ?_, ?_⟩
  all_goals simp only [wrapI_16, viewI_16, Int.reduceToNat, Int.reducePow]
  all_goals first | omega | (split <;> omega) | skip
  · simp; split <;> omega
  · simp; rw [show N - N % 65536 = 65536 * (N / 65536) by omega]; simp
theorem right_32 (N : Int) (h : -9223372036854775808 ≤ N) (h' : N ≤ 9223372036854775807) : Right N 32 (-2147483648) 2147483648 4294967296 := by
  refine ⟨?_, ?_, ?_, ?_, ?_, ?_, ?_, ?_⟩
  all_goals simp only [wrapI_32, viewI_32, Int.reduceToNat, Int.reducePow]
  all_goals first | omega | (split <;> omega) | skip
  · simp; split <;> omega
  · simp; rw [show N - N % 4294967296 = 4294967296 * (N / 4294967296) by omega]; simp

def RelIn (wo : World) (i : Value) (wi : World) : Prop := ∃ j : Int, 0 ≤ j ∧ j ≤ 3 ∧ i = .int .i64 j ∧ Below wo.heap.size wo wi
def RelOut (W : World) (ln : Nat) (i : Value) (wi : World) : Prop := ∃ k : Nat, k ≤ 30 ∧ k ≤ ln ∧ i = .int .i64 k ∧ Below W.heap.size W wi

theorem wf_of_mem {zs : List Int} (h : ∀ n ∈ zs, (Lit.int .i64 n).wf = true) (k : Nat) : -9223372036854775808 ≤ zs.getD k 0 ∧ zs.getD k 0 ≤ 9223372036854775807 := by
  by_cases hk : k < zs.length
  · have := h (zs.getD k 0) (by rw [List.getD_eq_getElem?_getD, List.getElem?_eq_getElem hk]; simp)
    simpa [Lit.wf, IntKind.min, IntKind.max, IntKind.signed, IntKind.bits] using this
  · rw [List.getD_eq_getElem?_getD, List.getElem?_eq_none (by omega)]; simp

set_option maxHeartbeats 1000000 in
set_option maxRecDepth 100000 in
theorem back_any (pn : Option Addr) (ln cn : Nat) (zs : List Int) (ps : Option Addr) (ls cs : Nat) (ss : List ByteArray) (pa : Option Addr) (la ca : Nat) (w : World) (hn : IsInts w pn ln zs) (h : IsStrs w ps ls ss) (h2 : la ≤ maxLen) :
    Calls Try.prog 4 #[.agg #[.slice pn ln cn, .slice ps ls cs, .slice pa la ca]] w fun e w' => e = .returned (.bool true) ∧ Below w.heap.size w w' := by
  have hb1 := below_alloc1 w (.cells #[.slice pn ln cn, .slice ps ls cs, .slice pa la ca] 26)
  have hn1 := hn.below hb1
  have hs1 := h.below hb1
  have hln := hn.1
  unfold maxLen at hln
  go_enter Try.func4, Try.ntmps4
  go_wp2_with fail
  refine (heavy_any _ _ _ _ _ _ ss _ _ _ _ hs1 hn.1 h2).mono ?_
  rintro e w' ⟨b, rfl, rfl⟩
  cases b
  · go_wp2_with fail
    go_loopw [3] (fun i wr => RelOut (w.alloc (.cells #[.slice pn ln cn, .slice ps ls cs, .slice pa la ca] 26)) ln i wr)
      (fun i _ => 30 - (intOf i).toNat)
    case atStart => exact ⟨0, by omega, by omega, rfl, (Below.refl _ _).alloc (by simp) _⟩
    case round =>
      obtain ⟨k, hk, hk', rfl, hb⟩ := hrel
      simp only [World.size_alloc] at hb
      have hc0 : wr.cell? ⟨w.heap.size, 0, none⟩ = some (.slice pn ln cn) := (hb.cell (p := ⟨w.heap.size, 0, none⟩) (by simp)).trans (by simp)
      have hsz : w.heap.size + 1 ≤ wr.heap.size := by have := hb.size; simpa using this
      by_cases hlt : k < ln ∧ k < 30
      · obtain ⟨hlt1, hlt2⟩ := hlt
        obtain ⟨hzl, hwf⟩ := hn.2.1
        obtain ⟨b0, off, rfl, hbb, hcells⟩ := hn.2.2 (by omega)
        have hbn := wf_of_mem hwf k
        obtain ⟨N, hN⟩ : ∃ N, N = zs.getD k 0 := ⟨_, rfl⟩
        have hcN : wr.cell? ⟨b0, off + k, none⟩ = some (.int .i64 N) := by
          rw [hN]; exact ((hb.cell (p := ⟨b0, off + k, none⟩) (by simp; omega)).trans (World.cell?_alloc_lt _ _ _ hbb)).trans (hcells k hlt1)
        rw [← hN] at hbn
        clear hN hcells hwf hzl
        have r8 := right_8 N hbn.1 hbn.2
        have r16 := right_16 N hbn.1 hbn.2
        have r32 := right_32 N hbn.1 hbn.2
        have hlt3 : decide ((k : Int) < 30) = true := by simp; omega
        go_wp2_with fail
        obtain ⟨wo, rfl⟩ : ∃ wo : World, wo = wr := ⟨_, rfl⟩
        go_loopw [4] (fun i wi => RelIn wo i wi) (fun i _ => 3 - (intOf i).toNat)
        case atStart => exact ⟨0, by omega, by omega, rfl, Below.refl _ _⟩
        case round =>
          obtain ⟨j, hj0, hj, rfl, hbi⟩ := hrel
          have hc0i : wr.cell? ⟨w.heap.size, 0, none⟩ = some (.slice (some ⟨b0, off, none⟩) ln cn) := (hbi.cell (p := ⟨w.heap.size, 0, none⟩) (by simp; omega)).trans hc0
          have hcNi : wr.cell? ⟨b0, off + k, none⟩ = some (.int .i64 N) := (hbi.cell (p := ⟨b0, off + k, none⟩) (by simp; omega)).trans hcN
          have hszi : wo.heap.size ≤ wr.heap.size := hbi.size
          have hl1 : w.heap.size < wr.heap.size := by omega
          have hl2 : b0 < wr.heap.size := by omega
          clear hc0 hcN
          obtain rfl | rfl | rfl | rfl : j = 0 ∨ j = 1 ∨ j = 2 ∨ j = 3 := by omega
          · go_wp2_with fail
            refine (wrap_yes _ _ (by decide) _).mono ?_
            rintro e w' ⟨rfl, rfl⟩
            go_wp2_with fail
            refine (view_yes _ _ (by decide) r8.a r8.b _).mono ?_
            rintro e w' ⟨rfl, rfl⟩
            go_wp2_with fail
            refine (wrap_yes _ _ (by decide) _).mono ?_
            rintro e w' ⟨rfl, rfl⟩
            obtain ⟨_, _, qc, qd, qe, qf, qg, qh⟩ := r8
            go_wp2_with fail
            have qw : IntKind.i64.wrap (N - wrapI N 8) = N - wrapI N 8 := IntWalk.i64_in _ (by omega)
            have q1 : IntKind.i64.wrap 7 = 7 := by decide
            have q2 : IntKind.i64.wrap 128 = 128 := by decide
            have q3 : IntKind.i64.wrap (-128) = -128 := by decide
            have q4 : IntKind.i64.wrap 256 = 256 := by decide
            go_quiet ((go_at_call 10; exact Calls.quiet_of_same (num_back _ _)))
            go_wp2_with fail
            go_roundw
            case rel => exact ⟨_, by omega, by omega, rfl, hbi.trans (((Below.refl _ _).alloc hszi _).trans (Joins.below_draws _ _ _))⟩
            case measure => simp [intOf]
          · go_wp2_with fail
            refine (wrap_yes _ _ (by decide) _).mono ?_
            rintro e w' ⟨rfl, rfl⟩
            go_wp2_with fail
            refine (view_yes _ _ (by decide) r16.a r16.b _).mono ?_
            rintro e w' ⟨rfl, rfl⟩
            go_wp2_with fail
            refine (wrap_yes _ _ (by decide) _).mono ?_
            rintro e w' ⟨rfl, rfl⟩
            obtain ⟨_, _, qc, qd, qe, qf, qg, qh⟩ := r16
            go_wp2_with fail
            have qw : IntKind.i64.wrap (N - wrapI N 16) = N - wrapI N 16 := IntWalk.i64_in _ (by omega)
            have q1 : IntKind.i64.wrap 15 = 15 := by decide
            have q2 : IntKind.i64.wrap 32768 = 32768 := by decide
            have q3 : IntKind.i64.wrap (-32768) = -32768 := by decide
            have q4 : IntKind.i64.wrap 65536 = 65536 := by decide
            go_quiet ((go_at_call 10; exact Calls.quiet_of_same (num_back _ _)))
            go_wp2_with fail
            go_roundw
            case rel => exact ⟨_, by omega, by omega, rfl, hbi.trans (((Below.refl _ _).alloc hszi _).trans (Joins.below_draws _ _ _))⟩
            case measure => simp [intOf]
          · go_wp2_with fail
            refine (wrap_yes _ _ (by decide) _).mono ?_
            rintro e w' ⟨rfl, rfl⟩
            go_wp2_with fail
            refine (view_yes _ _ (by decide) r32.a r32.b _).mono ?_
            rintro e w' ⟨rfl, rfl⟩
            go_wp2_with fail
            refine (wrap_yes _ _ (by decide) _).mono ?_
            rintro e w' ⟨rfl, rfl⟩
            obtain ⟨_, _, qc, qd, qe, qf, qg, qh⟩ := r32
            go_wp2_with fail
            have qw : IntKind.i64.wrap (N - wrapI N 32) = N - wrapI N 32 := IntWalk.i64_in _ (by omega)
            have q1 : IntKind.i64.wrap 31 = 31 := by decide
            have q2 : IntKind.i64.wrap 2147483648 = 2147483648 := by decide
            have q3 : IntKind.i64.wrap (-2147483648) = -2147483648 := by decide
            have q4 : IntKind.i64.wrap 4294967296 = 4294967296 := by decide
            go_quiet ((go_at_call 10; exact Calls.quiet_of_same (num_back _ _)))
            go_wp2_with fail
            go_roundw
            case rel => exact ⟨_, by omega, by omega, rfl, hbi.trans (((Below.refl _ _).alloc hszi _).trans (Joins.below_draws _ _ _))⟩
            case measure => simp [intOf]
          · go_wp2_with fail
            go_roundw
            case rel => exact ⟨k + 1, by omega, by omega, by go_num, by simp only [World.size_alloc]; exact hb.trans (hbi.mono hsz)⟩
            case measure => simp [intOf]; omega
      · by_cases hk2 : k < ln
        · have hk3 : ¬ k < 30 := by omega
          go_wp2_with fail
          refine (wakes_any _).mono ?_
          rintro e w' ⟨rfl, rfl⟩
          go_wp2_with fail
          go_ret
          exact ⟨rfl, hb1.trans (hb.mono (by simp))⟩
        · go_wp2_with fail
          refine (wakes_any _).mono ?_
          rintro e w' ⟨rfl, rfl⟩
          go_wp2_with fail
          go_ret
          exact ⟨rfl, hb1.trans (hb.mono (by simp))⟩
  · go_wp2_with fail
    go_ret
    exact ⟨rfl, (hb1.trans ((Below.refl _ _).alloc (by simp) _))⟩

end Go.Proofs.Ytlefbaekloinhaa
