/- Words in memory held against each other; the page's example. -/
import Derived.Test.YtkpiaenpjnajiaaGreatDoorLRWords
import Derived.Test.YtkpiaenpjnajiaaGreatDoorLNum
import Derived.Test.YtkpiaenpjnajiaaGreatDoorLKind
namespace Go.Proofs.YtkpiaenpjnajiaaGreatDoor
open Go.ChangeShapes Go.WideShapes Go.ChangeAt Go.RowKit Go.Joins Go.Deep
set_option linter.unusedVariables false

def tk0 : List UInt8 × Nat := ([], 0)
/-- words in memory, as they are read -/
def IsToks (w : World) (fd : Value) (T : List (List UInt8 × Nat)) : Prop :=
  ∃ q cap, fd = .slice q T.length cap ∧ T.length ≤ 1000000 ∧ (0 < T.length → ∃ g, q = some ⟨g, 0, none⟩ ∧ g < w.heap.size ∧ T.length ≤ cap ∧ ∀ i, i < T.length → w.cell? ⟨g, i * 2, none⟩ = some (.string ⟨(T.getD i tk0).1.toArray⟩) ∧ w.cell? ⟨g, i * 2 + 1, none⟩ = some (.int .i64 ((T.getD i tk0).2 : Nat)))
theorem tokCells_get (T : List (List UInt8 × Nat)) (i : Nat) (h : i < T.length) : (T.flatMap tokC)[i * 2]? = some (.string ⟨(T.getD i tk0).1.toArray⟩) ∧ (T.flatMap tokC)[i * 2 + 1]? = some (.int .i64 ((T.getD i tk0).2 : Nat)) := by
  induction T generalizing i with
  | nil => exact absurd h (by simp)
  | cons x r ih =>
    cases i with
    | zero => exact ⟨rfl, rfl⟩
    | succ i =>
      have := ih i (by simpa using h)
      rw [show (i + 1) * 2 = i * 2 + 1 + 1 by omega]
      exact this
theorem RowT.toks {base : Nat} {T : List (List UInt8 × Nat)} {fd : Value} {w : World} (h : RowT base T fd w) (hl : T.length ≤ 1000000) : IsToks w fd T := by
  obtain ⟨hlen, ⟨rfl, h0⟩ | ⟨g, cap, cur, rfl, hbb, hg, hn, hm, hc, hx⟩⟩ := h
  · exact ⟨none, 0, by rw [h0], hl, fun hp => by omega⟩
  · refine ⟨_, cap, rfl, hl, fun hp => ⟨g, rfl, ?_, hn, fun i hi => ?_⟩⟩
    · rcases Nat.lt_or_ge g w.heap.size with h' | h'
      · exact h'
      · rw [Array.getElem?_eq_none h'] at hg; cases hg
    · obtain ⟨c1, c2⟩ := tokCells_get T i hi
      rw [← hx, List.getElem?_take] at c1 c2
      rw [if_pos (by omega)] at c1 c2
      rw [cell_of_block hg, cell_of_block hg]
      exact ⟨by simpa using c1, by simpa using c2⟩
theorem IsToks.below {w w' : World} {fd : Value} {T : List (List UInt8 × Nat)} (h : IsToks w fd T) (hb : Below w.heap.size w w') : IsToks w' fd T := by
  obtain ⟨q, cap, rfl, hl, hc⟩ := h
  refine ⟨q, cap, rfl, hl, fun hp => ?_⟩
  obtain ⟨g, rfl, hg, hcap, hcell⟩ := hc hp
  exact ⟨g, rfl, by have := hb.size; omega, hcap, fun i hi => ⟨cell_below (hcell i hi).1 hb, cell_below (hcell i hi).2 hb⟩⟩
theorem under_tok : Tryz.prog.underlying 41 = some (.struct (Tryz.prog.fieldsOf 41)) := by kernel_rfl
theorem held_tok : Tryz.prog.stoodInHeld 41 = false := by kernel_rfl
theorem neq_tok (s : ByteArray) (n : Int) (w : World) :
    (binOp .neq 41 (.agg #[.string s, .int .i64 n]) (.agg #[.string s, .int .i64 n])).run Tryz.prog w = .ok (.bool false) w := by
  rw [run_neq_struct, run_equalIn_agg w 9999 41 _ _ under_tok held_tok]
  simp [Program.fieldsOf, Tryz.underlying41, go_sem]
theorem scan_count : ∀ (f : Nat) (p : Bool) (l : List UInt8) (a : Nat), (scan f p l a).1.length ≤ f := by
  intro f
  induction f with
  | zero => intro p l a; simp [scan]
  | succ f ih =>
    intro p l a
    unfold scan
    split
    · simp
    · simp only [List.length_cons]
      exact Nat.succ_le_succ (ih _ _ _)
theorem tellW_len (l : List UInt8) : (tellW l).1.length ≤ 2001 := by
  unfold tellW
  split
  · simp
  · split
    · simp
    · have := scan_count (l.length + 1) false l 0
      show (scan (l.length + 1) false l 0).1.length ≤ 2001
      omega
set_option maxRecDepth 100000 in
set_option maxHeartbeats 800000 in
theorem eqToks_same (fd fd2 : Value) (T : List (List UInt8 × Nat)) (w : World) (h : IsToks w fd T) (h2 : IsToks w fd2 T) :
    Calls Tryz.prog 12 #[fd, fd2] w fun e w' => e = .returned (.bool true) ∧ Below w.heap.size w w' := by
  obtain ⟨q, cap, rfl, hl, hc⟩ := h
  obtain ⟨q2, cap2, rfl, _, hc2⟩ := h2
  obtain ⟨n, hn⟩ : ∃ n, n = T.length := ⟨_, rfl⟩
  rw [← hn] at hc hc2 hl ⊢
  have HN := Lib.hid hn
  clear hn
  go_enter Tryz.func12, Tryz.ntmps12
  go_wp2
  go_loopw [5] (fun v wr => ∃ i : Nat, i ≤ n ∧ v = .int .i64 (i : Nat) ∧ Below w.heap.size w wr) (fun v _ => n - (intOf v).toNat)
  case atStart => exact ⟨0, Nat.zero_le _, rfl, Below.refl _ _⟩
  case round =>
    obtain ⟨i, hi, rfl, hbr⟩ := hrel
    by_cases hlt : i < n
    · obtain ⟨g, rfl, hg, hcap, hcell⟩ := hc (by omega)
      obtain ⟨g2, rfl, hg2, hcap2, hcell2⟩ := hc2 (by omega)
      have c1 := cell_below (hcell i hlt).1 hbr
      have c2 := cell_below (hcell i hlt).2 hbr
      have d1 := cell_below (hcell2 i hlt).1 hbr
      have d2 := cell_below (hcell2 i hlt).2 hbr
      have hj3 : (i : Int) < (n : Int) := by omega
      generalize (⟨(T.getD i tk0).1.toArray⟩ : ByteArray) = x at *
      generalize (T.getD i tk0).2 = y at *
      have cE := fun w => neq_tok x (y : Nat) w
      clear hcell hcell2 hc hc2
      go_wp2
      go_quiet (fail)
      go_wp2
      go_roundw
      case rel => exact ⟨i + 1, by omega, by go_num, hbr.trans (Joins.below_draws _ _ _)⟩
      case measure => simp [intOf]; omega
    · obtain rfl : i = n := by omega
      clear hc hc2
      go_wp2
      go_ret
      exact ⟨rfl, hbr⟩
theorem ex_tell : tellW [97, 60, 60, 51] = ([([97], 0), ([60, 60], 1), ([51], 3)], 0, 0) := by decide +kernel
theorem ex_num : numB [51, 48] = true ∧ numV [51, 48] = 30 := by decide +kernel
set_option maxRecDepth 100000 in
set_option maxHeartbeats 800000 in
theorem wakes_any (w : World) : Calls Tryz.prog 15 #[] w fun e w' => e = .returned (.bool true) ∧ Below w.heap.size w w' := by
  have cW := fun w => words_any ⟨#[97, 60, 60, 51]⟩ (by decide) w
  have cN := fun w => number_any ⟨#[51, 48]⟩ (by decide) w
  have cM := fun n w => num_any n w
  have e1 : (ByteArray.mk #[97, 60, 60, 51]).data.toList = [97, 60, 60, 51] := rfl
  have e2 : (ByteArray.mk #[51, 48]).data.toList = [51, 48] := rfl
  unfold WordsPost at cW
  unfold NumPost at cN
  rw [e1, ex_tell] at cW
  rw [e2, ex_num.1, ex_num.2] at cN
  clear e1 e2
  dsimp only at cW cN
  go_enter Tryz.func15, Tryz.ntmps15
  go_wp2_with fail
  refine (cW _).mono ?_
  rintro e w1 ⟨fd, rfl, hR, hb1⟩
  obtain ⟨q, cap, rfl, _, hc⟩ := hR.toks (by decide)
  obtain ⟨g, rfl, hg, hcap, hcell⟩ := hc (by decide)
  have c2 := (hcell 1 (by decide)).1
  change w1.cell? ⟨g, 2, none⟩ = some (.string ⟨#[60, 60]⟩) at c2
  have hcap3 : 3 ≤ cap := hcap
  clear hcell hc cW hR hcap
  go_wp2_with fail
  refine (cN _).mono ?_
  rintro e w2 ⟨rfl, hb2⟩
  have d2 := cell_below c2 hb2
  clear c2 cN
  go_wp2_with (go_at_call 11; (with_reducible refine (cM _ _).mono ?_); rintro e w' ⟨rfl, rfl⟩)
  go_ret
  exact ⟨rfl, hb1.trans (hb2.mono hb1.size)⟩
end Go.Proofs.YtkpiaenpjnajiaaGreatDoor
