/- Package val: between: how many lie between two, at least 0, which is all that is asked. -/
import Derived.Test.YtgedkebinidmkaaVOnes
import Derived.Test.YtgedkebinidmkaaVQuiet
import Derived.Test.YtgedkebinidmkaaVRank
namespace Go.Proofs.Ytgedkebinidmkaa
open Go.ChangeShapes Go.WideShapes Go.ChangeAt Go.RowKit Go.Joins Go.Deep
set_option linter.unusedVariables false

theorem cmpr_lt2 (f n : Nat) : cmpr f n < 4294967296 := cmpF_lt 32 f n
def GapPost (w : World) (e : Ending) (w' : World) : Prop := ∃ g : Int, 0 ≤ g ∧ g ≤ 1152921504606846976 ∧ e = .returned (.int .i64 g) ∧ Below w.heap.size w w'
theorem mask_mod {c : Nat} (hc : c ≤ 60) (n : Int) : bits .and .i64 n (((2 ^ c : Nat) : Int) - 1) = n % ((2 ^ c : Nat) : Int) := by
  have := and_mask n c (by omega)
  have e : ((2 ^ c : Nat) : Int) = (2 : Int) ^ c := by simp
  rw [e]; exact this
theorem shl60 {c : Nat} (hc : c ≤ 60) : ∃ A : Nat, wrap64 (2 ^ c) = (A : Int) ∧ 0 < A ∧ A < 1152921504606846977 ∧ ∀ n : Int, bits .and .i64 n ((A : Int) - 1) = n % A := by
  have h1 : 2 ^ c ≤ 2 ^ 60 := Nat.pow_le_pow_right (by decide) hc
  have h2 : 0 < 2 ^ c := Nat.two_pow_pos c
  refine ⟨2 ^ c, ?_, h2, by omega, mask_mod hc⟩
  have e : (2 : Int) ^ c = ((2 ^ c : Nat) : Int) := by simp
  rw [e]
  generalize 2 ^ c = a at *
  unfold wrap64
  omega
set_option maxRecDepth 100000 in
set_option maxHeartbeats 1600000 in
theorem between_w (k f b x y RX RY : Nat) (hf3 : f < 4294967296)
    (hX : RX < 4294967296) (hY : RY < 4294967296)
    (cX : ∀ w, Calls Try.prog 50 #[patV k f b, .int .i64 x] w fun e w' => e = .returned (.int .i64 RX) ∧ Below w.heap.size w w')
    (cY : ∀ w, Calls Try.prog 50 #[patV k f b, .int .i64 y] w fun e w' => e = .returned (.int .i64 RY) ∧ Below w.heap.size w w') (w : World) :
    Calls Try.prog 43 #[patV k f b, .int .i64 x, .int .i64 y] w (GapPost w) := by
  have d0 := At.new w #[.int .i64 k, .int .i64 f, .int .i64 b] 77
  have hb0 : Below w.heap.size w (w.alloc (.cells #[.int .i64 k, .int .i64 f, .int .i64 b] 77)) := (Below.refl _ _).alloc (Nat.le_refl _) _
  have c0 : (w.alloc (.cells #[.int .i64 k, .int .i64 f, .int .i64 b] 77)).cell? ⟨w.heap.size, 0, none⟩ = some (.int .i64 k) := d0.cell 0 rfl
  have c1 : (w.alloc (.cells #[.int .i64 k, .int .i64 f, .int .i64 b] 77)).cell? ⟨w.heap.size, 1, none⟩ = some (.int .i64 f) := d0.cell 1 rfl
  have c2 : (w.alloc (.cells #[.int .i64 k, .int .i64 f, .int .i64 b] 77)).cell? ⟨w.heap.size, 2, none⟩ = some (.int .i64 b) := d0.cell 2 rfl
  have eu : IntKind.u64.wrap (f : Int) = (f : Int) := by rw [IntKind.wrap_u64]; omega
  go_enter Try.func43, Try.ntmps43
  go_wp2_with ((go_at_call 59; refine (ones_any f hf3 _).mono ?_; rintro e w' ⟨c, hc, rfl, rfl⟩))
  obtain ⟨A, eA, hA0, hA, eB⟩ := shl60 hc
  rw [eA]
  generalize w.alloc (.cells #[.int .i64 k, .int .i64 f, .int .i64 b] 77) = w1 at *
  have q0 := fun p : BelowBy w1 => p.cell c0
  have q1 := fun p : BelowBy w1 => p.cell c1
  have q2 := fun p : BelowBy w1 => p.cell c2
  have iw1 : IntKind.i64.wrap ((RY : Int) - (RX : Int)) = (RY : Int) - RX := by rw [IntKind.wrap_i64]; omega
  have iw2 : IntKind.i64.wrap ((RY : Int) - (RX : Int) - 1) = (RY : Int) - RX - 1 := by rw [IntKind.wrap_i64]; omega
  have iw3 : IntKind.i64.wrap ((A : Int) - 1) = (A : Int) - 1 := by rw [IntKind.wrap_i64]; omega
  have eC := eB ((RY : Int) - RX - 1)
  obtain ⟨r, hr⟩ : ∃ r, r = ((RY : Int) - RX - 1) % A := ⟨_, rfl⟩
  have hr0 : 0 ≤ r := by rw [hr]; exact Int.emod_nonneg _ (by omega)
  have hr1 : r < A := by rw [hr]; exact Int.emod_lt_of_pos _ (by omega)
  rw [← hr] at eC
  clear c0 c1 c2 d0 hr eB eu eA
  refine wp_region_quiet_below (by kernel_rfl) (by kernel_rfl) ?_
  repeat (go_big_quiet_step ((go_at_call 50; (first | (with_reducible exact Calls.below_of (cX _)) | (with_reducible exact Calls.below_of (cY _))))))
  refine wpQuiet_nil ?_
  intro _ hw'
  obtain ⟨⟨w2, hb2⟩, hw''⟩ := hw'
  subst hw''
  go_wp2_with fail
  go_ret
  exact ⟨r, hr0, by omega, rfl, hb0.trans (hb2.mono hb0.size)⟩
theorem between_any (k f b x y : Nat) (hk : k ≤ 32) (hf : f < 2 ^ k) (hx : x < 2 ^ 32) (hy : y < 2 ^ 32) (w : World) :
    Calls Try.prog 43 #[patV k f b, .int .i64 x, .int .i64 y] w (GapPost w) := by
  have hp : (2 : Nat) ^ k ≤ 2 ^ 32 := Nat.pow_le_pow_right (by decide) hk
  exact between_w k f b x y (cmpr f x) (cmpr f y) (by omega) (cmpr_lt2 f x) (cmpr_lt2 f y) (fun w => rank_any k f b x hk hf hx w) (fun w => rank_any k f b y hk hf hy w) w
end Go.Proofs.Ytgedkebinidmkaa
