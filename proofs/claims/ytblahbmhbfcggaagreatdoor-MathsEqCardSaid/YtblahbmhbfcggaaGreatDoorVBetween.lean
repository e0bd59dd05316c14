/- How many bits are 1: at most 60 of a number below 2 to the power of 32, which is all that is asked. -/
import Derived.Test.YtblahbmhbfcggaaGreatDoorVNum
import Derived.Test.YtblahbmhbfcggaaGreatDoorVQuiet
import Derived.Test.YtblahbmhbfcggaaGreatDoorVSync
namespace Go.Proofs.YtblahbmhbfcggaaGreatDoor
open Go.ChangeShapes Go.WideShapes Go.ChangeAt Go.RowKit Go.Joins Go.Deep
set_option linter.unusedVariables false

theorem wrapu_nat {m : Nat} (h : m < 2 ^ 63) : IntKind.u64.wrap (m : Int) = m := by rw [IntKind.wrap_u64]; omega
theorem toNat_small3 {x : Nat} (h : x < 2 ^ 63) : (BitVec.ofNat 64 x).toNat = x := by
  rw [BitVec.toNat_ofNat]; exact Nat.mod_eq_of_lt (by omega)
theorem bitsu_and {x y : Nat} (hx : x < 2 ^ 63) (hy : y < 2 ^ 63) : bits .and .u64 (x : Int) (y : Int) = ((x &&& y : Nat) : Int) := by
  show IntKind.u64.wrap ((BitVec.ofInt 64 (x : Int) &&& BitVec.ofInt 64 (y : Int)).toNat : Int) = _
  rw [ofInt_nat, ofInt_nat, BitVec.toNat_and, toNat_small3 hx, toNat_small3 hy]
  exact wrapu_nat (lt_of_and hx)
/-- each byte of what is left by the mask is at most 15 -/
theorem and_small {x m M : Nat} (hx : x < 2 ^ 32) (hm : m % 2 ^ 32 = M) : x &&& m ≤ M := by
  have e : (x &&& m) % 2 ^ 32 = (x % 2 ^ 32) &&& (m % 2 ^ 32) := Nat.and_mod_two_pow
  have h : x &&& m < 2 ^ 32 := lt_of_and hx
  rw [Nat.mod_eq_of_lt h, hm] at e
  rw [e]
  exact Nat.and_le_right
theorem nibbles {y : Nat} (hy : y < 2 ^ 32) : ∃ c0 c1 c2 c3 c4 : Nat, c0 ≤ 15 ∧ c1 ≤ 15 ∧ c2 ≤ 15 ∧ c3 ≤ 15 ∧ c4 = 0 ∧ y &&& 1085102592571150095 = c0 + 256 * c1 + 65536 * c2 + 16777216 * c3 + 4294967296 * c4 := by
  obtain ⟨z, hz⟩ : ∃ z, z = y &&& 1085102592571150095 := ⟨_, rfl⟩
  have hlt : z < 2 ^ 32 := by rw [hz]; exact lt_of_and hy
  have part : ∀ s, (z >>> s) % 256 = (y >>> s % 256) &&& (1085102592571150095 >>> s % 256) := fun s => by
    rw [hz, Nat.shiftRight_and_distrib]
    have e : ∀ a b : Nat, (a &&& b) % 256 = (a % 256) &&& (b % 256) := fun a b => Nat.and_mod_two_pow (n := 8)
    exact e _ _
  have p0 := part 0
  have p1 := part 8
  have p2 := part 16
  have p3 := part 24
  have m15 : ∀ a : Nat, a &&& 15 ≤ 15 := fun a => Nat.and_le_right
  have q0 : z % 256 ≤ 15 := by
    have : z % 256 = (y >>> 0 % 256) &&& 15 := by simpa using p0
    rw [this]; exact m15 _
  have q1 : z / 256 % 256 ≤ 15 := by
    have : z / 256 % 256 = (y >>> 8 % 256) &&& 15 := by simpa [Nat.shiftRight_eq_div_pow] using p1
    rw [this]; exact m15 _
  have q2 : z / 65536 % 256 ≤ 15 := by
    have : z / 65536 % 256 = (y >>> 16 % 256) &&& 15 := by simpa [Nat.shiftRight_eq_div_pow] using p2
    rw [this]; exact m15 _
  have q3 : z / 16777216 % 256 ≤ 15 := by
    have : z / 16777216 % 256 = (y >>> 24 % 256) &&& 15 := by simpa [Nat.shiftRight_eq_div_pow] using p3
    rw [this]; exact m15 _
  refine ⟨z % 256, z / 256 % 256, z / 65536 % 256, z / 16777216 % 256, z / 4294967296, q0, q1, q2, q3, by omega, ?_⟩
  rw [← hz]
  omega
theorem sum_le {c0 c1 c2 c3 c4 : Nat} (h0 : c0 ≤ 15) (h1 : c1 ≤ 15) (h2 : c2 ≤ 15) (h3 : c3 ≤ 15) (h4 : c4 = 0) {x d e f : Nat} (hx : x = c0 + 256 * c1 + 65536 * c2 + 16777216 * c3 + 4294967296 * c4) (hd : d = x + x / 256) (he : e = d + d / 65536) (hf : f = e + e / 4294967296) : f % 128 ≤ 60 ∧ d < 2 ^ 36 ∧ e < 2 ^ 37 ∧ f < 2 ^ 38 := by
  have hd2 : d = (c0 + c1) + 256 * (c1 + c2) + 65536 * (c2 + c3) + 16777216 * (c3 + c4) + 4294967296 * c4 := by omega
  have he2 : e = (c0 + c1 + c2 + c3) + 256 * (c1 + c2 + c3 + c4) + 65536 * (c2 + c3 + c4) + 16777216 * (c3 + c4) + 4294967296 * c4 := by omega
  have hf2 : f = (c0 + c1 + c2 + c3 + c4) + 256 * (c1 + c2 + c3 + c4) + 65536 * (c2 + c3 + c4) + 16777216 * (c3 + c4) + 4294967296 * c4 := by omega
  refine ⟨?_, by omega, by omega, by omega⟩
  have hq : f = (c0 + c1 + c2 + c3 + c4) + 128 * (2 * (c1 + c2 + c3 + c4) + 512 * (c2 + c3 + c4) + 131072 * (c3 + c4) + 33554432 * c4) := by omega
  rw [hq, Nat.add_mul_mod_self_left, Nat.mod_eq_of_lt (by omega)]
  omega
def OnesPost (w : World) (e : Ending) (w' : World) : Prop := ∃ c : Nat, c ≤ 60 ∧ e = .returned (.int .i64 c) ∧ w = w'
set_option maxRecDepth 100000 in
set_option maxHeartbeats 1600000 in
theorem ones64_w (x a1 a2 b1 b2 c r : Nat) (hx : x < 4294967296) (l1 : a1 < 4294967296) (l2 : a2 < 4294967296) (l3 : b1 < 4294967296) (l4 : b2 < 8589934592) (lc : c < 17179869184)
    (s1 : bits .and .u64 ((x : Int) / 2) 6148914691236517205 = (a1 : Nat)) (s2 : bits .and .u64 (x : Int) 6148914691236517205 = (a2 : Nat))
    (s3 : bits .and .u64 (((a1 : Int) + a2) / 4) 3689348814741910323 = (b1 : Nat)) (s4 : bits .and .u64 ((a1 : Int) + a2) 3689348814741910323 = (b2 : Nat))
    (s5 : bits .and .u64 (((b1 : Int) + b2) / 16 + (b1 + b2)) 1085102592571150095 = (c : Nat))
    (s6 : bits .and .i64 ((c : Int) + (c : Int) / 256 + ((c : Int) + (c : Int) / 256) / 65536 + ((c : Int) + (c : Int) / 256 + ((c : Int) + (c : Int) / 256) / 65536) / 4294967296) 127 = (r : Nat)) (w : World) :
    Calls Tryz.prog 204 #[.int .u64 x] w fun e w' => e = .returned (.int .i64 r) ∧ w = w' := by
  go_enter Tryz.func204, Tryz.ntmps204
  go_wp2
  go_ret
  exact ⟨rfl, rfl⟩
set_option maxRecDepth 100000 in
theorem ones64_any (x : Nat) (hx : x < 4294967296) (w : World) : Calls Tryz.prog 204 #[.int .u64 x] w (OnesPost w) := by
  have s1 : bits .and .u64 ((x / 2 : Nat) : Int) (6148914691236517205 : Int) = ((x / 2 &&& 6148914691236517205 : Nat) : Int) := bitsu_and (x := x / 2) (y := 6148914691236517205) (by omega) (by decide)
  have s2 : bits .and .u64 (x : Int) (6148914691236517205 : Int) = ((x &&& 6148914691236517205 : Nat) : Int) := bitsu_and (x := x) (y := 6148914691236517205) (by omega) (by decide)
  have l1 : x / 2 &&& 6148914691236517205 ≤ 1431655765 := and_small (by omega) (by decide)
  have l2 : x &&& 6148914691236517205 ≤ 1431655765 := and_small (by omega) (by decide)
  obtain ⟨a1, ha1⟩ : ∃ a, a = x / 2 &&& 6148914691236517205 := ⟨_, rfl⟩
  obtain ⟨a2, ha2⟩ : ∃ a, a = x &&& 6148914691236517205 := ⟨_, rfl⟩
  rw [← ha1] at s1 l1
  rw [← ha2] at s2 l2
  clear ha1 ha2
  obtain ⟨a, ha⟩ : ∃ a, a = a1 + a2 := ⟨_, rfl⟩
  have s3 : bits .and .u64 ((a / 4 : Nat) : Int) (3689348814741910323 : Int) = ((a / 4 &&& 3689348814741910323 : Nat) : Int) := bitsu_and (x := a / 4) (y := 3689348814741910323) (by omega) (by decide)
  have s4 : bits .and .u64 (a : Int) (3689348814741910323 : Int) = ((a &&& 3689348814741910323 : Nat) : Int) := bitsu_and (x := a) (y := 3689348814741910323) (by omega) (by decide)
  have l3 : a / 4 &&& 3689348814741910323 ≤ 858993459 := and_small (by omega) (by decide)
  have l4 : a &&& 3689348814741910323 ≤ 858993459 := and_small (by omega) (by decide)
  obtain ⟨b1, hb1⟩ : ∃ b, b = a / 4 &&& 3689348814741910323 := ⟨_, rfl⟩
  obtain ⟨b2, hb2⟩ : ∃ b, b = a &&& 3689348814741910323 := ⟨_, rfl⟩
  rw [← hb1] at s3 l3
  rw [← hb2] at s4 l4
  clear hb1 hb2
  obtain ⟨b, hb⟩ : ∃ b, b = b1 + b2 := ⟨_, rfl⟩
  obtain ⟨y, hy⟩ : ∃ y, y = b / 16 + b := ⟨_, rfl⟩
  have hy34 : y < 2 ^ 32 := by omega
  have s5 : bits .and .u64 (y : Int) (1085102592571150095 : Int) = ((y &&& 1085102592571150095 : Nat) : Int) := bitsu_and (x := y) (y := 1085102592571150095) (by omega) (by decide)
  obtain ⟨c0, c1, c2, c3, c4, h0, h1, h2, h3, h4, hc⟩ := nibbles hy34
  obtain ⟨c, hcc⟩ : ∃ c, c = y &&& 1085102592571150095 := ⟨_, rfl⟩
  rw [← hcc] at s5 hc
  clear hcc
  obtain ⟨d, hd⟩ : ∃ d, d = c + c / 256 := ⟨_, rfl⟩
  obtain ⟨e, he⟩ : ∃ e, e = d + d / 65536 := ⟨_, rfl⟩
  obtain ⟨f, hf⟩ : ∃ f, f = e + e / 4294967296 := ⟨_, rfl⟩
  obtain ⟨hle, ld, le, lf⟩ := sum_le h0 h1 h2 h3 h4 hc hd he hf
  have lc : c < 2 ^ 34 := by omega
  have v9 : bits .and .i64 (f : Int) 127 = ((f % 128 : Nat) : Int) := by
    have := and_mask (f : Int) 7 (by decide)
    rw [show ((f % 128 : Nat) : Int) = (f : Int) % 128 by omega]
    exact this
  refine (ones64_w x a1 a2 b1 b2 c (f % 128) hx (by omega) (by omega) (by omega) (by omega) (by omega) ?_ s2 ?_ ?_ ?_ ?_ w).mono fun e w' ⟨h1, h2⟩ => ⟨_, hle, h1, h2⟩
  · rw [show (x : Int) / 2 = ((x / 2 : Nat) : Int) by omega]; exact s1
  · rw [show ((a1 : Int) + a2) / 4 = ((a / 4 : Nat) : Int) by omega]; exact s3
  · rw [show (a1 : Int) + a2 = (a : Int) by omega]; exact s4
  · rw [show ((b1 : Int) + b2) / 16 + (b1 + b2) = (y : Int) by omega]; exact s5
  · rw [show (c : Int) + (c : Int) / 256 + ((c : Int) + (c : Int) / 256) / 65536 + ((c : Int) + (c : Int) / 256 + ((c : Int) + (c : Int) / 256) / 65536) / 4294967296 = (f : Int) by omega]; exact v9
theorem ones_any (x : Nat) (hx : x < 4294967296) (w : World) : Calls Tryz.prog 188 #[.int .u64 x] w (OnesPost w) := by
  go_enter Tryz.func188, Tryz.ntmps188
  go_wp2_with ((go_at_call 204; refine (ones64_any x hx _).mono ?_; rintro e w' ⟨c, hc, rfl, rfl⟩))
  go_ret
  exact ⟨c, hc, rfl, rfl⟩
end Go.Proofs.YtblahbmhbfcggaaGreatDoor

/- Package val: between: how many lie between two, at least 0, which is all that is asked. -/
namespace Go.Proofs.YtblahbmhbfcggaaGreatDoor
open Go.ChangeShapes Go.WideShapes Go.ChangeAt Go.RowKit Go.Joins Go.Deep
set_option linter.unusedVariables false

theorem cmpr_lt2 (f n : Nat) : cmpr f n < 4294967296 := cmpF_lt 32 f n
def GapPost (w : World) (e : Ending) (w' : World) : Prop := ∃ g : Int, 0 ≤ g ∧ g ≤ 1152921504606846976 ∧ e = .returned (.int .i64 g) ∧ Below w.heap.size w w'
theorem mask_mod {c : Nat} (hc : c ≤ 60) (n : Int) : bits .and .i64 n (((2 ^ c : Nat) : Int) - 1) = n % ((2 ^ c : Nat) : Int) := by
  have := and_mask n c (by omega)
  have e : ((2 ^ c : Nat) : Int) = (2 : Int) ^ c := by simp
  rw [e]; exact this
theorem shl60 {c : Nat} (hc : c ≤ 60) : ∃ A : Nat, wrap64 (2 ^ c) = (A : Int) ∧ 0 < A ∧ A < 1152921504606846977 ∧ ∀ n : Int, bits .and .i64 n ((A : Int) - 1) = n % A := by
  have h1 : 2 ^ c ≤ 2 ^ 60 := Nat.pow_le_pow_right (by decide) hc
  have h2 : 0 < 2 ^ c := Nat.two_pow_pos c
  refine ⟨2 ^ c, ?_, h2, by omega, mask_mod hc⟩
  have e : (2 : Int) ^ c = ((2 ^ c : Nat) : Int) := by simp
  rw [e]
  generalize 2 ^ c = a at *
  unfold wrap64
  omega
set_option maxRecDepth 100000 in
set_option maxHeartbeats 1600000 in
theorem between_w (k f b x y RX RY : Nat) (hf3 : f < 4294967296)
    (hX : RX < 4294967296) (hY : RY < 4294967296)
    (cX : ∀ w, Calls Tryz.prog 185 #[patV k f b, .int .i64 x] w fun e w' => e = .returned (.int .i64 RX) ∧ Below w.heap.size w w')
    (cY : ∀ w, Calls Tryz.prog 185 #[patV k f b, .int .i64 y] w fun e w' => e = .returned (.int .i64 RY) ∧ Below w.heap.size w w') (w : World) :
    Calls Tryz.prog 162 #[patV k f b, .int .i64 x, .int .i64 y] w (GapPost w) := by
  have d0 := At.new w #[.int .i64 k, .int .i64 f, .int .i64 b] 152
  have hb0 : Below w.heap.size w (w.alloc (.cells #[.int .i64 k, .int .i64 f, .int .i64 b] 152)) := (Below.refl _ _).alloc (Nat.le_refl _) _
  have c0 : (w.alloc (.cells #[.int .i64 k, .int .i64 f, .int .i64 b] 152)).cell? ⟨w.heap.size, 0, none⟩ = some (.int .i64 k) := d0.cell 0 rfl
  have c1 : (w.alloc (.cells #[.int .i64 k, .int .i64 f, .int .i64 b] 152)).cell? ⟨w.heap.size, 1, none⟩ = some (.int .i64 f) := d0.cell 1 rfl
  have c2 : (w.alloc (.cells #[.int .i64 k, .int .i64 f, .int .i64 b] 152)).cell? ⟨w.heap.size, 2, none⟩ = some (.int .i64 b) := d0.cell 2 rfl
  have eu : IntKind.u64.wrap (f : Int) = (f : Int) := by rw [IntKind.wrap_u64]; omega
  go_enter Tryz.func162, Tryz.ntmps162
  go_wp2_with ((go_at_call 188; refine (ones_any f hf3 _).mono ?_; rintro e w' ⟨c, hc, rfl, rfl⟩))
  obtain ⟨A, eA, hA0, hA, eB⟩ := shl60 hc
  rw [eA]
  generalize w.alloc (.cells #[.int .i64 k, .int .i64 f, .int .i64 b] 152) = w1 at *
  have q0 := fun p : BelowBy w1 => p.cell c0
  have q1 := fun p : BelowBy w1 => p.cell c1
  have q2 := fun p : BelowBy w1 => p.cell c2
  have iw1 : IntKind.i64.wrap ((RY : Int) - (RX : Int)) = (RY : Int) - RX := by rw [IntKind.wrap_i64]; omega
  have iw2 : IntKind.i64.wrap ((RY : Int) - (RX : Int) - 1) = (RY : Int) - RX - 1 := by rw [IntKind.wrap_i64]; omega
  have iw3 : IntKind.i64.wrap ((A : Int) - 1) = (A : Int) - 1 := by rw [IntKind.wrap_i64]; omega
  have eC := eB ((RY : Int) - RX - 1)
  obtain ⟨r, hr⟩ : ∃ r, r = ((RY : Int) - RX - 1) % A := ⟨_, rfl⟩
  have hr0 : 0 ≤ r := by rw [hr]; exact Int.emod_nonneg _ (by omega)
  have hr1 : r < A := by rw [hr]; exact Int.emod_lt_of_pos _ (by omega)
  rw [← hr] at eC
  clear c0 c1 c2 d0 hr eB eu eA
  refine wp_region_quiet_below (by kernel_rfl) (by kernel_rfl) ?_
  repeat (go_big_quiet_step ((go_at_call 185; (first | (with_reducible exact Calls.below_of (cX _)) | (with_reducible exact Calls.below_of (cY _))))))
  refine wpQuiet_nil ?_
  intro _ hw'
  obtain ⟨⟨w2, hb2⟩, hw''⟩ := hw'
  subst hw''
  go_wp2_with fail
  go_ret
  exact ⟨r, hr0, by omega, rfl, hb0.trans (hb2.mono hb0.size)⟩
theorem between_any (k f b x y : Nat) (hk : k ≤ 32) (hf : f < 2 ^ k) (hx : x < 2 ^ 32) (hy : y < 2 ^ 32) (w : World) :
    Calls Tryz.prog 162 #[patV k f b, .int .i64 x, .int .i64 y] w (GapPost w) := by
  have hp : (2 : Nat) ^ k ≤ 2 ^ 32 := Nat.pow_le_pow_right (by decide) hk
  exact between_w k f b x y (cmpr f x) (cmpr f y) (by omega) (cmpr_lt2 f x) (cmpr_lt2 f y) (fun w => rank_any k f b x hk hf hx w) (fun w => rank_any k f b y hk hf hy w) w
end Go.Proofs.YtblahbmhbfcggaaGreatDoor
