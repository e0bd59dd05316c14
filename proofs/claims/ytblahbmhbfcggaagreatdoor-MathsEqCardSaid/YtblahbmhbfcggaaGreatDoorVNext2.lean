/- The document's own sets: the least member from a number on; a single one. -/
import Derived.Test.YtblahbmhbfcggaaGreatDoorVMay
import Derived.Test.YtblahbmhbfcggaaGreatDoorMem
import Derived.Deep.RegionHeld3
import Derived.RegionTactic
import Derived.StillTailTactics
namespace Go.Proofs.YtblahbmhbfcggaaGreatDoor
open Go.ChangeShapes Go.WideShapes Go.ChangeAt Go.RowKit Go.Joins Go.Deep
set_option linter.unusedVariables false

def NextPost (k l h f b n : Nat) (w : World) (e : Ending) (w' : World) : Prop := ∃ r : Int, LeastMem k l h f b n r ∧ e = .returned (.int .i64 r) ∧ Below w.heap.size w w'

theorem shl_one (k : Nat) (hk : k ≤ 32) : wrap64 (2 ^ k) = ((2 ^ k : Nat) : Int) := by
  have hp : (2 : Nat) ^ k ≤ 2 ^ 32 := Nat.pow_le_pow_right (by decide) hk
  have e : ((2 : Int) ^ k) = ((2 ^ k : Nat) : Int) := by simp
  rw [e, w64 _ (by omega)]
theorem top_one (k : Nat) (hk : k ≤ 32) : wrap64 (2 ^ k - 1) = ((2 ^ k - 1 : Nat) : Int) := by
  have hp : (2 : Nat) ^ k ≤ 2 ^ 32 := Nat.pow_le_pow_right (by decide) hk
  have h1 : 1 ≤ 2 ^ k := Nat.one_le_two_pow
  have e : ((2 : Int) ^ k - 1) = ((2 ^ k - 1 : Nat) : Int) := by rw [Int.natCast_sub h1]; simp
  rw [e, w64 _ (by omega)]
set_option maxRecDepth 100000 in
set_option maxHeartbeats 1600000 in
theorem rNext_no (k l h f b n : Int) (w : World) :
    Calls Tryz.prog 17 #[valV k true l h f b, .int .i64 n] w fun e w' => e = .returned (.int .i64 (-1)) ∧ Below w.heap.size w w' := by
  go_enter Tryz.func17, Tryz.ntmps17
  go_wp2
  go_ret
  exact ⟨rfl, (Below.refl _ _).alloc (Nat.le_refl _) _⟩
set_option maxRecDepth 100000 in
set_option maxHeartbeats 1600000 in
theorem rNext_big (k l h f b n : Nat) (ok : SetOk k l h f b) (hn : 2 ^ k ≤ n) (hn3 : n ≤ 4294967296) (w : World) :
    Calls Tryz.prog 17 #[valV k false l h f b, .int .i64 n] w (NextPost k l h f b n w) := by
  have e0 := shl_one k ok.hk.le
  have t0 : decide ((2 : Int) ^ k ≤ (n : Int)) = true := by rw [decide_eq_true_iff]; exact_mod_cast hn
  have hk3 := ok.hk.le
  have hp := ok.hk.pow
  have fin : LeastMem k l h f b n (-1) := Or.inl ⟨rfl, fun x hx hm => by have := hm.lt; omega⟩
  go_enter Tryz.func17, Tryz.ntmps17
  go_wp2
  go_ret
  exact ⟨_, fin, rfl, (Below.refl _ _).alloc (Nat.le_refl _) _⟩

/-- nothing that fits lies from a to c -/
def NoneIn (k f b n a : Nat) (c : Int) : Prop := ∀ x : Nat, n ≤ x → x < 2 ^ k → Fits f b x → a ≤ x → (x : Int) ≤ c → False
def LeastIn (k f b n a : Nat) (c : Int) (m : Nat) : Prop := n ≤ m ∧ m < 2 ^ k ∧ Fits f b m ∧ a ≤ m ∧ (m : Int) ≤ c ∧ ∀ x : Nat, n ≤ x → x < 2 ^ k → Fits f b x → a ≤ x → m ≤ x
theorem noneIn_of {k f b n a : Nat} {c r : Int} (hr : LeastFit k f b (max n a) r) (h : r < 0 ∨ c < r) : NoneIn k f b n a c := by
  intro x hn hw hf ha hx
  rcases hr with ⟨rfl, h'⟩ | ⟨m, rfl, h1, h2, h3, h4⟩
  · exact h' x hw (by omega) hf
  · have := h4 x hw (by omega) hf
    omega
theorem noneIn_max {k f b n a : Nat} {c : Int} (h : c < (max n a : Nat)) : NoneIn k f b n a c := by
  intro x hn hw hf ha hx; omega
theorem leastIn_of {k f b n a : Nat} {c r : Int} (hr : LeastFit k f b (max n a) r) (h0 : 0 ≤ r) (hc : r ≤ c) : ∃ m : Nat, r = m ∧ LeastIn k f b n a c m := by
  rcases hr with ⟨rfl, h'⟩ | ⟨m, rfl, h1, h2, h3, h4⟩
  · omega
  · exact ⟨m, rfl, by omega, h1, h3, by omega, hc, fun x hn hw hf ha => h4 x hw (by omega) hf⟩

theorem plain_0 {k l h f b n m : Nat} (hl : l ≤ h) (hm : LeastIn k f b n l h m) : LeastMem k l h f b n m :=
  next_plain_some hl hm.1 hm.2.1 hm.2.2.1 hm.2.2.2.1 (by have := hm.2.2.2.2.1; omega) hm.2.2.2.2.2
theorem plain_none {k l h f b n : Nat} (hl : l ≤ h) (h0 : NoneIn k f b n l h) : LeastMem k l h f b n (-1) :=
  next_plain hl (fun x a c d e g => h0 x a c d e (by omega))
theorem over_0 {k l h f b n m : Nat} (hl : ¬ l ≤ h) (hm : LeastIn k f b n 0 h m) : LeastMem k l h f b n m :=
  next_over_first hl hm.1 hm.2.1 hm.2.2.1 (by have := hm.2.2.2.2.1; omega) (fun x a c d => hm.2.2.2.2.2 x a c d (by omega))
theorem over_1 {k l h f b n m : Nat} (hl : ¬ l ≤ h) (h0 : NoneIn k f b n 0 h) (hm : LeastIn k f b n l ((2 ^ k - 1 : Nat) : Int) m) : LeastMem k l h f b n m :=
  next_over_second hl hm.1 hm.2.1 hm.2.2.1 hm.2.2.2.1 (fun x a c d e => h0 x a c d (by omega) (by omega)) hm.2.2.2.2.2
theorem over_none {k l h f b n : Nat} (hl : ¬ l ≤ h) (h0 : NoneIn k f b n 0 h) (h1 : NoneIn k f b n l ((2 ^ k - 1 : Nat) : Int)) : LeastMem k l h f b n (-1) :=
  next_over_none hl (fun x a c d e => h0 x a c d (by omega) (by omega)) (fun x a c d e => h1 x a c d e (Int.ofNat_le.2 (by omega)))

/-- what the round holds: so many ranges are done -/
def RelN (k f b n a0 a1 : Nat) (c0 c1 : Int) (w1 : World) (i : Value) (wr : World) : Prop :=
  ∃ j : Nat, j ≤ 2 ∧ i = .int .i64 j ∧ (1 ≤ j → NoneIn k f b n a0 c0) ∧ (2 ≤ j → NoneIn k f b n a1 c1) ∧ Below w1.heap.size w1 wr

set_option maxRecDepth 100000 in
set_option maxHeartbeats 3200000 in
theorem rNext_over (k l hi f b n : Nat) (ok : SetOk k l hi f b) (hn : n < 2 ^ k) (hl : ¬ l ≤ hi) (w : World) :
    Calls Tryz.prog 17 #[valV k false l hi f b, .int .i64 n] w (NextPost k l hi f b n w) := by
  have e0 := shl_one k ok.hk.le
  have e1 := top_one k ok.hk.le
  have t0 : decide ((2 : Int) ^ k ≤ (n : Int)) = false := by rw [decide_eq_false_iff_not]; intro hc; exact absurd (by exact_mod_cast hc : (2 : Nat) ^ k ≤ n) (by omega)
  have t1 : decide (hi < l) = true := by simp; omega
  have hk3 := ok.hk.le
  obtain ⟨hl3, hh3, hf3, hb3⟩ := ok.lt
  have hp := ok.hk.pow
  have okl := ok.hl
  have okh := ok.hh
  go_enter Tryz.func17, Tryz.ntmps17
  go_wp2
  go_region
  · go_wp2
    have d0 : At ((((((w.alloc (Obj.cells #[.int .i64 k, .bool false, .int .i64 l, .int .i64 hi, .int .i64 f, .int .i64 b] 30)).alloc (Obj.cells #[.int .i64 l, .int .i64 0] 3)).alloc (Obj.cells #[.int .i64 hi, .int .i64 (-1)] 3)).alloc (Obj.cells #[.int .i64 0, .int .i64 l] 3)).alloc (Obj.cells #[.int .i64 hi, .int .i64 ((2 ^ k - 1 : Nat) : Int)] 3)).drew) w.heap.size #[.int .i64 k, .bool false, .int .i64 l, .int .i64 hi, .int .i64 f, .int .i64 b] 30 := (((((At.new w #[.int .i64 k, .bool false, .int .i64 l, .int .i64 hi, .int .i64 f, .int .i64 b] 30).alloc _).alloc _).alloc _).alloc _).drew
    have dA : At ((((((w.alloc (Obj.cells #[.int .i64 k, .bool false, .int .i64 l, .int .i64 hi, .int .i64 f, .int .i64 b] 30)).alloc (Obj.cells #[.int .i64 l, .int .i64 0] 3)).alloc (Obj.cells #[.int .i64 hi, .int .i64 (-1)] 3)).alloc (Obj.cells #[.int .i64 0, .int .i64 l] 3)).alloc (Obj.cells #[.int .i64 hi, .int .i64 ((2 ^ k - 1 : Nat) : Int)] 3)).drew) (w.heap.size + 1 + 1 + 1) #[.int .i64 0, .int .i64 l] 3 := by
      have hh := ((At.new (((w.alloc (Obj.cells #[.int .i64 k, .bool false, .int .i64 l, .int .i64 hi, .int .i64 f, .int .i64 b] 30)).alloc (Obj.cells #[.int .i64 l, .int .i64 0] 3)).alloc (Obj.cells #[.int .i64 hi, .int .i64 (-1)] 3)) #[.int .i64 0, .int .i64 l] 3).alloc (Obj.cells #[.int .i64 hi, .int .i64 ((2 ^ k - 1 : Nat) : Int)] 3)).drew
      simpa only [World.size_alloc] using hh
    have dC : At ((((((w.alloc (Obj.cells #[.int .i64 k, .bool false, .int .i64 l, .int .i64 hi, .int .i64 f, .int .i64 b] 30)).alloc (Obj.cells #[.int .i64 l, .int .i64 0] 3)).alloc (Obj.cells #[.int .i64 hi, .int .i64 (-1)] 3)).alloc (Obj.cells #[.int .i64 0, .int .i64 l] 3)).alloc (Obj.cells #[.int .i64 hi, .int .i64 ((2 ^ k - 1 : Nat) : Int)] 3)).drew) (w.heap.size + 1 + 1 + 1 + 1) #[.int .i64 hi, .int .i64 ((2 ^ k - 1 : Nat) : Int)] 3 := by
      have hh := (At.new ((((w.alloc (Obj.cells #[.int .i64 k, .bool false, .int .i64 l, .int .i64 hi, .int .i64 f, .int .i64 b] 30)).alloc (Obj.cells #[.int .i64 l, .int .i64 0] 3)).alloc (Obj.cells #[.int .i64 hi, .int .i64 (-1)] 3)).alloc (Obj.cells #[.int .i64 0, .int .i64 l] 3)) #[.int .i64 hi, .int .i64 ((2 ^ k - 1 : Nat) : Int)] 3).drew
      simpa only [World.size_alloc] using hh
    have hbW : Below w.heap.size w ((((((w.alloc (Obj.cells #[.int .i64 k, .bool false, .int .i64 l, .int .i64 hi, .int .i64 f, .int .i64 b] 30)).alloc (Obj.cells #[.int .i64 l, .int .i64 0] 3)).alloc (Obj.cells #[.int .i64 hi, .int .i64 (-1)] 3)).alloc (Obj.cells #[.int .i64 0, .int .i64 l] 3)).alloc (Obj.cells #[.int .i64 hi, .int .i64 ((2 ^ k - 1 : Nat) : Int)] 3)).drew) := by
      refine Below.drew ?_
      exact (((((Below.refl _ _).alloc (Nat.le_refl _) _).alloc (by simp) _).alloc (by simp; omega) _).alloc (by simp; omega) _).alloc (by simp; omega) _
    generalize (((((w.alloc (Obj.cells #[.int .i64 k, .bool false, .int .i64 l, .int .i64 hi, .int .i64 f, .int .i64 b] 30)).alloc (Obj.cells #[.int .i64 l, .int .i64 0] 3)).alloc (Obj.cells #[.int .i64 hi, .int .i64 (-1)] 3)).alloc (Obj.cells #[.int .i64 0, .int .i64 l] 3)).alloc (Obj.cells #[.int .i64 hi, .int .i64 ((2 ^ k - 1 : Nat) : Int)] 3)).drew = w1 at d0 dA dC hbW ⊢
    go_loopw [7] (fun i wr => RelN k f b n (0) (l) ((hi : Nat)) (((2 ^ k - 1 : Nat) : Int)) w1 i wr) (fun i _ => 2 - (intOf i).toNat)
    case atStart => exact ⟨0, by omega, rfl, fun hh => absurd hh (by omega), fun hh => absurd hh (by omega), Below.refl _ _⟩
    case round =>
      obtain ⟨j, hj, rfl, hn0, hn1, hb⟩ := hrel
      have kb := d0.below hb d0.lt
      have ka := dA.below hb dA.lt
      have kc := dC.below hb dC.lt
      have k0 : wr.cell? ⟨w.heap.size, 0, none⟩ = some (.int .i64 k) := kb.cell 0 rfl
      have k1 : wr.cell? ⟨w.heap.size, 1, none⟩ = some (.bool false) := kb.cell 1 rfl
      have k2 : wr.cell? ⟨w.heap.size, 2, none⟩ = some (.int .i64 l) := kb.cell 2 rfl
      have k3 : wr.cell? ⟨w.heap.size, 3, none⟩ = some (.int .i64 hi) := kb.cell 3 rfl
      have k4 : wr.cell? ⟨w.heap.size, 4, none⟩ = some (.int .i64 f) := kb.cell 4 rfl
      have k5 : wr.cell? ⟨w.heap.size, 5, none⟩ = some (.int .i64 b) := kb.cell 5 rfl
      have ka0 : wr.cell? ⟨w.heap.size + 1 + 1 + 1, 0, none⟩ = some (.int .i64 0) := ka.cell 0 rfl
      have ka1 : wr.cell? ⟨w.heap.size + 1 + 1 + 1, 1, none⟩ = some (.int .i64 l) := ka.cell 1 rfl
      have kc0 : wr.cell? ⟨w.heap.size + 1 + 1 + 1 + 1, 0, none⟩ = some (.int .i64 (hi : Nat)) := kc.cell 0 rfl
      have kc1 : wr.cell? ⟨w.heap.size + 1 + 1 + 1 + 1, 1, none⟩ = some (.int .i64 ((2 ^ k - 1 : Nat) : Int)) := kc.cell 1 rfl
      have kb' := kb.lt
      have ka' := ka.lt
      have kc' := kc.lt
      clear kb ka kc
      obtain rfl | rfl | rfl : j = 0 ∨ j = 1 ∨ j = 2 := by omega
      · have hMM : max n (0) = n := by omega
        by_cases ht : ((hi : Nat) : Int) < (n : Int)
        · have hnone : NoneIn k f b n (0) ((hi : Nat)) := noneIn_max (by rw [hMM]; exact ht)
          have t2 : decide (((hi : Nat) : Int) < (n : Int)) = true := by simpa using ht
          have t3 : decide (hi < n) = true := by simp; omega
          clear hMM
          go_wp2_with fail
          go_quiet (fail)
          go_wp2_with fail
          go_roundw
          case rel => exact ⟨1, by omega, by go_num, fun _ => hnone, fun hh => absurd hh (by omega), hb.trans (Joins.below_draws _ _ _)⟩
          case measure => simp [intOf]
        · have t2 : decide (((hi : Nat) : Int) < (n : Int)) = false := by simpa using ht
          have t3 : decide (hi < n) = false := by simp; omega
          have hMk : n < 2 ^ k := by omega
          have cm : ∀ (x : Int) (hx : x = (n : Nat)) (w : World), Calls Tryz.prog 45 #[valV k false l hi f b, .int .i64 x] w (FitPost k f b n w) := by intro x hx w; subst hx; exact match_any k l hi f b n ok hMk w
          clear hMM
          go_wp2_with fail
          go_quiet (fail)
          go_wp2_with fail
          have kbl : w.heap.size < wr.heap.size := kb'
          have kal : w.heap.size + 1 + 1 + 1 < wr.heap.size := ka'
          go_region_held3 (fun w' => w'.cell? ⟨w.heap.size, 0, none⟩ = some (.int .i64 k) ∧ w'.cell? ⟨w.heap.size, 1, none⟩ = some (.bool false) ∧ w'.cell? ⟨w.heap.size, 2, none⟩ = some (.int .i64 l) ∧ w'.cell? ⟨w.heap.size, 3, none⟩ = some (.int .i64 hi) ∧ w'.cell? ⟨w.heap.size, 4, none⟩ = some (.int .i64 f) ∧ w'.cell? ⟨w.heap.size, 5, none⟩ = some (.int .i64 b) ∧ w'.cell? ⟨w.heap.size + 1 + 1 + 1, 0, none⟩ = some (.int .i64 0))
            (first
              | exact ⟨k0, k1, k2, k3, k4, k5, ka0⟩
              | exact ⟨(hbm.cell (p := ⟨w.heap.size, 0, none⟩) kbl).trans k0, (hbm.cell (p := ⟨w.heap.size, 1, none⟩) kbl).trans k1, (hbm.cell (p := ⟨w.heap.size, 2, none⟩) kbl).trans k2, (hbm.cell (p := ⟨w.heap.size, 3, none⟩) kbl).trans k3, (hbm.cell (p := ⟨w.heap.size, 4, none⟩) kbl).trans k4, (hbm.cell (p := ⟨w.heap.size, 5, none⟩) kbl).trans k5, (hbm.cell (p := ⟨w.heap.size + 1 + 1 + 1, 0, none⟩) kal).trans ka0⟩)
            ((go_at_call 45; (with_reducible refine (cm _ (by first | with_reducible rfl | (split <;> omega) | (trace_state; omega)) _).mono ?_); rintro e w' ⟨r, hr, rfl, hbm⟩))
          have kcn : w'.cell? ⟨w.heap.size + 1 + 1 + 1 + 1, 0, none⟩ = some (.int .i64 (hi : Nat)) := (hbm.cell (p := ⟨w.heap.size + 1 + 1 + 1 + 1, 0, none⟩) kc').trans kc0
          have kan : w'.cell? ⟨w.heap.size + 1 + 1 + 1, 0, none⟩ = some (.int .i64 0) := (hbm.cell (p := ⟨w.heap.size + 1 + 1 + 1, 0, none⟩) kal).trans ka0
          have hbN : Below w1.heap.size w1 w' := (hb.trans (Joins.below_draws _ _ _)).trans (hbm.mono hb.size)
          clear k0 k1 k2 k3 k4 k5 ka0 ka1 kc0 kc1 hbm cm
          by_cases hr0 : 0 ≤ r
          · by_cases hr1 : r ≤ (hi : Nat)
            · obtain ⟨m, rfl, hm⟩ := leastIn_of (a := 0) (c := (hi : Nat)) (by rw [show max n (0) = n by omega]; exact hr) hr0 hr1
              have fin := over_0 hl hm
              have q0 : decide ((m : Int) ≤ (hi : Nat)) = true := by simpa using hr1
              clear hr hm
              go_wp2_with fail
              go_ret
              exact ⟨_, fin, rfl, hbW.trans (hbN.mono hbW.size)⟩
            · have hnone : NoneIn k f b n (0) ((hi : Nat)) := noneIn_of (by rw [show max n (0) = n by omega]; exact hr) (Or.inr (by omega))
              have q0 : decide (r ≤ (hi : Nat)) = false := by simpa using hr1
              clear hr
              go_wp2_with fail
              go_roundw
              case rel => exact ⟨1, by omega, by go_num, fun _ => hnone, fun hh => absurd hh (by omega), hbN⟩
              case measure => simp [intOf]
          · have hnone : NoneIn k f b n (0) ((hi : Nat)) := noneIn_of (by rw [show max n (0) = n by omega]; exact hr) (Or.inl (by omega))
            clear hr
            go_wp2_with fail
            go_roundw
            case rel => exact ⟨1, by omega, by go_num, fun _ => hnone, fun hh => absurd hh (by omega), hbN⟩
            case measure => simp [intOf]
      · rcases Nat.lt_or_ge n l with hna | hna
        · have hMM : max n (l) = l := by omega
          by_cases ht : (((2 ^ k - 1 : Nat) : Int) : Int) < (l : Int)
          · exact absurd ht (by omega)
          · have t2 : decide ((((2 ^ k - 1 : Nat) : Int) : Int) < (l : Int)) = false := by simpa using ht
            skip
            have hMk : l < 2 ^ k := by omega
            have cm : ∀ (x : Int) (hx : x = (l : Nat)) (w : World), Calls Tryz.prog 45 #[valV k false l hi f b, .int .i64 x] w (FitPost k f b l w) := by intro x hx w; subst hx; exact match_any k l hi f b l ok hMk w
            clear hMM
            go_wp2_with fail
            go_quiet (fail)
            go_wp2_with fail
            have kbl : w.heap.size < wr.heap.size := kb'
            have kal : w.heap.size + 1 + 1 + 1 < wr.heap.size := ka'
            go_region_held3 (fun w' => w'.cell? ⟨w.heap.size, 0, none⟩ = some (.int .i64 k) ∧ w'.cell? ⟨w.heap.size, 1, none⟩ = some (.bool false) ∧ w'.cell? ⟨w.heap.size, 2, none⟩ = some (.int .i64 l) ∧ w'.cell? ⟨w.heap.size, 3, none⟩ = some (.int .i64 hi) ∧ w'.cell? ⟨w.heap.size, 4, none⟩ = some (.int .i64 f) ∧ w'.cell? ⟨w.heap.size, 5, none⟩ = some (.int .i64 b) ∧ w'.cell? ⟨w.heap.size + 1 + 1 + 1, 1, none⟩ = some (.int .i64 l))
              (first
                | exact ⟨k0, k1, k2, k3, k4, k5, ka1⟩
                | exact ⟨(hbm.cell (p := ⟨w.heap.size, 0, none⟩) kbl).trans k0, (hbm.cell (p := ⟨w.heap.size, 1, none⟩) kbl).trans k1, (hbm.cell (p := ⟨w.heap.size, 2, none⟩) kbl).trans k2, (hbm.cell (p := ⟨w.heap.size, 3, none⟩) kbl).trans k3, (hbm.cell (p := ⟨w.heap.size, 4, none⟩) kbl).trans k4, (hbm.cell (p := ⟨w.heap.size, 5, none⟩) kbl).trans k5, (hbm.cell (p := ⟨w.heap.size + 1 + 1 + 1, 1, none⟩) kal).trans ka1⟩)
              ((go_at_call 45; (with_reducible refine (cm _ (by first | with_reducible rfl | (split <;> omega) | (trace_state; omega)) _).mono ?_); rintro e w' ⟨r, hr, rfl, hbm⟩))
            have kcn : w'.cell? ⟨w.heap.size + 1 + 1 + 1 + 1, 1, none⟩ = some (.int .i64 ((2 ^ k - 1 : Nat) : Int)) := (hbm.cell (p := ⟨w.heap.size + 1 + 1 + 1 + 1, 1, none⟩) kc').trans kc1
            have kan : w'.cell? ⟨w.heap.size + 1 + 1 + 1, 1, none⟩ = some (.int .i64 l) := (hbm.cell (p := ⟨w.heap.size + 1 + 1 + 1, 1, none⟩) kal).trans ka1
            have hbN : Below w1.heap.size w1 w' := (hb.trans (Joins.below_draws _ _ _)).trans (hbm.mono hb.size)
            clear k0 k1 k2 k3 k4 k5 ka0 ka1 kc0 kc1 hbm cm
            by_cases hr0 : 0 ≤ r
            · by_cases hr1 : r ≤ ((2 ^ k - 1 : Nat) : Int)
              · obtain ⟨m, rfl, hm⟩ := leastIn_of (a := l) (c := ((2 ^ k - 1 : Nat) : Int)) (by rw [show max n (l) = l by omega]; exact hr) hr0 hr1
                have fin := over_1 hl (hn0 (by omega)) hm
                have q0 : decide ((m : Int) ≤ ((2 ^ k - 1 : Nat) : Int)) = true := by simpa using hr1
                clear hr hm
                go_wp2_with fail
                go_ret
                exact ⟨_, fin, rfl, hbW.trans (hbN.mono hbW.size)⟩
              · have hnone : NoneIn k f b n (l) (((2 ^ k - 1 : Nat) : Int)) := noneIn_of (by rw [show max n (l) = l by omega]; exact hr) (Or.inr (by omega))
                have q0 : decide (r ≤ ((2 ^ k - 1 : Nat) : Int)) = false := by simpa using hr1
                clear hr
                go_wp2_with fail
                go_roundw
                case rel => exact ⟨2, by omega, by go_num, fun _ => hn0 (by omega), fun _ => hnone, hbN⟩
                case measure => simp [intOf]
            · have hnone : NoneIn k f b n (l) (((2 ^ k - 1 : Nat) : Int)) := noneIn_of (by rw [show max n (l) = l by omega]; exact hr) (Or.inl (by omega))
              clear hr
              go_wp2_with fail
              go_roundw
              case rel => exact ⟨2, by omega, by go_num, fun _ => hn0 (by omega), fun _ => hnone, hbN⟩
              case measure => simp [intOf]
        · have hMM : max n (l) = n := by omega
          by_cases ht : (((2 ^ k - 1 : Nat) : Int) : Int) < (n : Int)
          · exact absurd ht (by omega)
          · have t2 : decide ((((2 ^ k - 1 : Nat) : Int) : Int) < (n : Int)) = false := by simpa using ht
            skip
            have hMk : n < 2 ^ k := by omega
            have cm : ∀ (x : Int) (hx : x = (n : Nat)) (w : World), Calls Tryz.prog 45 #[valV k false l hi f b, .int .i64 x] w (FitPost k f b n w) := by intro x hx w; subst hx; exact match_any k l hi f b n ok hMk w
            clear hMM
            go_wp2_with fail
            go_quiet (fail)
            go_wp2_with fail
            have kbl : w.heap.size < wr.heap.size := kb'
            have kal : w.heap.size + 1 + 1 + 1 < wr.heap.size := ka'
            go_region_held3 (fun w' => w'.cell? ⟨w.heap.size, 0, none⟩ = some (.int .i64 k) ∧ w'.cell? ⟨w.heap.size, 1, none⟩ = some (.bool false) ∧ w'.cell? ⟨w.heap.size, 2, none⟩ = some (.int .i64 l) ∧ w'.cell? ⟨w.heap.size, 3, none⟩ = some (.int .i64 hi) ∧ w'.cell? ⟨w.heap.size, 4, none⟩ = some (.int .i64 f) ∧ w'.cell? ⟨w.heap.size, 5, none⟩ = some (.int .i64 b) ∧ w'.cell? ⟨w.heap.size + 1 + 1 + 1, 1, none⟩ = some (.int .i64 l))
              (first
                | exact ⟨k0, k1, k2, k3, k4, k5, ka1⟩
                | exact ⟨(hbm.cell (p := ⟨w.heap.size, 0, none⟩) kbl).trans k0, (hbm.cell (p := ⟨w.heap.size, 1, none⟩) kbl).trans k1, (hbm.cell (p := ⟨w.heap.size, 2, none⟩) kbl).trans k2, (hbm.cell (p := ⟨w.heap.size, 3, none⟩) kbl).trans k3, (hbm.cell (p := ⟨w.heap.size, 4, none⟩) kbl).trans k4, (hbm.cell (p := ⟨w.heap.size, 5, none⟩) kbl).trans k5, (hbm.cell (p := ⟨w.heap.size + 1 + 1 + 1, 1, none⟩) kal).trans ka1⟩)
              ((go_at_call 45; (with_reducible refine (cm _ (by first | with_reducible rfl | (split <;> omega) | (trace_state; omega)) _).mono ?_); rintro e w' ⟨r, hr, rfl, hbm⟩))
            have kcn : w'.cell? ⟨w.heap.size + 1 + 1 + 1 + 1, 1, none⟩ = some (.int .i64 ((2 ^ k - 1 : Nat) : Int)) := (hbm.cell (p := ⟨w.heap.size + 1 + 1 + 1 + 1, 1, none⟩) kc').trans kc1
            have kan : w'.cell? ⟨w.heap.size + 1 + 1 + 1, 1, none⟩ = some (.int .i64 l) := (hbm.cell (p := ⟨w.heap.size + 1 + 1 + 1, 1, none⟩) kal).trans ka1
            have hbN : Below w1.heap.size w1 w' := (hb.trans (Joins.below_draws _ _ _)).trans (hbm.mono hb.size)
            clear k0 k1 k2 k3 k4 k5 ka0 ka1 kc0 kc1 hbm cm
            by_cases hr0 : 0 ≤ r
            · by_cases hr1 : r ≤ ((2 ^ k - 1 : Nat) : Int)
              · obtain ⟨m, rfl, hm⟩ := leastIn_of (a := l) (c := ((2 ^ k - 1 : Nat) : Int)) (by rw [show max n (l) = n by omega]; exact hr) hr0 hr1
                have fin := over_1 hl (hn0 (by omega)) hm
                have q0 : decide ((m : Int) ≤ ((2 ^ k - 1 : Nat) : Int)) = true := by simpa using hr1
                clear hr hm
                go_wp2_with fail
                go_ret
                exact ⟨_, fin, rfl, hbW.trans (hbN.mono hbW.size)⟩
              · have hnone : NoneIn k f b n (l) (((2 ^ k - 1 : Nat) : Int)) := noneIn_of (by rw [show max n (l) = n by omega]; exact hr) (Or.inr (by omega))
                have q0 : decide (r ≤ ((2 ^ k - 1 : Nat) : Int)) = false := by simpa using hr1
                clear hr
                go_wp2_with fail
                go_roundw
                case rel => exact ⟨2, by omega, by go_num, fun _ => hn0 (by omega), fun _ => hnone, hbN⟩
                case measure => simp [intOf]
            · have hnone : NoneIn k f b n (l) (((2 ^ k - 1 : Nat) : Int)) := noneIn_of (by rw [show max n (l) = n by omega]; exact hr) (Or.inl (by omega))
              clear hr
              go_wp2_with fail
              go_roundw
              case rel => exact ⟨2, by omega, by go_num, fun _ => hn0 (by omega), fun _ => hnone, hbN⟩
              case measure => simp [intOf]
      · have fin := over_none hl (hn0 (by omega)) (hn1 (by omega))
        go_wp2_with fail
        go_ret
        exact ⟨_, fin, rfl, hbW.trans (hb.mono hbW.size)⟩
  · go_wp2
    have d0 : At ((((((w.alloc (Obj.cells #[.int .i64 k, .bool false, .int .i64 l, .int .i64 hi, .int .i64 f, .int .i64 b] 30)).alloc (Obj.cells #[.int .i64 l, .int .i64 0] 3)).alloc (Obj.cells #[.int .i64 hi, .int .i64 (-1)] 3)).alloc (Obj.cells #[.int .i64 hi, .int .i64 ((2 ^ k - 1 : Nat) : Int)] 3)).alloc (Obj.cells #[.int .i64 0, .int .i64 l] 3)).drew) w.heap.size #[.int .i64 k, .bool false, .int .i64 l, .int .i64 hi, .int .i64 f, .int .i64 b] 30 := (((((At.new w #[.int .i64 k, .bool false, .int .i64 l, .int .i64 hi, .int .i64 f, .int .i64 b] 30).alloc _).alloc _).alloc _).alloc _).drew
    have dA : At ((((((w.alloc (Obj.cells #[.int .i64 k, .bool false, .int .i64 l, .int .i64 hi, .int .i64 f, .int .i64 b] 30)).alloc (Obj.cells #[.int .i64 l, .int .i64 0] 3)).alloc (Obj.cells #[.int .i64 hi, .int .i64 (-1)] 3)).alloc (Obj.cells #[.int .i64 hi, .int .i64 ((2 ^ k - 1 : Nat) : Int)] 3)).alloc (Obj.cells #[.int .i64 0, .int .i64 l] 3)).drew) (w.heap.size + 1 + 1 + 1 + 1) #[.int .i64 0, .int .i64 l] 3 := by
      have hh := (At.new ((((w.alloc (Obj.cells #[.int .i64 k, .bool false, .int .i64 l, .int .i64 hi, .int .i64 f, .int .i64 b] 30)).alloc (Obj.cells #[.int .i64 l, .int .i64 0] 3)).alloc (Obj.cells #[.int .i64 hi, .int .i64 (-1)] 3)).alloc (Obj.cells #[.int .i64 hi, .int .i64 ((2 ^ k - 1 : Nat) : Int)] 3)) #[.int .i64 0, .int .i64 l] 3).drew
      simpa only [World.size_alloc] using hh
    have dC : At ((((((w.alloc (Obj.cells #[.int .i64 k, .bool false, .int .i64 l, .int .i64 hi, .int .i64 f, .int .i64 b] 30)).alloc (Obj.cells #[.int .i64 l, .int .i64 0] 3)).alloc (Obj.cells #[.int .i64 hi, .int .i64 (-1)] 3)).alloc (Obj.cells #[.int .i64 hi, .int .i64 ((2 ^ k - 1 : Nat) : Int)] 3)).alloc (Obj.cells #[.int .i64 0, .int .i64 l] 3)).drew) (w.heap.size + 1 + 1 + 1) #[.int .i64 hi, .int .i64 ((2 ^ k - 1 : Nat) : Int)] 3 := by
      have hh := ((At.new (((w.alloc (Obj.cells #[.int .i64 k, .bool false, .int .i64 l, .int .i64 hi, .int .i64 f, .int .i64 b] 30)).alloc (Obj.cells #[.int .i64 l, .int .i64 0] 3)).alloc (Obj.cells #[.int .i64 hi, .int .i64 (-1)] 3)) #[.int .i64 hi, .int .i64 ((2 ^ k - 1 : Nat) : Int)] 3).alloc (Obj.cells #[.int .i64 0, .int .i64 l] 3)).drew
      simpa only [World.size_alloc] using hh
    have hbW : Below w.heap.size w ((((((w.alloc (Obj.cells #[.int .i64 k, .bool false, .int .i64 l, .int .i64 hi, .int .i64 f, .int .i64 b] 30)).alloc (Obj.cells #[.int .i64 l, .int .i64 0] 3)).alloc (Obj.cells #[.int .i64 hi, .int .i64 (-1)] 3)).alloc (Obj.cells #[.int .i64 hi, .int .i64 ((2 ^ k - 1 : Nat) : Int)] 3)).alloc (Obj.cells #[.int .i64 0, .int .i64 l] 3)).drew) := by
      refine Below.drew ?_
      exact (((((Below.refl _ _).alloc (Nat.le_refl _) _).alloc (by simp) _).alloc (by simp; omega) _).alloc (by simp; omega) _).alloc (by simp; omega) _
    generalize (((((w.alloc (Obj.cells #[.int .i64 k, .bool false, .int .i64 l, .int .i64 hi, .int .i64 f, .int .i64 b] 30)).alloc (Obj.cells #[.int .i64 l, .int .i64 0] 3)).alloc (Obj.cells #[.int .i64 hi, .int .i64 (-1)] 3)).alloc (Obj.cells #[.int .i64 hi, .int .i64 ((2 ^ k - 1 : Nat) : Int)] 3)).alloc (Obj.cells #[.int .i64 0, .int .i64 l] 3)).drew = w1 at d0 dA dC hbW ⊢
    go_loopw [7] (fun i wr => RelN k f b n (0) (l) ((hi : Nat)) (((2 ^ k - 1 : Nat) : Int)) w1 i wr) (fun i _ => 2 - (intOf i).toNat)
    case atStart => exact ⟨0, by omega, rfl, fun hh => absurd hh (by omega), fun hh => absurd hh (by omega), Below.refl _ _⟩
    case round =>
      obtain ⟨j, hj, rfl, hn0, hn1, hb⟩ := hrel
      have kb := d0.below hb d0.lt
      have ka := dA.below hb dA.lt
      have kc := dC.below hb dC.lt
      have k0 : wr.cell? ⟨w.heap.size, 0, none⟩ = some (.int .i64 k) := kb.cell 0 rfl
      have k1 : wr.cell? ⟨w.heap.size, 1, none⟩ = some (.bool false) := kb.cell 1 rfl
      have k2 : wr.cell? ⟨w.heap.size, 2, none⟩ = some (.int .i64 l) := kb.cell 2 rfl
      have k3 : wr.cell? ⟨w.heap.size, 3, none⟩ = some (.int .i64 hi) := kb.cell 3 rfl
      have k4 : wr.cell? ⟨w.heap.size, 4, none⟩ = some (.int .i64 f) := kb.cell 4 rfl
      have k5 : wr.cell? ⟨w.heap.size, 5, none⟩ = some (.int .i64 b) := kb.cell 5 rfl
      have ka0 : wr.cell? ⟨w.heap.size + 1 + 1 + 1 + 1, 0, none⟩ = some (.int .i64 0) := ka.cell 0 rfl
      have ka1 : wr.cell? ⟨w.heap.size + 1 + 1 + 1 + 1, 1, none⟩ = some (.int .i64 l) := ka.cell 1 rfl
      have kc0 : wr.cell? ⟨w.heap.size + 1 + 1 + 1, 0, none⟩ = some (.int .i64 (hi : Nat)) := kc.cell 0 rfl
      have kc1 : wr.cell? ⟨w.heap.size + 1 + 1 + 1, 1, none⟩ = some (.int .i64 ((2 ^ k - 1 : Nat) : Int)) := kc.cell 1 rfl
      have kb' := kb.lt
      have ka' := ka.lt
      have kc' := kc.lt
      clear kb ka kc
      obtain rfl | rfl | rfl : j = 0 ∨ j = 1 ∨ j = 2 := by omega
      · have hMM : max n (0) = n := by omega
        by_cases ht : ((hi : Nat) : Int) < (n : Int)
        · have hnone : NoneIn k f b n (0) ((hi : Nat)) := noneIn_max (by rw [hMM]; exact ht)
          have t2 : decide (((hi : Nat) : Int) < (n : Int)) = true := by simpa using ht
          have t3 : decide (hi < n) = true := by simp; omega
          clear hMM
          go_wp2_with fail
          go_quiet (fail)
          go_wp2_with fail
          go_roundw
          case rel => exact ⟨1, by omega, by go_num, fun _ => hnone, fun hh => absurd hh (by omega), hb.trans (Joins.below_draws _ _ _)⟩
          case measure => simp [intOf]
        · have t2 : decide (((hi : Nat) : Int) < (n : Int)) = false := by simpa using ht
          have t3 : decide (hi < n) = false := by simp; omega
          have hMk : n < 2 ^ k := by omega
          have cm : ∀ (x : Int) (hx : x = (n : Nat)) (w : World), Calls Tryz.prog 45 #[valV k false l hi f b, .int .i64 x] w (FitPost k f b n w) := by intro x hx w; subst hx; exact match_any k l hi f b n ok hMk w
          clear hMM
          go_wp2_with fail
          go_quiet (fail)
          go_wp2_with fail
          have kbl : w.heap.size < wr.heap.size := kb'
          have kal : w.heap.size + 1 + 1 + 1 + 1 < wr.heap.size := ka'
          go_region_held3 (fun w' => w'.cell? ⟨w.heap.size, 0, none⟩ = some (.int .i64 k) ∧ w'.cell? ⟨w.heap.size, 1, none⟩ = some (.bool false) ∧ w'.cell? ⟨w.heap.size, 2, none⟩ = some (.int .i64 l) ∧ w'.cell? ⟨w.heap.size, 3, none⟩ = some (.int .i64 hi) ∧ w'.cell? ⟨w.heap.size, 4, none⟩ = some (.int .i64 f) ∧ w'.cell? ⟨w.heap.size, 5, none⟩ = some (.int .i64 b) ∧ w'.cell? ⟨w.heap.size + 1 + 1 + 1 + 1, 0, none⟩ = some (.int .i64 0))
            (first
              | exact ⟨k0, k1, k2, k3, k4, k5, ka0⟩
              | exact ⟨(hbm.cell (p := ⟨w.heap.size, 0, none⟩) kbl).trans k0, (hbm.cell (p := ⟨w.heap.size, 1, none⟩) kbl).trans k1, (hbm.cell (p := ⟨w.heap.size, 2, none⟩) kbl).trans k2, (hbm.cell (p := ⟨w.heap.size, 3, none⟩) kbl).trans k3, (hbm.cell (p := ⟨w.heap.size, 4, none⟩) kbl).trans k4, (hbm.cell (p := ⟨w.heap.size, 5, none⟩) kbl).trans k5, (hbm.cell (p := ⟨w.heap.size + 1 + 1 + 1 + 1, 0, none⟩) kal).trans ka0⟩)
            ((go_at_call 45; (with_reducible refine (cm _ (by first | with_reducible rfl | (split <;> omega) | (trace_state; omega)) _).mono ?_); rintro e w' ⟨r, hr, rfl, hbm⟩))
          have kcn : w'.cell? ⟨w.heap.size + 1 + 1 + 1, 0, none⟩ = some (.int .i64 (hi : Nat)) := (hbm.cell (p := ⟨w.heap.size + 1 + 1 + 1, 0, none⟩) kc').trans kc0
          have kan : w'.cell? ⟨w.heap.size + 1 + 1 + 1 + 1, 0, none⟩ = some (.int .i64 0) := (hbm.cell (p := ⟨w.heap.size + 1 + 1 + 1 + 1, 0, none⟩) kal).trans ka0
          have hbN : Below w1.heap.size w1 w' := (hb.trans (Joins.below_draws _ _ _)).trans (hbm.mono hb.size)
          clear k0 k1 k2 k3 k4 k5 ka0 ka1 kc0 kc1 hbm cm
          by_cases hr0 : 0 ≤ r
          · by_cases hr1 : r ≤ (hi : Nat)
            · obtain ⟨m, rfl, hm⟩ := leastIn_of (a := 0) (c := (hi : Nat)) (by rw [show max n (0) = n by omega]; exact hr) hr0 hr1
              have fin := over_0 hl hm
              have q0 : decide ((m : Int) ≤ (hi : Nat)) = true := by simpa using hr1
              clear hr hm
              go_wp2_with fail
              go_ret
              exact ⟨_, fin, rfl, hbW.trans (hbN.mono hbW.size)⟩
            · have hnone : NoneIn k f b n (0) ((hi : Nat)) := noneIn_of (by rw [show max n (0) = n by omega]; exact hr) (Or.inr (by omega))
              have q0 : decide (r ≤ (hi : Nat)) = false := by simpa using hr1
              clear hr
              go_wp2_with fail
              go_roundw
              case rel => exact ⟨1, by omega, by go_num, fun _ => hnone, fun hh => absurd hh (by omega), hbN⟩
              case measure => simp [intOf]
          · have hnone : NoneIn k f b n (0) ((hi : Nat)) := noneIn_of (by rw [show max n (0) = n by omega]; exact hr) (Or.inl (by omega))
            clear hr
            go_wp2_with fail
            go_roundw
            case rel => exact ⟨1, by omega, by go_num, fun _ => hnone, fun hh => absurd hh (by omega), hbN⟩
            case measure => simp [intOf]
      · rcases Nat.lt_or_ge n l with hna | hna
        · have hMM : max n (l) = l := by omega
          by_cases ht : (((2 ^ k - 1 : Nat) : Int) : Int) < (l : Int)
          · exact absurd ht (by omega)
          · have t2 : decide ((((2 ^ k - 1 : Nat) : Int) : Int) < (l : Int)) = false := by simpa using ht
            skip
            have hMk : l < 2 ^ k := by omega
            have cm : ∀ (x : Int) (hx : x = (l : Nat)) (w : World), Calls Tryz.prog 45 #[valV k false l hi f b, .int .i64 x] w (FitPost k f b l w) := by intro x hx w; subst hx; exact match_any k l hi f b l ok hMk w
            clear hMM
            go_wp2_with fail
            go_quiet (fail)
            go_wp2_with fail
            have kbl : w.heap.size < wr.heap.size := kb'
            have kal : w.heap.size + 1 + 1 + 1 + 1 < wr.heap.size := ka'
            go_region_held3 (fun w' => w'.cell? ⟨w.heap.size, 0, none⟩ = some (.int .i64 k) ∧ w'.cell? ⟨w.heap.size, 1, none⟩ = some (.bool false) ∧ w'.cell? ⟨w.heap.size, 2, none⟩ = some (.int .i64 l) ∧ w'.cell? ⟨w.heap.size, 3, none⟩ = some (.int .i64 hi) ∧ w'.cell? ⟨w.heap.size, 4, none⟩ = some (.int .i64 f) ∧ w'.cell? ⟨w.heap.size, 5, none⟩ = some (.int .i64 b) ∧ w'.cell? ⟨w.heap.size + 1 + 1 + 1 + 1, 1, none⟩ = some (.int .i64 l))
              (first
                | exact ⟨k0, k1, k2, k3, k4, k5, ka1⟩
                | exact ⟨(hbm.cell (p := ⟨w.heap.size, 0, none⟩) kbl).trans k0, (hbm.cell (p := ⟨w.heap.size, 1, none⟩) kbl).trans k1, (hbm.cell (p := ⟨w.heap.size, 2, none⟩) kbl).trans k2, (hbm.cell (p := ⟨w.heap.size, 3, none⟩) kbl).trans k3, (hbm.cell (p := ⟨w.heap.size, 4, none⟩) kbl).trans k4, (hbm.cell (p := ⟨w.heap.size, 5, none⟩) kbl).trans k5, (hbm.cell (p := ⟨w.heap.size + 1 + 1 + 1 + 1, 1, none⟩) kal).trans ka1⟩)
              ((go_at_call 45; (with_reducible refine (cm _ (by first | with_reducible rfl | (split <;> omega) | (trace_state; omega)) _).mono ?_); rintro e w' ⟨r, hr, rfl, hbm⟩))
            have kcn : w'.cell? ⟨w.heap.size + 1 + 1 + 1, 1, none⟩ = some (.int .i64 ((2 ^ k - 1 : Nat) : Int)) := (hbm.cell (p := ⟨w.heap.size + 1 + 1 + 1, 1, none⟩) kc').trans kc1
            have kan : w'.cell? ⟨w.heap.size + 1 + 1 + 1 + 1, 1, none⟩ = some (.int .i64 l) := (hbm.cell (p := ⟨w.heap.size + 1 + 1 + 1 + 1, 1, none⟩) kal).trans ka1
            have hbN : Below w1.heap.size w1 w' := (hb.trans (Joins.below_draws _ _ _)).trans (hbm.mono hb.size)
            clear k0 k1 k2 k3 k4 k5 ka0 ka1 kc0 kc1 hbm cm
            by_cases hr0 : 0 ≤ r
            · by_cases hr1 : r ≤ ((2 ^ k - 1 : Nat) : Int)
              · obtain ⟨m, rfl, hm⟩ := leastIn_of (a := l) (c := ((2 ^ k - 1 : Nat) : Int)) (by rw [show max n (l) = l by omega]; exact hr) hr0 hr1
                have fin := over_1 hl (hn0 (by omega)) hm
                have q0 : decide ((m : Int) ≤ ((2 ^ k - 1 : Nat) : Int)) = true := by simpa using hr1
                clear hr hm
                go_wp2_with fail
                go_ret
                exact ⟨_, fin, rfl, hbW.trans (hbN.mono hbW.size)⟩
              · have hnone : NoneIn k f b n (l) (((2 ^ k - 1 : Nat) : Int)) := noneIn_of (by rw [show max n (l) = l by omega]; exact hr) (Or.inr (by omega))
                have q0 : decide (r ≤ ((2 ^ k - 1 : Nat) : Int)) = false := by simpa using hr1
                clear hr
                go_wp2_with fail
                go_roundw
                case rel => exact ⟨2, by omega, by go_num, fun _ => hn0 (by omega), fun _ => hnone, hbN⟩
                case measure => simp [intOf]
            · have hnone : NoneIn k f b n (l) (((2 ^ k - 1 : Nat) : Int)) := noneIn_of (by rw [show max n (l) = l by omega]; exact hr) (Or.inl (by omega))
              clear hr
              go_wp2_with fail
              go_roundw
              case rel => exact ⟨2, by omega, by go_num, fun _ => hn0 (by omega), fun _ => hnone, hbN⟩
              case measure => simp [intOf]
        · have hMM : max n (l) = n := by omega
          by_cases ht : (((2 ^ k - 1 : Nat) : Int) : Int) < (n : Int)
          · exact absurd ht (by omega)
          · have t2 : decide ((((2 ^ k - 1 : Nat) : Int) : Int) < (n : Int)) = false := by simpa using ht
            skip
            have hMk : n < 2 ^ k := by omega
            have cm : ∀ (x : Int) (hx : x = (n : Nat)) (w : World), Calls Tryz.prog 45 #[valV k false l hi f b, .int .i64 x] w (FitPost k f b n w) := by intro x hx w; subst hx; exact match_any k l hi f b n ok hMk w
            clear hMM
            go_wp2_with fail
            go_quiet (fail)
            go_wp2_with fail
            have kbl : w.heap.size < wr.heap.size := kb'
            have kal : w.heap.size + 1 + 1 + 1 + 1 < wr.heap.size := ka'
            go_region_held3 (fun w' => w'.cell? ⟨w.heap.size, 0, none⟩ = some (.int .i64 k) ∧ w'.cell? ⟨w.heap.size, 1, none⟩ = some (.bool false) ∧ w'.cell? ⟨w.heap.size, 2, none⟩ = some (.int .i64 l) ∧ w'.cell? ⟨w.heap.size, 3, none⟩ = some (.int .i64 hi) ∧ w'.cell? ⟨w.heap.size, 4, none⟩ = some (.int .i64 f) ∧ w'.cell? ⟨w.heap.size, 5, none⟩ = some (.int .i64 b) ∧ w'.cell? ⟨w.heap.size + 1 + 1 + 1 + 1, 1, none⟩ = some (.int .i64 l))
              (first
                | exact ⟨k0, k1, k2, k3, k4, k5, ka1⟩
                | exact ⟨(hbm.cell (p := ⟨w.heap.size, 0, none⟩) kbl).trans k0, (hbm.cell (p := ⟨w.heap.size, 1, none⟩) kbl).trans k1, (hbm.cell (p := ⟨w.heap.size, 2, none⟩) kbl).trans k2, (hbm.cell (p := ⟨w.heap.size, 3, none⟩) kbl).trans k3, (hbm.cell (p := ⟨w.heap.size, 4, none⟩) kbl).trans k4, (hbm.cell (p := ⟨w.heap.size, 5, none⟩) kbl).trans k5, (hbm.cell (p := ⟨w.heap.size + 1 + 1 + 1 + 1, 1, none⟩) kal).trans ka1⟩)
              ((go_at_call 45; (with_reducible refine (cm _ (by first | with_reducible rfl | (split <;> omega) | (trace_state; omega)) _).mono ?_); rintro e w' ⟨r, hr, rfl, hbm⟩))
            have kcn : w'.cell? ⟨w.heap.size + 1 + 1 + 1, 1, none⟩ = some (.int .i64 ((2 ^ k - 1 : Nat) : Int)) := (hbm.cell (p := ⟨w.heap.size + 1 + 1 + 1, 1, none⟩) kc').trans kc1
            have kan : w'.cell? ⟨w.heap.size + 1 + 1 + 1 + 1, 1, none⟩ = some (.int .i64 l) := (hbm.cell (p := ⟨w.heap.size + 1 + 1 + 1 + 1, 1, none⟩) kal).trans ka1
            have hbN : Below w1.heap.size w1 w' := (hb.trans (Joins.below_draws _ _ _)).trans (hbm.mono hb.size)
            clear k0 k1 k2 k3 k4 k5 ka0 ka1 kc0 kc1 hbm cm
            by_cases hr0 : 0 ≤ r
            · by_cases hr1 : r ≤ ((2 ^ k - 1 : Nat) : Int)
              · obtain ⟨m, rfl, hm⟩ := leastIn_of (a := l) (c := ((2 ^ k - 1 : Nat) : Int)) (by rw [show max n (l) = n by omega]; exact hr) hr0 hr1
                have fin := over_1 hl (hn0 (by omega)) hm
                have q0 : decide ((m : Int) ≤ ((2 ^ k - 1 : Nat) : Int)) = true := by simpa using hr1
                clear hr hm
                go_wp2_with fail
                go_ret
                exact ⟨_, fin, rfl, hbW.trans (hbN.mono hbW.size)⟩
              · have hnone : NoneIn k f b n (l) (((2 ^ k - 1 : Nat) : Int)) := noneIn_of (by rw [show max n (l) = n by omega]; exact hr) (Or.inr (by omega))
                have q0 : decide (r ≤ ((2 ^ k - 1 : Nat) : Int)) = false := by simpa using hr1
                clear hr
                go_wp2_with fail
                go_roundw
                case rel => exact ⟨2, by omega, by go_num, fun _ => hn0 (by omega), fun _ => hnone, hbN⟩
                case measure => simp [intOf]
            · have hnone : NoneIn k f b n (l) (((2 ^ k - 1 : Nat) : Int)) := noneIn_of (by rw [show max n (l) = n by omega]; exact hr) (Or.inl (by omega))
              clear hr
              go_wp2_with fail
              go_roundw
              case rel => exact ⟨2, by omega, by go_num, fun _ => hn0 (by omega), fun _ => hnone, hbN⟩
              case measure => simp [intOf]
      · have fin := over_none hl (hn0 (by omega)) (hn1 (by omega))
        go_wp2_with fail
        go_ret
        exact ⟨_, fin, rfl, hbW.trans (hb.mono hbW.size)⟩

set_option maxRecDepth 100000 in
set_option maxHeartbeats 3200000 in
theorem rNext_plain (k l hi f b n : Nat) (ok : SetOk k l hi f b) (hn : n < 2 ^ k) (hl : l ≤ hi) (w : World) :
    Calls Tryz.prog 17 #[valV k false l hi f b, .int .i64 n] w (NextPost k l hi f b n w) := by
  have e0 := shl_one k ok.hk.le
  have t0 : decide ((2 : Int) ^ k ≤ (n : Int)) = false := by rw [decide_eq_false_iff_not]; intro hc; exact absurd (by exact_mod_cast hc : (2 : Nat) ^ k ≤ n) (by omega)
  have t1 : decide (hi < l) = false := by simp; omega
  have hk3 := ok.hk.le
  obtain ⟨hl3, hh3, hf3, hb3⟩ := ok.lt
  have hp := ok.hk.pow
  have okl := ok.hl
  have okh := ok.hh
  go_enter Tryz.func17, Tryz.ntmps17
  go_wp2
  have d0 : At (((w.alloc (Obj.cells #[.int .i64 k, .bool false, .int .i64 l, .int .i64 hi, .int .i64 f, .int .i64 b] 30)).alloc (Obj.cells #[.int .i64 l, .int .i64 0] 3)).alloc (Obj.cells #[.int .i64 hi, .int .i64 (-1)] 3)) w.heap.size #[.int .i64 k, .bool false, .int .i64 l, .int .i64 hi, .int .i64 f, .int .i64 b] 30 := ((At.new w #[.int .i64 k, .bool false, .int .i64 l, .int .i64 hi, .int .i64 f, .int .i64 b] 30).alloc _).alloc _
  have dA : At (((w.alloc (Obj.cells #[.int .i64 k, .bool false, .int .i64 l, .int .i64 hi, .int .i64 f, .int .i64 b] 30)).alloc (Obj.cells #[.int .i64 l, .int .i64 0] 3)).alloc (Obj.cells #[.int .i64 hi, .int .i64 (-1)] 3)) (w.heap.size + 1) #[.int .i64 l, .int .i64 0] 3 := by
    have hh := (At.new (w.alloc (Obj.cells #[.int .i64 k, .bool false, .int .i64 l, .int .i64 hi, .int .i64 f, .int .i64 b] 30)) #[.int .i64 l, .int .i64 0] 3).alloc (Obj.cells #[.int .i64 hi, .int .i64 (-1)] 3)
    simpa only [World.size_alloc] using hh
  have dC : At (((w.alloc (Obj.cells #[.int .i64 k, .bool false, .int .i64 l, .int .i64 hi, .int .i64 f, .int .i64 b] 30)).alloc (Obj.cells #[.int .i64 l, .int .i64 0] 3)).alloc (Obj.cells #[.int .i64 hi, .int .i64 (-1)] 3)) (w.heap.size + 1 + 1) #[.int .i64 hi, .int .i64 (-1)] 3 := by
    have hh := At.new ((w.alloc (Obj.cells #[.int .i64 k, .bool false, .int .i64 l, .int .i64 hi, .int .i64 f, .int .i64 b] 30)).alloc (Obj.cells #[.int .i64 l, .int .i64 0] 3)) #[.int .i64 hi, .int .i64 (-1)] 3
    simpa only [World.size_alloc] using hh
  have hbW : Below w.heap.size w (((w.alloc (Obj.cells #[.int .i64 k, .bool false, .int .i64 l, .int .i64 hi, .int .i64 f, .int .i64 b] 30)).alloc (Obj.cells #[.int .i64 l, .int .i64 0] 3)).alloc (Obj.cells #[.int .i64 hi, .int .i64 (-1)] 3)) := by
    exact (((Below.refl _ _).alloc (Nat.le_refl _) _).alloc (by simp) _).alloc (by simp; omega) _
  generalize ((w.alloc (Obj.cells #[.int .i64 k, .bool false, .int .i64 l, .int .i64 hi, .int .i64 f, .int .i64 b] 30)).alloc (Obj.cells #[.int .i64 l, .int .i64 0] 3)).alloc (Obj.cells #[.int .i64 hi, .int .i64 (-1)] 3) = w1 at d0 dA dC hbW ⊢
  go_loopw [7] (fun i wr => RelN k f b n (l) (0) ((hi : Nat)) ((-1 : Int)) w1 i wr) (fun i _ => 2 - (intOf i).toNat)
  case atStart => exact ⟨0, by omega, rfl, fun hh => absurd hh (by omega), fun hh => absurd hh (by omega), Below.refl _ _⟩
  case round =>
    obtain ⟨j, hj, rfl, hn0, hn1, hb⟩ := hrel
    have kb := d0.below hb d0.lt
    have ka := dA.below hb dA.lt
    have kc := dC.below hb dC.lt
    have k0 : wr.cell? ⟨w.heap.size, 0, none⟩ = some (.int .i64 k) := kb.cell 0 rfl
    have k1 : wr.cell? ⟨w.heap.size, 1, none⟩ = some (.bool false) := kb.cell 1 rfl
    have k2 : wr.cell? ⟨w.heap.size, 2, none⟩ = some (.int .i64 l) := kb.cell 2 rfl
    have k3 : wr.cell? ⟨w.heap.size, 3, none⟩ = some (.int .i64 hi) := kb.cell 3 rfl
    have k4 : wr.cell? ⟨w.heap.size, 4, none⟩ = some (.int .i64 f) := kb.cell 4 rfl
    have k5 : wr.cell? ⟨w.heap.size, 5, none⟩ = some (.int .i64 b) := kb.cell 5 rfl
    have ka0 : wr.cell? ⟨w.heap.size + 1, 0, none⟩ = some (.int .i64 l) := ka.cell 0 rfl
    have ka1 : wr.cell? ⟨w.heap.size + 1, 1, none⟩ = some (.int .i64 0) := ka.cell 1 rfl
    have kc0 : wr.cell? ⟨w.heap.size + 1 + 1, 0, none⟩ = some (.int .i64 (hi : Nat)) := kc.cell 0 rfl
    have kc1 : wr.cell? ⟨w.heap.size + 1 + 1, 1, none⟩ = some (.int .i64 (-1 : Int)) := kc.cell 1 rfl
    have kb' := kb.lt
    have ka' := ka.lt
    have kc' := kc.lt
    clear kb ka kc
    obtain rfl | rfl | rfl : j = 0 ∨ j = 1 ∨ j = 2 := by omega
    · rcases Nat.lt_or_ge n l with hna | hna
      · have hMM : max n (l) = l := by omega
        by_cases ht : ((hi : Nat) : Int) < (l : Int)
        · have hnone : NoneIn k f b n (l) ((hi : Nat)) := noneIn_max (by rw [hMM]; exact ht)
          have t2 : decide (((hi : Nat) : Int) < (l : Int)) = true := by simpa using ht
          have t3 : decide (hi < l) = true := by simp; omega
          clear hMM
          go_wp2_with fail
          go_quiet (fail)
          go_wp2_with fail
          go_roundw
          case rel => exact ⟨1, by omega, by go_num, fun _ => hnone, fun hh => absurd hh (by omega), hb.trans (Joins.below_draws _ _ _)⟩
          case measure => simp [intOf]
        · have t2 : decide (((hi : Nat) : Int) < (l : Int)) = false := by simpa using ht
          have t3 : decide (hi < l) = false := by simp; omega
          have hMk : l < 2 ^ k := by omega
          have cm : ∀ (x : Int) (hx : x = (l : Nat)) (w : World), Calls Tryz.prog 45 #[valV k false l hi f b, .int .i64 x] w (FitPost k f b l w) := by intro x hx w; subst hx; exact match_any k l hi f b l ok hMk w
          clear hMM
          go_wp2_with fail
          go_quiet (fail)
          go_wp2_with fail
          have kbl : w.heap.size < wr.heap.size := kb'
          have kal : w.heap.size + 1 < wr.heap.size := ka'
          go_region_held3 (fun w' => w'.cell? ⟨w.heap.size, 0, none⟩ = some (.int .i64 k) ∧ w'.cell? ⟨w.heap.size, 1, none⟩ = some (.bool false) ∧ w'.cell? ⟨w.heap.size, 2, none⟩ = some (.int .i64 l) ∧ w'.cell? ⟨w.heap.size, 3, none⟩ = some (.int .i64 hi) ∧ w'.cell? ⟨w.heap.size, 4, none⟩ = some (.int .i64 f) ∧ w'.cell? ⟨w.heap.size, 5, none⟩ = some (.int .i64 b) ∧ w'.cell? ⟨w.heap.size + 1, 0, none⟩ = some (.int .i64 l))
            (first
              | exact ⟨k0, k1, k2, k3, k4, k5, ka0⟩
              | exact ⟨(hbm.cell (p := ⟨w.heap.size, 0, none⟩) kbl).trans k0, (hbm.cell (p := ⟨w.heap.size, 1, none⟩) kbl).trans k1, (hbm.cell (p := ⟨w.heap.size, 2, none⟩) kbl).trans k2, (hbm.cell (p := ⟨w.heap.size, 3, none⟩) kbl).trans k3, (hbm.cell (p := ⟨w.heap.size, 4, none⟩) kbl).trans k4, (hbm.cell (p := ⟨w.heap.size, 5, none⟩) kbl).trans k5, (hbm.cell (p := ⟨w.heap.size + 1, 0, none⟩) kal).trans ka0⟩)
            ((go_at_call 45; (with_reducible refine (cm _ (by first | with_reducible rfl | (split <;> omega) | (trace_state; omega)) _).mono ?_); rintro e w' ⟨r, hr, rfl, hbm⟩))
          have kcn : w'.cell? ⟨w.heap.size + 1 + 1, 0, none⟩ = some (.int .i64 (hi : Nat)) := (hbm.cell (p := ⟨w.heap.size + 1 + 1, 0, none⟩) kc').trans kc0
          have kan : w'.cell? ⟨w.heap.size + 1, 0, none⟩ = some (.int .i64 l) := (hbm.cell (p := ⟨w.heap.size + 1, 0, none⟩) kal).trans ka0
          have hbN : Below w1.heap.size w1 w' := (hb.trans (Joins.below_draws _ _ _)).trans (hbm.mono hb.size)
          clear k0 k1 k2 k3 k4 k5 ka0 ka1 kc0 kc1 hbm cm
          by_cases hr0 : 0 ≤ r
          · by_cases hr1 : r ≤ (hi : Nat)
            · obtain ⟨m, rfl, hm⟩ := leastIn_of (a := l) (c := (hi : Nat)) (by rw [show max n (l) = l by omega]; exact hr) hr0 hr1
              have fin := plain_0 hl hm
              have q0 : decide ((m : Int) ≤ (hi : Nat)) = true := by simpa using hr1
              clear hr hm
              go_wp2_with fail
              go_ret
              exact ⟨_, fin, rfl, hbW.trans (hbN.mono hbW.size)⟩
            · have hnone : NoneIn k f b n (l) ((hi : Nat)) := noneIn_of (by rw [show max n (l) = l by omega]; exact hr) (Or.inr (by omega))
              have q0 : decide (r ≤ (hi : Nat)) = false := by simpa using hr1
              clear hr
              go_wp2_with fail
              go_roundw
              case rel => exact ⟨1, by omega, by go_num, fun _ => hnone, fun hh => absurd hh (by omega), hbN⟩
              case measure => simp [intOf]
          · have hnone : NoneIn k f b n (l) ((hi : Nat)) := noneIn_of (by rw [show max n (l) = l by omega]; exact hr) (Or.inl (by omega))
            clear hr
            go_wp2_with fail
            go_roundw
            case rel => exact ⟨1, by omega, by go_num, fun _ => hnone, fun hh => absurd hh (by omega), hbN⟩
            case measure => simp [intOf]
      · have hMM : max n (l) = n := by omega
        by_cases ht : ((hi : Nat) : Int) < (n : Int)
        · have hnone : NoneIn k f b n (l) ((hi : Nat)) := noneIn_max (by rw [hMM]; exact ht)
          have t2 : decide (((hi : Nat) : Int) < (n : Int)) = true := by simpa using ht
          have t3 : decide (hi < n) = true := by simp; omega
          clear hMM
          go_wp2_with fail
          go_quiet (fail)
          go_wp2_with fail
          go_roundw
          case rel => exact ⟨1, by omega, by go_num, fun _ => hnone, fun hh => absurd hh (by omega), hb.trans (Joins.below_draws _ _ _)⟩
          case measure => simp [intOf]
        · have t2 : decide (((hi : Nat) : Int) < (n : Int)) = false := by simpa using ht
          have t3 : decide (hi < n) = false := by simp; omega
          have hMk : n < 2 ^ k := by omega
          have cm : ∀ (x : Int) (hx : x = (n : Nat)) (w : World), Calls Tryz.prog 45 #[valV k false l hi f b, .int .i64 x] w (FitPost k f b n w) := by intro x hx w; subst hx; exact match_any k l hi f b n ok hMk w
          clear hMM
          go_wp2_with fail
          go_quiet (fail)
          go_wp2_with fail
          have kbl : w.heap.size < wr.heap.size := kb'
          have kal : w.heap.size + 1 < wr.heap.size := ka'
          go_region_held3 (fun w' => w'.cell? ⟨w.heap.size, 0, none⟩ = some (.int .i64 k) ∧ w'.cell? ⟨w.heap.size, 1, none⟩ = some (.bool false) ∧ w'.cell? ⟨w.heap.size, 2, none⟩ = some (.int .i64 l) ∧ w'.cell? ⟨w.heap.size, 3, none⟩ = some (.int .i64 hi) ∧ w'.cell? ⟨w.heap.size, 4, none⟩ = some (.int .i64 f) ∧ w'.cell? ⟨w.heap.size, 5, none⟩ = some (.int .i64 b) ∧ w'.cell? ⟨w.heap.size + 1, 0, none⟩ = some (.int .i64 l))
            (first
              | exact ⟨k0, k1, k2, k3, k4, k5, ka0⟩
              | exact ⟨(hbm.cell (p := ⟨w.heap.size, 0, none⟩) kbl).trans k0, (hbm.cell (p := ⟨w.heap.size, 1, none⟩) kbl).trans k1, (hbm.cell (p := ⟨w.heap.size, 2, none⟩) kbl).trans k2, (hbm.cell (p := ⟨w.heap.size, 3, none⟩) kbl).trans k3, (hbm.cell (p := ⟨w.heap.size, 4, none⟩) kbl).trans k4, (hbm.cell (p := ⟨w.heap.size, 5, none⟩) kbl).trans k5, (hbm.cell (p := ⟨w.heap.size + 1, 0, none⟩) kal).trans ka0⟩)
            ((go_at_call 45; (with_reducible refine (cm _ (by first | with_reducible rfl | (split <;> omega) | (trace_state; omega)) _).mono ?_); rintro e w' ⟨r, hr, rfl, hbm⟩))
          have kcn : w'.cell? ⟨w.heap.size + 1 + 1, 0, none⟩ = some (.int .i64 (hi : Nat)) := (hbm.cell (p := ⟨w.heap.size + 1 + 1, 0, none⟩) kc').trans kc0
          have kan : w'.cell? ⟨w.heap.size + 1, 0, none⟩ = some (.int .i64 l) := (hbm.cell (p := ⟨w.heap.size + 1, 0, none⟩) kal).trans ka0
          have hbN : Below w1.heap.size w1 w' := (hb.trans (Joins.below_draws _ _ _)).trans (hbm.mono hb.size)
          clear k0 k1 k2 k3 k4 k5 ka0 ka1 kc0 kc1 hbm cm
          by_cases hr0 : 0 ≤ r
          · by_cases hr1 : r ≤ (hi : Nat)
            · obtain ⟨m, rfl, hm⟩ := leastIn_of (a := l) (c := (hi : Nat)) (by rw [show max n (l) = n by omega]; exact hr) hr0 hr1
              have fin := plain_0 hl hm
              have q0 : decide ((m : Int) ≤ (hi : Nat)) = true := by simpa using hr1
              clear hr hm
              go_wp2_with fail
              go_ret
              exact ⟨_, fin, rfl, hbW.trans (hbN.mono hbW.size)⟩
            · have hnone : NoneIn k f b n (l) ((hi : Nat)) := noneIn_of (by rw [show max n (l) = n by omega]; exact hr) (Or.inr (by omega))
              have q0 : decide (r ≤ (hi : Nat)) = false := by simpa using hr1
              clear hr
              go_wp2_with fail
              go_roundw
              case rel => exact ⟨1, by omega, by go_num, fun _ => hnone, fun hh => absurd hh (by omega), hbN⟩
              case measure => simp [intOf]
          · have hnone : NoneIn k f b n (l) ((hi : Nat)) := noneIn_of (by rw [show max n (l) = n by omega]; exact hr) (Or.inl (by omega))
            clear hr
            go_wp2_with fail
            go_roundw
            case rel => exact ⟨1, by omega, by go_num, fun _ => hnone, fun hh => absurd hh (by omega), hbN⟩
            case measure => simp [intOf]
    · have hMM : max n (0) = n := by omega
      by_cases ht : ((-1 : Int) : Int) < (n : Int)
      · have hnone : NoneIn k f b n (0) ((-1 : Int)) := noneIn_max (by rw [hMM]; exact ht)
        have t2 : decide (((-1 : Int) : Int) < (n : Int)) = true := by simpa using ht
        skip
        clear hMM
        go_wp2_with fail
        go_quiet (fail)
        go_wp2_with fail
        go_roundw
        case rel => exact ⟨2, by omega, by go_num, fun _ => hn0 (by omega), fun _ => hnone, hb.trans (Joins.below_draws _ _ _)⟩
        case measure => simp [intOf]
      · exact absurd ht (by omega)
    · have fin := plain_none hl (hn0 (by omega))
      go_wp2_with fail
      go_ret
      exact ⟨_, fin, rfl, hbW.trans (hb.mono hbW.size)⟩

theorem rNext_any (k l hi f b n : Nat) (ok : SetOk k l hi f b) (hn : n ≤ 4294967296) (w : World) :
    Calls Tryz.prog 17 #[valV k false l hi f b, .int .i64 n] w (NextPost k l hi f b n w) := by
  rcases Nat.lt_or_ge n (2 ^ k) with h1 | h1
  · by_cases hl : l ≤ hi
    · exact rNext_plain k l hi f b n ok h1 hl w
    · exact rNext_over k l hi f b n ok h1 hl w
  · exact rNext_big k l hi f b n ok h1 hn w
end Go.Proofs.YtblahbmhbfcggaaGreatDoor
