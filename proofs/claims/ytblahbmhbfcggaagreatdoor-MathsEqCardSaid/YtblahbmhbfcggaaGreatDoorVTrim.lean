/- Package val: a pattern's upTo. -/
import Derived.Test.YtblahbmhbfcggaaGreatDoorVPat
import Derived.Deep.RegionWith
import Derived.RegionCalls
namespace Go.Proofs.YtblahbmhbfcggaaGreatDoor
open Go.ChangeShapes Go.WideShapes Go.ChangeAt Go.RowKit Go.Joins Go.Deep
set_option linter.unusedVariables false

theorem At.below' {w w' : World} {b : Nat} {cs : Array Value} {t : TypeId} (hb : Below w.heap.size w w') (h : At w b cs t) : At w' b cs t := h.below hb h.lt
theorem two_new (w : World) (cs zs : Array Value) (T T' : TypeId) : At ((w.alloc (.cells cs T)).alloc (.cells zs T')) (w.heap.size + 1) zs T' := by
  have := At.new (w.alloc (.cells cs T)) zs T'
  simpa only [World.size_alloc] using this

theorem cell_set {w : World} {p q : Addr} {v x : Value} (h : w.cell? p = some v) (hne : p.block ≠ q.block) : (w.setCell q x).cell? p = some v :=
  (World.cell?_of_block (w := w) (Below.heap_setCell w q x p.block hne)).trans h
theorem keep3_set3 {w : World} {N M : Nat} {a b c x y z : Value} (h : w.cell? ⟨N, 0, none⟩ = some a ∧ w.cell? ⟨N, 1, none⟩ = some b ∧ w.cell? ⟨N, 2, none⟩ = some c) (hne : N ≠ M) :
    (((w.setCell ⟨M, 0, none⟩ x).setCell ⟨M, 1, none⟩ y).setCell ⟨M, 2, none⟩ z).cell? ⟨N, 0, none⟩ = some a ∧ (((w.setCell ⟨M, 0, none⟩ x).setCell ⟨M, 1, none⟩ y).setCell ⟨M, 2, none⟩ z).cell? ⟨N, 1, none⟩ = some b ∧ (((w.setCell ⟨M, 0, none⟩ x).setCell ⟨M, 1, none⟩ y).setCell ⟨M, 2, none⟩ z).cell? ⟨N, 2, none⟩ = some c :=
  ⟨cell_set (cell_set (cell_set h.1 hne) hne) hne, cell_set (cell_set (cell_set h.2.1 hne) hne) hne, cell_set (cell_set (cell_set h.2.2 hne) hne) hne⟩
theorem At.set3 {w : World} {M : Nat} {a b c x y z : Value} {T : TypeId} (h : At w M #[a, b, c] T) : At (((w.setCell ⟨M, 0, none⟩ x).setCell ⟨M, 1, none⟩ y).setCell ⟨M, 2, none⟩ z) M #[x, y, z] T :=
  ((h.set 0 x (by simp)).set 1 y (by simp)).set 2 z (by simp)

/-- the greatest number up to n that fits, or -1 -/
def MostFit (k f b n : Nat) (r : Int) : Prop :=
  (r = -1 ∧ ∀ x, x < 2 ^ k → x ≤ n → ¬ Fits f b x) ∨ ∃ m : Nat, r = m ∧ m < 2 ^ k ∧ m ≤ n ∧ Fits f b m ∧ ∀ x, x < 2 ^ k → x ≤ n → Fits f b x → x ≤ m
def turnN (k f b : Nat) : Nat := nandn (fixedN k f) b
theorem turn_bit (k f b i : Nat) : (turnN k f b).testBit i = ((decide (i < k) && !f.testBit i) && !b.testBit i) := by
  unfold turnN; rw [nandn_bit, fixedN_bit]
theorem top_sub_bit {k x : Nat} (h : x < 2 ^ k) (i : Nat) : (2 ^ k - 1 - x).testBit i = (decide (i < k) && !x.testBit i) := by
  have := Nat.testBit_two_pow_sub_succ h i
  rw [← this]; congr 1; omega
theorem turn_ok {k f b : Nat} (ok : PatOk k f b) : PatOk k f (turnN k f b) :=
  ⟨ok.hk, ok.hf, nandn_lt (fixedN_lt k f), fun i hi => by rw [turn_bit, hi]; simp⟩
theorem turn_fits {k f b x : Nat} (ok : PatOk k f b) (h : x < 2 ^ k) : Fits f (turnN k f b) x ↔ Fits f b (2 ^ k - 1 - x) := by
  constructor
  · intro hx i hi
    have h1 := hx i hi
    rw [turn_bit, hi] at h1
    rw [top_sub_bit h]
    by_cases hik : i < k
    · simp [hik] at h1 ⊢; rw [h1]
    · simp [hik, out_bit ok.hb hik]
  · intro hx i hi
    have h1 := hx i hi
    rw [top_sub_bit h] at h1
    rw [turn_bit, hi, ← h1]
    by_cases hik : i < k
    · simp [hik]
    · simp [hik, out_bit h hik]
theorem most_yes {k f b n m : Nat} (ok : PatOk k f b) (hn : n < 2 ^ k) (h : LeastFit k f (turnN k f b) (2 ^ k - 1 - n) m) : m ≤ 2 ^ k - 1 ∧ MostFit k f b n (2 ^ k - 1 - m : Nat) := by
  rcases h with ⟨h, _⟩ | ⟨m', e, h1, h2, h3, h4⟩
  · omega
  · obtain rfl : m = m' := by omega
    refine ⟨by omega, Or.inr ⟨_, rfl, by omega, by omega, (turn_fits ok h1).1 h3, fun x hx hxn hf => ?_⟩⟩
    have := h4 (2 ^ k - 1 - x) (by omega) (by omega) ((turn_fits ok (by omega)).2 (by rw [show 2 ^ k - 1 - (2 ^ k - 1 - x) = x by omega]; exact hf))
    omega
theorem most_no {k f b n : Nat} (ok : PatOk k f b) (hn : n < 2 ^ k) (h : LeastFit k f (turnN k f b) (2 ^ k - 1 - n) (-1)) : MostFit k f b n (-1) := by
  rcases h with ⟨_, h⟩ | ⟨m', e, h1, h2, h3, h4⟩
  · refine Or.inl ⟨rfl, fun x hx hxn hf => ?_⟩
    exact h (2 ^ k - 1 - x) (by omega) (by omega) ((turn_fits ok (by omega)).2 (by rw [show 2 ^ k - 1 - (2 ^ k - 1 - x) = x by omega]; exact hf))
  · omega

theorem size_drewN' (w : World) (n : Nat) : (w.drewN n).heap.size = w.heap.size := rfl
theorem ret_ib {a b : Int} {c d : Bool} (h : a = b) (h' : c = d) : Ending.returned (.tuple #[.int .i64 a, .bool c]) = .returned (.tuple #[.int .i64 b, .bool d]) := by rw [h, h']
def UpRes (k f b n : Nat) (r : Int) (is : Bool) : Prop := (is = true ∧ ∃ m : Nat, r = m ∧ MostFit k f b n m) ∨ (is = false ∧ r = 0 ∧ MostFit k f b n (-1))
def UpPost (k f b n : Nat) (w : World) (e : Ending) (w' : World) : Prop := ∃ r is, UpRes k f b n r is ∧ e = .returned (.tuple #[.int .i64 r, .bool is]) ∧ Below w.heap.size w w'

set_option maxRecDepth 100000 in
set_option maxHeartbeats 1600000 in
theorem upTo_w (k f b n fx tb tp : Nat) (hn : n ≤ tp) (htp : tp < 4294967296) (hfx : fx < 4294967296)
    (finY : ∀ m : Nat, LeastFit k f tb (tp - n) m → m ≤ tp ∧ MostFit k f b n (tp - m : Nat)) (finN : LeastFit k f tb (tp - n) (-1) → MostFit k f b n (-1))
    (e0 : bits .andNot .i64 (fx : Nat) (b : Nat) = (tb : Nat))
    (cF : ∀ w, Calls Tryz.prog 161 #[patV k f b] w (IntPost (fx : Nat) w))
    (cT : ∀ w, Calls Tryz.prog 187 #[patV k f b] w (IntPost (tp : Nat) w))
    (cM : ∀ (x : Int) (hx : x = (tp - n : Nat)) w, Calls Tryz.prog 181 #[patV k f tb, .int .i64 x] w (FromPost k f tb (tp - n) w)) (w : World) :
    Calls Tryz.prog 201 #[patV k f b, .int .i64 n] w (UpPost k f b n w) := by
  have iw : IntKind.i64.wrap ((tp : Int) - (n : Int)) = ((tp - n : Nat) : Int) := by rw [IntKind.wrap_i64]; omega
  go_enter Tryz.func201, Tryz.ntmps201
  go_wp2
  go_region_held3 (fun w' => w'.cell? ⟨w.heap.size, 0, none⟩ = some (.int .i64 k) ∧ w'.cell? ⟨w.heap.size, 1, none⟩ = some (.int .i64 f) ∧ w'.cell? ⟨w.heap.size, 2, none⟩ = some (.int .i64 b))
    (first
      | exact ⟨by simp, by simp, by simp⟩
      | exact keep3_below (by first | assumption | exact ⟨by simp, by simp, by simp⟩) hbm
      | exact keep3_alloc (by first | assumption | exact keep3_below (by first | assumption | exact ⟨by simp, by simp, by simp⟩) hbm) _
      | exact keep3_set3 (by first | assumption | exact keep3_below (by first | assumption | exact ⟨by simp, by simp, by simp⟩) hbm) (Nat.ne_of_lt (Nat.lt_succ_self _)))
    ((go_at_call 161; (with_reducible refine (cF _).mono ?_); rintro e w' ⟨rfl, hbm⟩
      try (have d1 : At w' (w.heap.size + 1) #[.int .i64 0, .int .i64 0, .int .i64 0] 152 := At.below' hbm (two_new w #[.int .i64 k, .int .i64 f, .int .i64 b] #[.int .i64 0, .int .i64 0, .int .i64 0] 152 152)
           have t0 : w'.cell? ⟨w.heap.size + 1, 0, none⟩ = some (.int .i64 0) := d1.cell 0 rfl
           have t1 : w'.cell? ⟨w.heap.size + 1, 1, none⟩ = some (.int .i64 0) := d1.cell 1 rfl
           have t2 : w'.cell? ⟨w.heap.size + 1, 2, none⟩ = some (.int .i64 0) := d1.cell 2 rfl
           have f0 := d1.free 0
           have f1 := d1.free 1
           have f2 := d1.free 2)))
  · have hb1 : Below w.heap.size w (w'.alloc (.cells #[.int .i64 k, .int .i64 f, .int .i64 tb] 152)) := (((Below.refl _ _).alloc (Nat.le_refl _) _).drew.trans (hbm.mono (by simp))).alloc (by have := hbm.size; simp at this; omega) _
    have dB := At.new w' #[.int .i64 k, .int .i64 f, .int .i64 tb] 152
    have hS : (w'.alloc (.cells #[.int .i64 k, .int .i64 f, .int .i64 tb] 152)).cell? ⟨w.heap.size, 0, none⟩ = some (.int .i64 k) ∧ (w'.alloc (.cells #[.int .i64 k, .int .i64 f, .int .i64 tb] 152)).cell? ⟨w.heap.size, 1, none⟩ = some (.int .i64 f) ∧ (w'.alloc (.cells #[.int .i64 k, .int .i64 f, .int .i64 tb] 152)).cell? ⟨w.heap.size, 2, none⟩ = some (.int .i64 b) := by assumption
    generalize w'.alloc (.cells #[.int .i64 k, .int .i64 f, .int .i64 tb] 152) = w1 at *
    generalize w'.heap.size = B at *
    clear hbm cF
    have hS6 : w1.cell? ⟨w.heap.size, 0, none⟩ = some (.int .i64 k) ∧ w1.cell? ⟨w.heap.size, 1, none⟩ = some (.int .i64 f) ∧ w1.cell? ⟨w.heap.size, 2, none⟩ = some (.int .i64 b) ∧ w1.cell? ⟨B, 0, none⟩ = some (.int .i64 k) ∧ w1.cell? ⟨B, 1, none⟩ = some (.int .i64 f) ∧ w1.cell? ⟨B, 2, none⟩ = some (.int .i64 tb) := ⟨hS.1, hS.2.1, hS.2.2, dB.cell 0 rfl, dB.cell 1 rfl, dB.cell 2 rfl⟩
    clear hS dB
    go_wp2_with fail
    go_region_held3 (fun w' => w'.cell? ⟨w.heap.size, 0, none⟩ = some (.int .i64 k) ∧ w'.cell? ⟨w.heap.size, 1, none⟩ = some (.int .i64 f) ∧ w'.cell? ⟨w.heap.size, 2, none⟩ = some (.int .i64 b) ∧ w'.cell? ⟨B, 0, none⟩ = some (.int .i64 k) ∧ w'.cell? ⟨B, 1, none⟩ = some (.int .i64 f) ∧ w'.cell? ⟨B, 2, none⟩ = some (.int .i64 tb))
      (first
        | exact hS6
        | exact keep6_below (by first | assumption | exact keep6_below (by assumption) hbt) hbm
        | exact keep6_below (by assumption) hbt)
      (first
        | (go_at_call 187; (with_reducible refine (cT _).mono ?_); rintro e w2 ⟨rfl, hbt⟩)
        | (go_at_call 181; refine (cM _ (by first | exact iw | omega) _).mono ?_; rintro e w3 ⟨r, is, hres, rfl, hbm⟩))
    have hb3 : Below w.heap.size w w3 := (hb1.trans (Joins.below_draws _ _ _)).trans ((hbt.mono hb1.size).trans (hbm.mono (by have := hb1.size; have := hbt.size; simp only [size_drewN', World.size_drew] at *; omega)))
    have hSx : w3.cell? ⟨w.heap.size, 0, none⟩ = some (.int .i64 k) ∧ w3.cell? ⟨w.heap.size, 1, none⟩ = some (.int .i64 f) ∧ w3.cell? ⟨w.heap.size, 2, none⟩ = some (.int .i64 b) ∧ w3.cell? ⟨B, 0, none⟩ = some (.int .i64 k) ∧ w3.cell? ⟨B, 1, none⟩ = some (.int .i64 f) ∧ w3.cell? ⟨B, 2, none⟩ = some (.int .i64 tb) := by assumption
    obtain ⟨k0, k1, k2, _, _, _⟩ := hSx
    clear hS6 hbt hbm
    rcases hres with ⟨rfl, m, rfl, hm⟩ | ⟨rfl, rfl, hm⟩
    · obtain ⟨hmt, fin⟩ := finY m hm
      clear cM finY finN hm
      go_wp2_with fail
      refine (cT _).mono ?_
      rintro e w4 ⟨rfl, hbt⟩
      go_wp2_with fail
      go_ret2
      exact ⟨_, _, Or.inl ⟨rfl, _, rfl, fin⟩, ret_ib (by omega) rfl, hb3.trans (hbt.mono hb3.size)⟩
    · have fin := finN hm
      clear cM finY finN hm
      go_wp2_with fail
      go_ret2
      exact ⟨_, _, Or.inr ⟨rfl, rfl, fin⟩, rfl, hb3⟩
  · have hb1 : Below w.heap.size w (((w'.setCell ⟨w.heap.size + 1, 0, none⟩ (.int .i64 k)).setCell ⟨w.heap.size + 1, 1, none⟩ (.int .i64 f)).setCell ⟨w.heap.size + 1, 2, none⟩ (.int .i64 tb)) :=
      ((((((Below.refl _ _).alloc (Nat.le_refl _) _).alloc (by simp) _).drew.trans (hbm.mono (by simp; omega))).setCell (Nat.le_succ _) _).setCell (Nat.le_succ _) _).setCell (Nat.le_succ _) _
    have dB := d1.set3 (x := .int .i64 k) (y := .int .i64 f) (z := .int .i64 tb)
    have hS : (((w'.setCell ⟨w.heap.size + 1, 0, none⟩ (.int .i64 k)).setCell ⟨w.heap.size + 1, 1, none⟩ (.int .i64 f)).setCell ⟨w.heap.size + 1, 2, none⟩ (.int .i64 tb)).cell? ⟨w.heap.size, 0, none⟩ = some (.int .i64 k) ∧ (((w'.setCell ⟨w.heap.size + 1, 0, none⟩ (.int .i64 k)).setCell ⟨w.heap.size + 1, 1, none⟩ (.int .i64 f)).setCell ⟨w.heap.size + 1, 2, none⟩ (.int .i64 tb)).cell? ⟨w.heap.size, 1, none⟩ = some (.int .i64 f) ∧ (((w'.setCell ⟨w.heap.size + 1, 0, none⟩ (.int .i64 k)).setCell ⟨w.heap.size + 1, 1, none⟩ (.int .i64 f)).setCell ⟨w.heap.size + 1, 2, none⟩ (.int .i64 tb)).cell? ⟨w.heap.size, 2, none⟩ = some (.int .i64 b) := by assumption
    clear t0 t1 t2 f0 f1 f2 d1 hbm cF
    generalize ((w'.setCell ⟨w.heap.size + 1, 0, none⟩ (.int .i64 k)).setCell ⟨w.heap.size + 1, 1, none⟩ (.int .i64 f)).setCell ⟨w.heap.size + 1, 2, none⟩ (.int .i64 tb) = w1 at *
    obtain ⟨B, hB⟩ : ∃ B, B = w.heap.size + 1 := ⟨_, rfl⟩
    rw [← hB] at dB ⊢
    clear hB
    have hS6 : w1.cell? ⟨w.heap.size, 0, none⟩ = some (.int .i64 k) ∧ w1.cell? ⟨w.heap.size, 1, none⟩ = some (.int .i64 f) ∧ w1.cell? ⟨w.heap.size, 2, none⟩ = some (.int .i64 b) ∧ w1.cell? ⟨B, 0, none⟩ = some (.int .i64 k) ∧ w1.cell? ⟨B, 1, none⟩ = some (.int .i64 f) ∧ w1.cell? ⟨B, 2, none⟩ = some (.int .i64 tb) := ⟨hS.1, hS.2.1, hS.2.2, dB.cell 0 rfl, dB.cell 1 rfl, dB.cell 2 rfl⟩
    clear hS dB
    go_wp2_with fail
    go_region_held3 (fun w' => w'.cell? ⟨w.heap.size, 0, none⟩ = some (.int .i64 k) ∧ w'.cell? ⟨w.heap.size, 1, none⟩ = some (.int .i64 f) ∧ w'.cell? ⟨w.heap.size, 2, none⟩ = some (.int .i64 b) ∧ w'.cell? ⟨B, 0, none⟩ = some (.int .i64 k) ∧ w'.cell? ⟨B, 1, none⟩ = some (.int .i64 f) ∧ w'.cell? ⟨B, 2, none⟩ = some (.int .i64 tb))
      (first
        | exact hS6
        | exact keep6_below (by first | assumption | exact keep6_below (by assumption) hbt) hbm
        | exact keep6_below (by assumption) hbt)
      (first
        | (go_at_call 187; (with_reducible refine (cT _).mono ?_); rintro e w2 ⟨rfl, hbt⟩)
        | (go_at_call 181; refine (cM _ (by first | exact iw | omega) _).mono ?_; rintro e w3 ⟨r, is, hres, rfl, hbm⟩))
    have hb3 : Below w.heap.size w w3 := (hb1.trans (Joins.below_draws _ _ _)).trans ((hbt.mono hb1.size).trans (hbm.mono (by have := hb1.size; have := hbt.size; simp only [size_drewN', World.size_drew] at *; omega)))
    have hSx : w3.cell? ⟨w.heap.size, 0, none⟩ = some (.int .i64 k) ∧ w3.cell? ⟨w.heap.size, 1, none⟩ = some (.int .i64 f) ∧ w3.cell? ⟨w.heap.size, 2, none⟩ = some (.int .i64 b) ∧ w3.cell? ⟨B, 0, none⟩ = some (.int .i64 k) ∧ w3.cell? ⟨B, 1, none⟩ = some (.int .i64 f) ∧ w3.cell? ⟨B, 2, none⟩ = some (.int .i64 tb) := by assumption
    obtain ⟨k0, k1, k2, _, _, _⟩ := hSx
    clear hS6 hbt hbm
    rcases hres with ⟨rfl, m, rfl, hm⟩ | ⟨rfl, rfl, hm⟩
    · obtain ⟨hmt, fin⟩ := finY m hm
      clear cM finY finN hm
      go_wp2_with fail
      refine (cT _).mono ?_
      rintro e w4 ⟨rfl, hbt⟩
      go_wp2_with fail
      go_ret2
      exact ⟨_, _, Or.inl ⟨rfl, _, rfl, fin⟩, ret_ib (by omega) rfl, hb3.trans (hbt.mono hb3.size)⟩
    · have fin := finN hm
      clear cM finY finN hm
      go_wp2_with fail
      go_ret2
      exact ⟨_, _, Or.inr ⟨rfl, rfl, fin⟩, rfl, hb3⟩
theorem upTo_any (k f b n : Nat) (ok : PatOk k f b) (hn : n < 2 ^ k) (w : World) :
    Calls Tryz.prog 201 #[patV k f b, .int .i64 n] w (UpPost k f b n w) := by
  have hp := ok.hk.pow
  have hk3 := ok.hk.le
  have hfl := fixedN_lt k f
  have ht := turn_ok ok
  have e0 : bits .andNot .i64 (fixedN k f : Nat) (b : Nat) = (turnN k f b : Nat) := bits_andNot (Nat.lt_of_lt_of_le hfl (Nat.le_trans hp (by decide)))
  have cF := fun w => fixed_any k f b hk3 w
  have cT := fun w => top_any k f b hk3 w
  have hnt : 2 ^ k - 1 - n < 2 ^ k := by omega
  have cM : ∀ (x : Int) (hx : x = (2 ^ k - 1 - n : Nat)) w, Calls Tryz.prog 181 #[patV k f (turnN k f b), .int .i64 x] w (FromPost k f (turnN k f b) (2 ^ k - 1 - n) w) := by
    intro x hx w
    subst hx
    exact from_any k f (turnN k f b) (2 ^ k - 1 - n) ht hnt w
  have hfx : fixedN k f < 4294967296 := Nat.lt_of_lt_of_le hfl hp
  have f1 := fun m => most_yes (m := m) ok hn
  have f2 := most_no ok hn
  clear ht hfl
  generalize turnN k f b = tb at *
  generalize fixedN k f = fx at *
  exact upTo_w k f b n fx tb (2 ^ k - 1) (by omega) (by omega) hfx f1 f2 e0 cF cT cM w
end Go.Proofs.YtblahbmhbfcggaaGreatDoor

/- Package val: a span trimmed to a pattern's numbers; a number's rank among them. -/
namespace Go.Proofs.YtblahbmhbfcggaaGreatDoor
open Go.ChangeShapes Go.WideShapes Go.ChangeAt Go.RowKit Go.Joins Go.Deep
set_option linter.unusedVariables false

abbrev spanV (l h : Int) : Value := .agg #[.int .i64 l, .int .i64 h]
/-- from x to y is what fits from l to h -/
structure Trims (k f b l h x y : Nat) : Prop where
  le : x ≤ y
  lo : l ≤ x
  hi : y ≤ h
  lt : y < 2 ^ k
  fx : Fits f b x
  fy : Fits f b y
  all : ∀ z, z < 2 ^ k → l ≤ z → z ≤ h → Fits f b z → x ≤ z ∧ z ≤ y
def TrimRes (k f b l h : Nat) (r s : Int) (is : Bool) : Prop :=
  (is = true ∧ ∃ x y : Nat, r = x ∧ s = y ∧ Trims k f b l h x y) ∨ (is = false ∧ r = 0 ∧ s = 0 ∧ ∀ z, z < 2 ^ k → l ≤ z → z ≤ h → ¬ Fits f b z)
def TrimPost (k f b l h : Nat) (w : World) (e : Ending) (w' : World) : Prop := ∃ r s is, TrimRes k f b l h r s is ∧ e = .returned (.tuple #[spanV r s, .bool is]) ∧ Below w.heap.size w w'

theorem trims_of {k f b l h x y : Nat} (hx : LeastFit k f b l x) (hy : MostFit k f b h y) (hle : x ≤ y) : Trims k f b l h x y := by
  rcases hx with ⟨e, _⟩ | ⟨m, e, h1, h2, h3, h4⟩
  · omega
  · obtain rfl : x = m := by omega
    rcases hy with ⟨e, _⟩ | ⟨m', e', g1, g2, g3, g4⟩
    · omega
    · obtain rfl : y = m' := by omega
      exact ⟨hle, h2, g2, g1, h3, g3, fun z hz hl hh hf => ⟨h4 z hz hl hf, g4 z hz hh hf⟩⟩
theorem no_trims_gt {k f b l h x y : Nat} (hx : LeastFit k f b l x) (hy : MostFit k f b h y) (hgt : ¬ x ≤ y) : ∀ z, z < 2 ^ k → l ≤ z → z ≤ h → ¬ Fits f b z := by
  intro z hz hl hh hf
  rcases hx with ⟨e, _⟩ | ⟨m, e, h1, h2, h3, h4⟩
  · omega
  · rcases hy with ⟨e, _⟩ | ⟨m', e', g1, g2, g3, g4⟩
    · omega
    · have := h4 z hz hl hf
      have := g4 z hz hh hf
      omega
theorem no_trims_lo {k f b l h : Nat} (hx : LeastFit k f b l (-1)) : ∀ z, z < 2 ^ k → l ≤ z → z ≤ h → ¬ Fits f b z := by
  intro z hz hl hh hf
  rcases hx with ⟨e, h1⟩ | ⟨m, e, h1, h2, h3, h4⟩
  · exact h1 z hz hl hf
  · omega
theorem no_trims_hi {k f b l h : Nat} (hy : MostFit k f b h (-1)) : ∀ z, z < 2 ^ k → l ≤ z → z ≤ h → ¬ Fits f b z := by
  intro z hz hl hh hf
  rcases hy with ⟨e, h1⟩ | ⟨m, e, h1, h2, h3, h4⟩
  · exact h1 z hz hh hf
  · omega

theorem three_new (w : World) (c0 c1 c2 : Array Value) (T0 T1 T2 : TypeId) :
    At (((w.alloc (.cells c0 T0)).alloc (.cells c1 T1)).alloc (.cells c2 T2)) w.heap.size c0 T0 ∧ At (((w.alloc (.cells c0 T0)).alloc (.cells c1 T1)).alloc (.cells c2 T2)) (w.heap.size + 1) c1 T1 ∧ At (((w.alloc (.cells c0 T0)).alloc (.cells c1 T1)).alloc (.cells c2 T2)) (w.heap.size + 1 + 1) c2 T2 := by
  refine ⟨((At.new w c0 T0).alloc _).alloc _, ?_, ?_⟩
  · have := (At.new (w.alloc (.cells c0 T0)) c1 T1).alloc (.cells c2 T2)
    simpa only [World.size_alloc] using this
  · have := At.new ((w.alloc (.cells c0 T0)).alloc (.cells c1 T1)) c2 T2
    simpa only [World.size_alloc] using this

set_option maxRecDepth 100000 in
set_option maxHeartbeats 1600000 in
theorem trim_any (k f b l h : Nat) (ok : PatOk k f b) (hl : l < 2 ^ k) (hh : h < 2 ^ k) (w : World) :
    Calls Tryz.prog 183 #[patV k f b, spanV l h] w (TrimPost k f b l h w) := by
  obtain ⟨d0, d1, d2⟩ := three_new w #[.int .i64 k, .int .i64 f, .int .i64 b] #[.int .i64 l, .int .i64 h] #[.int .i64 0, .int .i64 0] 152 166 166
  have cL := fun w => from_any k f b l ok hl w
  have cH := fun w => upTo_any k f b h ok hh w
  have hp := ok.hk.pow
  have hb0 : Below w.heap.size w (((w.alloc (.cells #[.int .i64 k, .int .i64 f, .int .i64 b] 152)).alloc (.cells #[.int .i64 l, .int .i64 h] 166)).alloc (.cells #[.int .i64 0, .int .i64 0] 166)) :=
    (((Below.refl _ _).alloc (Nat.le_refl _) _).alloc (by simp) _).alloc (by simp; omega) _
  go_enter Tryz.func183, Tryz.ntmps183
  go_wp2_with fail
  refine (cL _).mono ?_
  rintro e w1 ⟨r, is, hr, rfl, hb1⟩
  replace d0 := At.below' hb1 d0
  replace d1 := At.below' hb1 d1
  replace d2 := At.below' hb1 d2
  replace hb0 := hb0.trans (hb1.mono hb0.size)
  clear hb1
  have k0 : w1.cell? ⟨w.heap.size, 0, none⟩ = some (.int .i64 k) := d0.cell 0 rfl
  have k1 : w1.cell? ⟨w.heap.size, 1, none⟩ = some (.int .i64 f) := d0.cell 1 rfl
  have k2 : w1.cell? ⟨w.heap.size, 2, none⟩ = some (.int .i64 b) := d0.cell 2 rfl
  have j1 : w1.cell? ⟨w.heap.size + 1, 1, none⟩ = some (.int .i64 h) := d1.cell 1 rfl
  clear d0 d1
  go_wp2_with fail
  refine (cH _).mono ?_
  rintro e w2 ⟨s, it, hs, rfl, hb1⟩
  replace d2 := At.below' hb1 d2
  replace hb0 := hb0.trans (hb1.mono hb0.size)
  clear hb1 k0 k1 k2 j1
  have i0 : w2.cell? ⟨w.heap.size + 1 + 1, 0, none⟩ = some (.int .i64 0) := d2.cell 0 rfl
  have i1 : w2.cell? ⟨w.heap.size + 1 + 1, 1, none⟩ = some (.int .i64 0) := d2.cell 1 rfl
  have f0 := d2.free 0
  have f1 := d2.free 1
  have hD : ∀ x y : Value, At ((w2.setCell ⟨w.heap.size + 1 + 1, 0, none⟩ x).setCell ⟨w.heap.size + 1 + 1, 1, none⟩ y) (w.heap.size + 1 + 1) #[x, y] 166 := fun x y => (d2.set 0 x (by simp)).set 1 y (by simp)
  clear d2
  have hE : ∀ x y : Value, Below w.heap.size w ((w2.setCell ⟨w.heap.size + 1 + 1, 0, none⟩ x).setCell ⟨w.heap.size + 1 + 1, 1, none⟩ y) := fun x y => (hb0.setCell (by show _ ≤ _ + 1 + 1; omega) _).setCell (by show _ ≤ _ + 1 + 1; omega) _
  rcases hr with ⟨rfl, x, rfl, hx⟩ | ⟨rfl, rfl, hx⟩
  · rcases hs with ⟨rfl, y, rfl, hy⟩ | ⟨rfl, rfl, hy⟩
    · by_cases hle : x ≤ y
      · have fin := trims_of hx hy hle
        have t0 : decide (y < x) = false := by simp; omega
        clear hx hy
        go_wp2_with fail
        replace hE := hE (.int .i64 x) (.int .i64 y)
        replace hD := hD (.int .i64 x) (.int .i64 y)
        generalize (w2.setCell ⟨w.heap.size + 1 + 1, 0, none⟩ (.int .i64 x)).setCell ⟨w.heap.size + 1 + 1, 1, none⟩ (.int .i64 y) = w3 at hE hD ⊢
        have c0 : w3.cell? ⟨w.heap.size + 1 + 1, 0, none⟩ = some (.int .i64 x) := hD.cell 0 rfl
        have c1 : w3.cell? ⟨w.heap.size + 1 + 1, 1, none⟩ = some (.int .i64 y) := hD.cell 1 rfl
        exact bodyPost_ret (v := .tuple #[spanV x y, .bool true]) (by simp [results, Tryz.results183, go_sem, c0, c1]) rfl ⟨_, _, _, Or.inl ⟨rfl, _, _, rfl, rfl, fin⟩, rfl, hE⟩
      · have fin := no_trims_gt hx hy hle
        have t0 : decide (y < x) = true := by simp; omega
        clear hx hy
        go_wp2_with fail
        replace hE := hE (.int .i64 0) (.int .i64 0)
        replace hD := hD (.int .i64 0) (.int .i64 0)
        generalize (w2.setCell ⟨w.heap.size + 1 + 1, 0, none⟩ (.int .i64 0)).setCell ⟨w.heap.size + 1 + 1, 1, none⟩ (.int .i64 0) = w3 at hE hD ⊢
        have c0 : w3.cell? ⟨w.heap.size + 1 + 1, 0, none⟩ = some (.int .i64 0) := hD.cell 0 rfl
        have c1 : w3.cell? ⟨w.heap.size + 1 + 1, 1, none⟩ = some (.int .i64 0) := hD.cell 1 rfl
        exact bodyPost_ret (v := .tuple #[spanV 0 0, .bool false]) (by simp [results, Tryz.results183, go_sem, c0, c1]) rfl ⟨_, _, _, Or.inr ⟨rfl, rfl, rfl, fin⟩, rfl, hE⟩
    · have fin := no_trims_hi (l := l) hy
      clear hx hy
      go_wp2_with fail
      replace hE := hE (.int .i64 0) (.int .i64 0)
      replace hD := hD (.int .i64 0) (.int .i64 0)
      generalize (w2.setCell ⟨w.heap.size + 1 + 1, 0, none⟩ (.int .i64 0)).setCell ⟨w.heap.size + 1 + 1, 1, none⟩ (.int .i64 0) = w3 at hE hD ⊢
      have c0 : w3.cell? ⟨w.heap.size + 1 + 1, 0, none⟩ = some (.int .i64 0) := hD.cell 0 rfl
      have c1 : w3.cell? ⟨w.heap.size + 1 + 1, 1, none⟩ = some (.int .i64 0) := hD.cell 1 rfl
      exact bodyPost_ret (v := .tuple #[spanV 0 0, .bool false]) (by simp [results, Tryz.results183, go_sem, c0, c1]) rfl ⟨_, _, _, Or.inr ⟨rfl, rfl, rfl, fin⟩, rfl, hE⟩
  · have fin := no_trims_lo (h := h) hx
    clear hx
    go_wp2_with fail
    replace hE := hE (.int .i64 0) (.int .i64 0)
    replace hD := hD (.int .i64 0) (.int .i64 0)
    generalize (w2.setCell ⟨w.heap.size + 1 + 1, 0, none⟩ (.int .i64 0)).setCell ⟨w.heap.size + 1 + 1, 1, none⟩ (.int .i64 0) = w3 at hE hD ⊢
    have c0 : w3.cell? ⟨w.heap.size + 1 + 1, 0, none⟩ = some (.int .i64 0) := hD.cell 0 rfl
    have c1 : w3.cell? ⟨w.heap.size + 1 + 1, 1, none⟩ = some (.int .i64 0) := hD.cell 1 rfl
    exact bodyPost_ret (v := .tuple #[spanV 0 0, .bool false]) (by simp [results, Tryz.results183, go_sem, c0, c1]) rfl ⟨_, _, _, Or.inr ⟨rfl, rfl, rfl, fin⟩, rfl, hE⟩
end Go.Proofs.YtblahbmhbfcggaaGreatDoor
