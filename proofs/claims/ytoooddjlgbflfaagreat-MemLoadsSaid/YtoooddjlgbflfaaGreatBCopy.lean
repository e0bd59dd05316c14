/- Rows of bytes copied, and written over; the bytes of any scalar that may be, and of one that may not. -/
import Derived.Test.YtoooddjlgbflfaaGreatBPutN
import Derived.Test.YtoooddjlgbflfaaGreatBRPut
import Derived.Deep.DeepMust
namespace Go.Proofs.YtoooddjlgbflfaaGreat
open Go.ChangeShapes Go.WideShapes Go.ChangeAt Go.RowKit Go.Joins Go.Deep
set_option linter.unusedVariables false

theorem mayS_kind {k : Int} {s : SC} (h : mayS k s = true) : 1 ≤ k ∧ k ≤ 7 := by
  unfold mayS at h
  split at h
  · omega
  · simp [mayN] at h; omega
theorem Put_any (big : Bool) (p k : Int) (hp : mayA p) (s : SC) (hm : mayS k s = true) (w : World) :
    Calls Tryz.prog 65 #[.agg #[.bool big, .int .i64 p], .int .i64 k, scV s] w (PutPost (putL big (sizN p k) s) (sizN p k) w) := by
  by_cases hs : 0 < s.b
  · exact Put_p big p k hp (mayS_kind hm) s hm hs w
  · exact Put_n big p k hp (mayS_kind hm) s hm hs w
theorem mayS_cases {k : Int} {s : SC} (h : mayS k s = true) : (∃ n, s = ⟨false, n, 0, 0⟩) ∨ s = ⟨true, 0, 0, 0⟩ ∨ ∃ b o, 0 < b ∧ s = ⟨true, 0, b, o⟩ := by
  obtain ⟨p, n, b, o⟩ := s
  unfold mayS at h
  split at h
  · by_cases hb : b = 0
    · subst hb
      have : (⟨p, n, 0, o⟩ : SC) = ⟨true, 0, 0, 0⟩ := eqS_iff.1 (by simpa [mayP] using h)
      exact Or.inr (Or.inl this)
    · simp [mayP, hb, upTo] at h
      obtain ⟨⟨⟨rfl, rfl⟩, h1⟩, h2⟩ := h
      exact Or.inr (Or.inr ⟨b, o, by omega, rfl⟩)
  · simp [mayN] at h
    obtain ⟨⟨⟨⟨⟨_, rfl⟩, rfl⟩, rfl⟩, _⟩, _⟩ := h
    exact Or.inl ⟨n, rfl⟩
theorem rPut_any (big : Bool) (p k : Int) (hp : mayA p) (s : SC) (hm : mayS k s = true) (w : World) :
    Calls Tryz.prog 64 #[.agg #[.bool big, .int .i64 p], .int .i64 k, scV s] w (RowPost (putL big (sizN p k) s) (sizN p k) w) := by
  rcases mayS_cases hm with ⟨n, rfl⟩ | rfl | ⟨b, o, hb, rfl⟩
  · exact rPut_n big p k hp (mayS_kind hm) n w
  · exact rPut_z big p k hp (mayS_kind hm) w
  · exact rPut_p big p k hp (mayS_kind hm) b o hb w
set_option maxHeartbeats 800000 in
theorem Put_no (big : Bool) (p k : Int) (s : SC) (h : ¬ (mayA p ∧ mayS k s = true)) (w : World) :
    Calls Tryz.prog 65 #[.agg #[.bool big, .int .i64 p], .int .i64 k, scV s] w fun e w' => e = .returned (.tuple #[.slice none 0 0, .int .i64 1]) ∧ Below w.heap.size w w' := by
  by_cases h1 : mayA p ∧ 1 ≤ k ∧ k ≤ 7
  · have hm : mayS k s = false := by
      cases hq : mayS k s
      · rfl
      · exact absurd ⟨h1.1, hq⟩ h
    have cS := fun w => Size_yes big p k h1.1 h1.2 w
    have cI := fun w => isScalar_any k s w
    rw [hm] at cI
    obtain ⟨ps, sn, sb, so⟩ := s
    unfold scV at *
    dsimp only at *
    generalize sizN p k = n at *
    have dS := At.new2 w (.cells #[.bool big, .int .i64 p] 38) #[.bool ps, .int .i64 sn, .int .i64 sb, .int .i64 so] 40
    have hb0 := below_box2 w (.cells #[.bool big, .int .i64 p] 38) (.cells #[.bool ps, .int .i64 sn, .int .i64 sb, .int .i64 so] 40)
    clear hm h h1
    go_enter Tryz.func65, Tryz.ntmps65
    go_wp2_with fail
    refine (cS _).mono ?_
    rintro e w1 ⟨rfl, hb1⟩
    replace dS := At.below' hb1 dS
    replace hb0 := hb0.trans (hb1.mono hb0.size)
    clear hb1
    have s0 : w1.cell? ⟨w.heap.size + 1, 0, none⟩ = some (.bool ps) := dS.cell 0 rfl
    have s1 : w1.cell? ⟨w.heap.size + 1, 1, none⟩ = some (.int .i64 sn) := dS.cell 1 rfl
    have s2 : w1.cell? ⟨w.heap.size + 1, 2, none⟩ = some (.int .i64 sb) := dS.cell 2 rfl
    have s3 : w1.cell? ⟨w.heap.size + 1, 3, none⟩ = some (.int .i64 so) := dS.cell 3 rfl
    go_wp2_with fail
    refine (cI _).mono ?_
    rintro e w2 ⟨rfl, hb1⟩
    replace hb0 := hb0.trans (hb1.mono hb0.size)
    clear hb1 s0 s1 s2 s3 dS
    go_wp2_with fail
    go_ret2
    exact ⟨rfl, hb0⟩
  · have cS := fun w => Size_no big p k h1 w
    obtain ⟨ps, sn, sb, so⟩ := s
    unfold scV at *
    dsimp only at *
    have hb0 := below_box2 w (.cells #[.bool big, .int .i64 p] 38) (.cells #[.bool ps, .int .i64 sn, .int .i64 sb, .int .i64 so] 40)
    clear h h1
    go_enter Tryz.func65, Tryz.ntmps65
    go_wp2_with fail
    refine (cS _).mono ?_
    rintro e w1 ⟨rfl, hb1⟩
    replace hb0 := hb0.trans (hb1.mono hb0.size)
    clear hb1
    go_wp2_with fail
    go_ret2
    exact ⟨rfl, hb0⟩

/-- a block that holds a row of bytes, with spare room behind it -/
def BRow (w : World) (B : Nat) (xs : List BY) : Prop :=
  ∃ cs, At w B cs 87 ∧ xs.length * 5 ≤ cs.size ∧ ∀ i, i < xs.length → ∀ c, c < 5 → cs[i * 5 + c]? = (byCells (xs.getD i default))[c]?
theorem BRow.of_at {w : World} {B : Nat} {xs : List BY} (h : At w B (byC xs) 87) : BRow w B xs :=
  ⟨_, h, by rw [byC_size]; exact Nat.le_refl _, fun i hi c hc => by simp only [byC, List.getElem?_toArray]; exact flat_get xs i hi c hc⟩
theorem BRow.lt {w : World} {B : Nat} {xs : List BY} (h : BRow w B xs) : B < w.heap.size := by obtain ⟨cs, h, _⟩ := h; exact h.lt
theorem BRow.below {w w' : World} {B C : Nat} {xs : List BY} (h : BRow w B xs) (hb : Below C w w') (hC : B < C) : BRow w' B xs := by
  obtain ⟨cs, h, h1⟩ := h; exact ⟨cs, h.below hb hC, h1⟩
theorem BRow.below' {w w' : World} {B : Nat} {xs : List BY} (hb : Below w.heap.size w w') (h : BRow w B xs) : BRow w' B xs := h.below hb h.lt
theorem BRow.isBys {w : World} {B n : Nat} {xs : List BY} (h : BRow w B xs) (hn : xs.length = n) (hm : n ≤ 1000) : IsBys w (some ⟨B, 0, none⟩) n xs := by
  obtain ⟨cs, h, _, h2⟩ := h
  refine ⟨hm, hn, fun _ => ⟨B, 0, rfl, h.lt, fun i hi => ?_⟩⟩
  simp only [Nat.zero_add]
  have hh := fun c hc => h2 i (by omega) c hc
  exact ⟨h.cell _ (hh 0 (by decide)), h.cell _ (hh 1 (by decide)), h.cell _ (hh 2 (by decide)), h.cell _ (hh 3 (by decide)), h.cell _ (hh 4 (by decide))⟩
theorem set5_get (cs : Array Value) (k : Nat) (hk : k + 4 < cs.size) (x : BY) (m : Nat) : (set5 cs k x)[m]? = if m = k + 4 then some (.int .i64 x.i) else if m = k + 3 then some (.int .i64 x.o) else if m = k + 2 then some (.int .i64 x.b) else if m = k + 1 then some (.int .i64 x.n) else if m = k then some (.int .i64 x.st) else cs[m]? := by
  unfold set5
  simp only [Array.set!_eq_setIfInBounds, Array.getElem?_setIfInBounds, Array.size_setIfInBounds]
  by_cases h4 : m = k + 4
  · subst h4; simp [hk]
  by_cases h3 : m = k + 3
  · subst h3; simp; omega
  by_cases h2 : m = k + 2
  · subst h2; simp; omega
  by_cases h1 : m = k + 1
  · subst h1; simp; omega
  by_cases h0 : m = k
  · subst h0; simp; omega
  simp [h0, h1, h2, h3, h4, Ne.symm h0, Ne.symm h1, Ne.symm h2, Ne.symm h3, Ne.symm h4]
theorem set5_size (cs : Array Value) (k : Nat) (x : BY) : (set5 cs k x).size = cs.size := by simp [set5]
/-- what the walk asks of a byte stored, and what it leaves -/
theorem BRow.store {w : World} {B : Nat} {xs : List BY} (h : BRow w B xs) (i : Nat) (hi : i < xs.length) (x : BY) : ∃ v0 v1 v2 v3 v4,
    ((w.cell? ⟨B, i * 5, none⟩ = some v0 ∧ w.frozen? ⟨B, i * 5, none⟩ = false)
    ∧ ((w.setCell ⟨B, i * 5, none⟩ (.int .i64 x.st)).cell? ⟨B, i * 5 + 1, none⟩ = some v1 ∧ (w.setCell ⟨B, i * 5, none⟩ (.int .i64 x.st)).frozen? ⟨B, i * 5 + 1, none⟩ = false)
    ∧ (((w.setCell ⟨B, i * 5, none⟩ (.int .i64 x.st)).setCell ⟨B, i * 5 + 1, none⟩ (.int .i64 x.n)).cell? ⟨B, i * 5 + 2, none⟩ = some v2 ∧ ((w.setCell ⟨B, i * 5, none⟩ (.int .i64 x.st)).setCell ⟨B, i * 5 + 1, none⟩ (.int .i64 x.n)).frozen? ⟨B, i * 5 + 2, none⟩ = false)
    ∧ ((((w.setCell ⟨B, i * 5, none⟩ (.int .i64 x.st)).setCell ⟨B, i * 5 + 1, none⟩ (.int .i64 x.n)).setCell ⟨B, i * 5 + 2, none⟩ (.int .i64 x.b)).cell? ⟨B, i * 5 + 3, none⟩ = some v3 ∧ (((w.setCell ⟨B, i * 5, none⟩ (.int .i64 x.st)).setCell ⟨B, i * 5 + 1, none⟩ (.int .i64 x.n)).setCell ⟨B, i * 5 + 2, none⟩ (.int .i64 x.b)).frozen? ⟨B, i * 5 + 3, none⟩ = false)
    ∧ (((((w.setCell ⟨B, i * 5, none⟩ (.int .i64 x.st)).setCell ⟨B, i * 5 + 1, none⟩ (.int .i64 x.n)).setCell ⟨B, i * 5 + 2, none⟩ (.int .i64 x.b)).setCell ⟨B, i * 5 + 3, none⟩ (.int .i64 x.o)).cell? ⟨B, i * 5 + 4, none⟩ = some v4 ∧ ((((w.setCell ⟨B, i * 5, none⟩ (.int .i64 x.st)).setCell ⟨B, i * 5 + 1, none⟩ (.int .i64 x.n)).setCell ⟨B, i * 5 + 2, none⟩ (.int .i64 x.b)).setCell ⟨B, i * 5 + 3, none⟩ (.int .i64 x.o)).frozen? ⟨B, i * 5 + 4, none⟩ = false))
    ∧ BRow (((((w.setCell ⟨B, i * 5, none⟩ (.int .i64 x.st)).setCell ⟨B, i * 5 + 1, none⟩ (.int .i64 x.n)).setCell ⟨B, i * 5 + 2, none⟩ (.int .i64 x.b)).setCell ⟨B, i * 5 + 3, none⟩ (.int .i64 x.o)).setCell ⟨B, i * 5 + 4, none⟩ (.int .i64 x.i)) B (xs.set i x) := by
  obtain ⟨cs, h, h1, h2⟩ := h
  have hk : i * 5 + 4 < cs.size := by omega
  refine ⟨_, _, _, _, _, store5 h (i * 5) hk (.int .i64 x.st) (.int .i64 x.n) (.int .i64 x.b) (.int .i64 x.o) (.int .i64 x.i), _, store5_at h (i * 5) hk x, by rw [set5_size]; simpa using h1, fun j hj c hc => ?_⟩
  rw [set5_get cs (i * 5) hk]
  have hj' : j < xs.length := by simpa using hj
  by_cases e : j = i
  · subst e
    have e2 : (xs.set j x).getD j default = x := by simp [List.getD, hj']
    rw [e2]
    have : c = 0 ∨ c = 1 ∨ c = 2 ∨ c = 3 ∨ c = 4 := by omega
    rcases this with rfl | rfl | rfl | rfl | rfl <;> simp [byCells]
  · have e2 : (xs.set i x).getD j default = xs.getD j default := by
      simp only [List.getD_eq_getElem?_getD]
      rw [List.getElem?_set_ne (by omega)]
    rw [e2, if_neg (by omega), if_neg (by omega), if_neg (by omega), if_neg (by omega), if_neg (by omega)]
    exact h2 j hj' c hc
end Go.Proofs.YtoooddjlgbflfaaGreat
