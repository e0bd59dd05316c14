/- A number within another one; numbers written over. -/
import Derived.Test.YtncdbjflfhfddaaGreatGTs
namespace Go.Proofs.YtncdbjflfhfddaaGreat
open Go.ChangeShapes Go.WideShapes Go.ChangeAt Go.RowKit Go.Joins Go.Deep
set_option linter.unusedVariables false

set_option maxHeartbeats 800000 in
theorem withinG_any (n m : Nat) (hn : n ≤ 4611686018427387904) (hm0 : 0 < m) (hm : m ≤ 1000000) (w : World) : Calls Tryz.prog 21 #[.int .i64 n, .int .i64 m] w fun e w' => (∃ a : Nat, a < m ∧ e = .returned (.int .i64 a)) ∧ w = w' := by
  have h2 : n % m < m := Nat.mod_lt _ hm0
  have h3 : ((m : Int) == 0) = false := by rw [beq_eq_false_iff_ne]; omega
  have h4 : ¬ (m : Int) = 0 := by omega
  have u1 : IntKind.u64.wrap (n : Int) = (n : Int) := IntWalk.u64_in _ ⟨by omega, by omega⟩
  have u2 : IntKind.u64.wrap (m : Int) = (m : Int) := IntWalk.u64_in _ ⟨by omega, by omega⟩
  go_enter Tryz.func21, Tryz.ntmps21
  go_wp2
  go_ret
  exact ⟨⟨n % m, h2, by simp⟩, rfl⟩
def SpoilP (base : Nat) (w : World) (e : Ending) (w' : World) : Prop := e = .returned (.tuple #[]) ∧ Below base w w'
set_option maxHeartbeats 1600000 in
theorem numbersG_any (base : Nat) (l : List Int) (v : Value) (hl : l.length ≤ 1000000) (w : World) (h : RowZ base l v w) : Calls Tryz.prog 18 #[v] w (SpoilP base w) := by
  obtain ⟨n, hn⟩ : ∃ n, n = l.length := ⟨_, rfl⟩
  unfold RowZ at h
  rw [← hn] at h hl
  obtain ⟨q, c, rfl, hq⟩ : ∃ q c, v = .slice q n c ∧ (0 < n → ∃ g cs, q = some ⟨g, 0, none⟩ ∧ base ≤ g ∧ At w g cs 3 ∧ n ≤ cs.size) := by
    obtain ⟨_, ⟨rfl, h0⟩ | ⟨g, cap, cur, rfl, hbb, hg, hnc, hm, hc, hx⟩⟩ := h
    · exact ⟨none, 0, by rw [h0], fun hp => by omega⟩
    · exact ⟨_, cap, rfl, fun _ => ⟨g, cur, rfl, hbb, hg, by omega⟩⟩
  clear h hn
  go_enter Tryz.func18, Tryz.ntmps18
  go_wp2
  go_loopw [2] (fun v wr => ∃ i : Nat, i ≤ n ∧ v = .int .i64 (i : Nat) ∧ Below base w wr ∧ (0 < n → ∃ g cs, q = some ⟨g, 0, none⟩ ∧ base ≤ g ∧ At wr g cs 3 ∧ n ≤ cs.size)) (fun v _ => n - (intOf v).toNat)
  case atStart => exact ⟨0, Nat.zero_le _, rfl, Below.refl _ _, hq⟩
  case round =>
    clear hq
    obtain ⟨i, hi, rfl, hbr, hq⟩ := hrel
    by_cases hlt : i < n
    · obtain ⟨g, cs, rfl, hb, hA, hns⟩ := hq (by omega)
      obtain ⟨v0, hv0⟩ : ∃ v0, cs[i]? = some v0 := ⟨_, Array.getElem?_eq_getElem (by omega)⟩
      have c1 : wr.cell? ⟨g, i, none⟩ = some v0 := hA.cell i hv0
      have f1 := At.free hA i
      have hj3 : (i : Int) < (n : Int) := by omega
      have H2 := Lib.hid (And.intro (hbr.setCell (p := ⟨g, i, none⟩) hb (.int .i64 (-99))) (At.set hA i (.int .i64 (-99)) (by omega)))
      clear hbr hA hv0 hq
      go_wp2_with fail
      go_roundw
      case rel => exact ⟨i + 1, by omega, by go_num, H2.out.1, fun _ => ⟨g, _, rfl, hb, H2.out.2, by simpa using hns⟩⟩
      case measure => simp [intOf]; omega
    · obtain rfl : i = n := by omega
      clear hq
      go_wp2_with fail
      go_end0
      exact ⟨rfl, hbr⟩
end Go.Proofs.YtncdbjflfhfddaaGreat
