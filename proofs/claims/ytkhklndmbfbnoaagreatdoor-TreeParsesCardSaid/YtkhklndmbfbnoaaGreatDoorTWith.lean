/- Where words stand. -/
import Derived.Test.YtkhklndmbfbnoaaGreatDoorLText
import Derived.Test.YtkhklndmbfbnoaaGreatDoorPgOrd
import Derived.Test.YtkhklndmbfbnoaaGreatDoorLJoinC
namespace Go.Proofs.YtkhklndmbfbnoaaGreatDoor
set_option linter.unusedVariables false

theorem scan_pos : ∀ (f : Nat) (p : Bool) (l : List UInt8) (a : Nat), ∀ t ∈ (scan f p l a).1, a ≤ t.2 ∧ t.2 + t.1.length ≤ a + l.length := by
  intro f
  induction f with
  | zero => intro p l a t ht; simp [scan] at ht
  | succ f ih =>
    intro p l a t ht
    have hg := gapN_le p l
    have hl := longN_le (l.drop (gapN p l))
    rw [List.length_drop] at hl
    unfold scan at ht
    split at ht
    · simp at ht
    · simp only [List.mem_cons] at ht
      rcases ht with rfl | ht
      · simp only [List.length_take, List.length_drop]; omega
      · have := ih _ _ _ t ht
        rw [List.length_drop] at this
        omega
theorem tellW_pos (l : List UInt8) : ∀ t ∈ (tellW l).1, t.2 + t.1.length ≤ l.length ∧ l.length ≤ 2000 := by
  unfold tellW
  split
  · simp
  · split
    · simp
    · intro t ht
      have := scan_pos _ _ _ _ t ht
      omega
end Go.Proofs.YtkhklndmbfbnoaaGreatDoor

/- A call's own nodes, written over. -/
namespace Go.Proofs.YtkhklndmbfbnoaaGreatDoor
open Go.ChangeShapes Go.WideShapes Go.ChangeAt Go.RowKit Go.Joins Go.Deep
set_option linter.unusedVariables false

/-- a block of numbers with so many cells -/
def IBlk (w : World) (b n : Nat) : Prop := ∃ cs, At w b cs 3 ∧ n ≤ cs.size
/-- blocks of numbers are of numbers still, all others as they were -/
def SpI (w w' : World) : Prop := (∀ b n, IBlk w b n → IBlk w' b n) ∧ ∀ b cs t, t ≠ 3 → At w b cs t → At w' b cs t
theorem SpI.refl (w : World) : SpI w w := ⟨fun _ _ h => h, fun _ _ _ _ h => h⟩
theorem SpI.trans {a b c : World} (h : SpI a b) (k : SpI b c) : SpI a c := ⟨fun x n hh => k.1 x n (h.1 x n hh), fun x cs t ht hh => k.2 x cs t ht (h.2 x cs t ht hh)⟩
theorem SpI.set {w : World} {b n : Nat} (h : IBlk w b n) (i : Nat) (hi : i < n) (v : Value) : SpI w (w.setCell ⟨b, i, none⟩ v) := by
  obtain ⟨cs, hA, hn⟩ := h
  have hO := (Onl.refl b w).set i v
  refine ⟨fun x m hx => ?_, fun x cs' t ht hx => hO.at hx (at_other hx hA ht)⟩
  obtain ⟨cs', hA', hm⟩ := hx
  by_cases e : x = b
  · subst e
    have := at_type hA hA'
    obtain rfl : cs = cs' := by
      have h1 := hA.symm.trans hA'
      injection h1 with h1
      injection h1
    exact ⟨_, At.set hA i v (by omega), by simpa using hm⟩
  · exact ⟨cs', hO.at hA' e, hm⟩
def NumP (base : Nat) (w : World) (e : Ending) (w' : World) : Prop := e = .returned (.tuple #[]) ∧ Below base w w' ∧ SpI w w'
set_option maxHeartbeats 1600000 in
theorem numbers_sp (q : Option Addr) (n c base : Nat) (w : World) (hn : n ≤ maxLen) (h : 0 < n → ∃ b, q = some ⟨b, 0, none⟩ ∧ IBlk w b n ∧ base ≤ b) : Calls Tryz.prog 37 #[.slice q n c] w (NumP base w) := by
  unfold maxLen at hn
  go_enter Tryz.func37, Tryz.ntmps37
  go_wp2
  go_loopw [2] (fun v wr => ∃ i : Nat, i ≤ n ∧ v = .int .i64 (i : Nat) ∧ Below base w wr ∧ SpI w wr) (fun v _ => n - (intOf v).toNat)
  case atStart => exact ⟨0, Nat.zero_le _, rfl, Below.refl _ _, SpI.refl w⟩
  case round =>
    obtain ⟨i, hi, rfl, hbr, hsp⟩ := hrel
    by_cases hlt : i < n
    · obtain ⟨b, rfl, hI, hb⟩ := h (by omega)
      have hI2 := hsp.1 b n hI
      obtain ⟨cs, hA, hns⟩ := id hI2
      obtain ⟨v0, hv0⟩ : ∃ v0, cs[i]? = some v0 := ⟨_, Array.getElem?_eq_getElem (by omega)⟩
      have c1 : wr.cell? ⟨b, i, none⟩ = some v0 := hA.cell i hv0
      have f1 := At.free hA i
      have hj3 : (i : Int) < (n : Int) := by omega
      have H2 := Lib.hid (And.intro (hbr.setCell (p := ⟨b, i, none⟩) hb (.int .i64 (-99))) (hsp.trans (SpI.set hI2 i hlt (.int .i64 (-99)))))
      clear hbr hsp hI hI2 hA hns hv0 h
      go_wp2_with fail
      go_roundw
      case rel => exact ⟨i + 1, by omega, by go_num, H2.out.1, H2.out.2⟩
      case measure => simp [intOf]; omega
    · obtain rfl : i = n := by omega
      clear h
      go_wp2_with fail
      go_end0
      exact ⟨rfl, hbr, hsp⟩
/-- a node's parts, to be written over -/
def PartC (w : World) (base : Nat) (cs : Array Value) (k : Nat) : Prop := ∃ q m c, cs[k * 4 + 3]? = some (.slice q m c) ∧ m ≤ maxLen ∧ (0 < m → ∃ b, q = some ⟨b, 0, none⟩ ∧ IBlk w b m ∧ base ≤ b)
theorem store4at {w : World} {g k : Nat} {cs : Array Value} {t : TypeId} (h : At w g cs t) (hk : k + 4 ≤ cs.size) (x0 x1 x2 x3 : Value) : (∃ a, w.cell? ⟨g, k, none⟩ = some a) ∧ w.frozen? ⟨g, k, none⟩ = false ∧ (∃ a, (w.setCell ⟨g, k, none⟩ x0).cell? ⟨g, k + 1, none⟩ = some a) ∧ (w.setCell ⟨g, k, none⟩ x0).frozen? ⟨g, k + 1, none⟩ = false ∧ (∃ a, ((w.setCell ⟨g, k, none⟩ x0).setCell ⟨g, k + 1, none⟩ x1).cell? ⟨g, k + 2, none⟩ = some a) ∧ ((w.setCell ⟨g, k, none⟩ x0).setCell ⟨g, k + 1, none⟩ x1).frozen? ⟨g, k + 2, none⟩ = false ∧ (∃ a, (((w.setCell ⟨g, k, none⟩ x0).setCell ⟨g, k + 1, none⟩ x1).setCell ⟨g, k + 2, none⟩ x2).cell? ⟨g, k + 3, none⟩ = some a) ∧ (((w.setCell ⟨g, k, none⟩ x0).setCell ⟨g, k + 1, none⟩ x1).setCell ⟨g, k + 2, none⟩ x2).frozen? ⟨g, k + 3, none⟩ = false ∧ ∃ cs', At ((((w.setCell ⟨g, k, none⟩ x0).setCell ⟨g, k + 1, none⟩ x1).setCell ⟨g, k + 2, none⟩ x2).setCell ⟨g, k + 3, none⟩ x3) g cs' t ∧ cs'.size = cs.size ∧ ∀ j, k + 4 ≤ j → cs'[j]? = cs[j]? := by
  have h1 := At.set h k x0 (by omega)
  have h2 := At.set h1 (k + 1) x1 (by simp; omega)
  have h3 := At.set h2 (k + 2) x2 (by simp; omega)
  have h4 := At.set h3 (k + 3) x3 (by simp; omega)
  refine ⟨⟨_, h.cell k (Array.getElem?_eq_getElem (by omega))⟩, At.free h k, ⟨_, h1.cell (k + 1) (Array.getElem?_eq_getElem (by simp; omega))⟩, At.free h1 _, ⟨_, h2.cell (k + 2) (Array.getElem?_eq_getElem (by simp; omega))⟩, At.free h2 _, ⟨_, h3.cell (k + 3) (Array.getElem?_eq_getElem (by simp; omega))⟩, At.free h3 _, _, h4, by simp, fun j hj => ?_⟩
  simp only [Array.set!_eq_setIfInBounds, Array.getElem?_setIfInBounds]
  rw [if_neg (by omega), if_neg (by omega), if_neg (by omega), if_neg (by omega)]
set_option maxHeartbeats 1600000 in
theorem nodes_sp (base : Nat) (nv : Value) (X : List NX) (w : World) (h : NRow (fun _ => False) w base nv X) : Calls Tryz.prog 15 #[nv] w fun e w' => e = .returned (.tuple #[]) ∧ Below base w w' := by
  obtain ⟨q, cap, n, hv, hn, hX⟩ : ∃ q cap n, nv = .slice q n cap ∧ n ≤ maxLen ∧ (0 < n → ∃ g cs, q = some ⟨g, 0, none⟩ ∧ base ≤ g ∧ At w g cs 83 ∧ n * 4 ≤ cs.size ∧ ∀ k, k < n → PartC w base cs k) := by
    obtain ⟨⟨hlen, ⟨rfl, h0⟩ | ⟨g, cap, cur, rfl, hbb, hg, hn, hm, hc, hx⟩⟩, hP⟩ := h
    · exact ⟨_, _, 0, rfl, Nat.zero_le _, fun h => absurd h (by omega)⟩
    · refine ⟨_, cap, X.length, rfl, Nat.le_trans hn hm, fun _ => ⟨g, cur, rfl, hbb, hg, by omega, fun k hk => ?_⟩⟩
      have hxk : X[k]? = some X[k] := List.getElem?_eq_getElem hk
      obtain ⟨_, _, _, c3⟩ := ndC_get X k X[k] hxk
      rw [← hx, List.getElem?_take, if_pos (by omega)] at c3
      refine ⟨X[k].q, X[k].x.ps.length, X[k].c, by simpa using c3, ?_, fun hp => ?_⟩
      · rcases hP _ (List.getElem_mem hk) with ⟨h1, _⟩ | ⟨h1, _⟩
        · rw [h1]; exact Nat.zero_le _
        · exact h1.2
      · rcases hP _ (List.getElem_mem hk) with ⟨h1, _⟩ | ⟨h1, b, cs, e1, e2, _, hA, h5⟩
        · rw [h1] at hp; exact absurd hp (by simp)
        · refine ⟨b, e1, ⟨cs, hA, ?_⟩, e2⟩
          rcases Nat.lt_or_ge (X[k].x.ps.length - 1) cs.size with h6 | h6
          · omega
          · have := h5 (X[k].x.ps.length - 1) (by omega)
            rw [Array.getElem?_eq_none h6] at this
            cases this
  subst hv
  clear h
  unfold maxLen at hn
  go_enter Tryz.func15, Tryz.ntmps15
  go_wp2
  go_loopw [2] (fun v wr => ∃ i : Nat, i ≤ n ∧ v = .int .i64 (i : Nat) ∧ Below base w wr ∧ (0 < n → ∃ g cs, q = some ⟨g, 0, none⟩ ∧ base ≤ g ∧ At wr g cs 83 ∧ n * 4 ≤ cs.size ∧ ∀ k, i ≤ k → k < n → PartC wr base cs k)) (fun v _ => n - (intOf v).toNat)
  case atStart => exact ⟨0, Nat.zero_le _, rfl, Below.refl _ _, fun h0 => by obtain ⟨g, cs, a, b, c, d, e⟩ := hX h0; exact ⟨g, cs, a, b, c, d, fun k _ hk => e k hk⟩⟩
  case round =>
    clear hX
    obtain ⟨i, hi, rfl, hbr, hX⟩ := hrel
    by_cases hlt : i < n
    · obtain ⟨g, cs, rfl, hbg, hA, hcs, hk⟩ := hX (by omega)
      obtain ⟨qp, m, c, hc3, hm, hpp⟩ := hk i (Nat.le_refl _) hlt
      have c3 : wr.cell? ⟨g, i * 4 + 3, none⟩ = some (.slice qp m c) := hA.cell _ hc3
      have hj3 : (i : Int) < (n : Int) := by omega
      have cN := numbers_sp qp m c base wr hm hpp
      have HK := Lib.hid (And.intro hA (And.intro hcs (And.intro hk (And.intro hbr hbg))))
      clear hX hk hA hcs hc3 hpp hbr hbg
      go_wp2_with fail
      refine cN.mono ?_
      rintro e w2 ⟨rfl, hb2, hs2⟩
      have hA2 := hs2.2 _ _ _ (by decide) HK.out.1
      have hst := store4at hA2 (k := i * 4) (by have := HK.out.2.1; omega) (.int .i64 (-9)) (.string ⟨#[]⟩) (.int .i64 0) (.slice none 0 0)
      obtain ⟨⟨d0, e0⟩, f0, ⟨d1, e1⟩, f1, ⟨d2, e2⟩, f2, ⟨d3, e3⟩, f3, cs', hA3, hsz, hsame⟩ := hst
      have hO : Onl g w2 ((((w2.setCell ⟨g, i * 4, none⟩ (.int .i64 (-9))).setCell ⟨g, i * 4 + 1, none⟩ (.string ⟨#[]⟩)).setCell ⟨g, i * 4 + 2, none⟩ (.int .i64 0)).setCell ⟨g, i * 4 + 3, none⟩ (.slice none 0 0)) := ((((Onl.refl g w2).set _ _).set _ _).set _ _).set _ _
      have fin : ∀ w9, w9 = ((((w2.setCell ⟨g, i * 4, none⟩ (.int .i64 (-9))).setCell ⟨g, i * 4 + 1, none⟩ (.string ⟨#[]⟩)).setCell ⟨g, i * 4 + 2, none⟩ (.int .i64 0)).setCell ⟨g, i * 4 + 3, none⟩ (.slice none 0 0)) → Below base w w9 ∧ (0 < n → ∃ g' cs, (some (⟨g, 0, none⟩ : Addr)) = some ⟨g', 0, none⟩ ∧ base ≤ g' ∧ At w9 g' cs 83 ∧ n * 4 ≤ cs.size ∧ ∀ k, i + 1 ≤ k → k < n → PartC w9 base cs k) := fun w9 h9 => by
        subst h9
        refine ⟨(HK.out.2.2.2.1.trans hb2).trans (hO.1.mono HK.out.2.2.2.2), fun _ => ⟨g, cs', rfl, HK.out.2.2.2.2, hA3, by rw [hsz]; exact HK.out.2.1, fun k hk1 hk2 => ?_⟩⟩
        obtain ⟨q9, m9, c9, x1, x2, x3⟩ := HK.out.2.2.1 k (by omega) hk2
        refine ⟨q9, m9, c9, by rw [hsame _ (by omega)]; exact x1, x2, fun hp => ?_⟩
        obtain ⟨b, y1, y2, y3⟩ := x3 hp
        obtain ⟨ci, z1, z2⟩ := hs2.1 b m9 y2
        exact ⟨b, y1, ⟨ci, hO.at z1 (at_other z1 hA2 (by decide)), z2⟩, y3⟩
      have FIN := Lib.hid fin
      clear fin hO hA2 hA3 hs2 hb2 hsame hsz cN c3
      go_wp2_with fail
      go_roundw
      case rel => exact ⟨i + 1, by omega, by go_num, (FIN.out _ rfl).1, (FIN.out _ rfl).2⟩
      case measure => simp [intOf]; omega
    · obtain rfl : i = n := by omega
      clear hX
      go_wp2_with fail
      go_end0
      exact ⟨rfl, hbr⟩
end Go.Proofs.YtkhklndmbfbnoaaGreatDoor

/- A number within another one. -/
namespace Go.Proofs.YtkhklndmbfbnoaaGreatDoor
open Go.ChangeShapes Go.WideShapes Go.ChangeAt Go.RowKit Go.Joins Go.Deep
set_option linter.unusedVariables false

set_option maxHeartbeats 800000 in
theorem within0_any (n m : Nat) (hn : n ≤ 4611686018427387904) (hm0 : 0 < m) (hm : m ≤ 1000000) (w : World) : Calls Tryz.prog 10 #[.int .i64 n, .int .i64 m] w fun e w' => (∃ a : Nat, a < m ∧ e = .returned (.int .i64 a)) ∧ w = w' := by
  have h2 : n % m < m := Nat.mod_lt _ hm0
  have h3 : ((m : Int) == 0) = false := by rw [beq_eq_false_iff_ne]; omega
  have h4 : ¬ (m : Int) = 0 := by omega
  have u1 : IntKind.u64.wrap (n : Int) = (n : Int) := IntWalk.u64_in _ ⟨by omega, by omega⟩
  have u2 : IntKind.u64.wrap (m : Int) = (m : Int) := IntWalk.u64_in _ ⟨by omega, by omega⟩
  go_enter Tryz.func10, Tryz.ntmps10
  go_wp2
  go_ret
  exact ⟨⟨n % m, h2, by simp⟩, rfl⟩
theorem within1_any (x : Int) (hx : 0 ≤ x ∧ x ≤ 4611686018427387904) (m : Nat) (hm0 : 0 < m) (hm : m ≤ 1000000) (w : World) : Calls Tryz.prog 10 #[.int .i64 x, .int .i64 m] w fun e w' => (∃ a : Nat, a < m ∧ e = .returned (.int .i64 a)) ∧ w = w' := by
  obtain ⟨n, rfl⟩ := Int.eq_ofNat_of_zero_le hx.1
  exact within0_any n m (by omega) hm0 hm w
end Go.Proofs.YtkhklndmbfbnoaaGreatDoor
