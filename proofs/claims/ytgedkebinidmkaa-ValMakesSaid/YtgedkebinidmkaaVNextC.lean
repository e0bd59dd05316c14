/- Package val: a layout's next member. -/
import Derived.Test.YtgedkebinidmkaaVNextM
import Derived.Test.YtgedkebinidmkaaVOnce
namespace Go.Proofs.Ytgedkebinidmkaa
open Go.ChangeShapes Go.WideShapes Go.ChangeAt Go.RowKit Go.Joins Go.Deep
set_option linter.unusedVariables false

def NextPostL (k f b : Nat) (L : Spans) (n : Nat) (w : World) (e : Ending) (w' : World) : Prop := ∃ r is, NextRes (MemL k f b L) n r is ∧ e = .returned (.tuple #[.int .i64 r, .bool is]) ∧ Below w.heap.size w w'
def RelNext (L : Spans) (n : Nat) (w : World) (v : Value) (wr : World) : Prop := ∃ j : Nat, j ≤ L.length ∧ v = .int .i64 j ∧ (∀ i (hi : i < L.length), i < j → L[i].2 < n) ∧ Below w.heap.size w wr

set_option maxRecDepth 100000 in
set_option maxHeartbeats 800000 in
theorem next_empty (lo bl k F B f b n : Nat) (c : Int) (w : World) (hlay : LayAt w lo bl k F B [] c) :
    Calls Try.prog 37 #[.pointer (some ⟨bl, 0, none⟩), .int .i64 n] w (NextPostL k f b [] n w) := by
  obtain ⟨sl, hA, ⟨_, rfl⟩ | ⟨h0, _⟩, hlen⟩ := hlay
  · have c3 : w.cell? ⟨bl, 3, none⟩ = some (.slice none 0 0) := hA.cell 3 rfl
    clear hA
    have fin : NextRes (MemL k f b []) n 0 false := next_gone (fun j hj => absurd hj (by simp))
    go_enter Try.func37, Try.ntmps37
    go_wp2
    go_loopw [13] (fun v wr => v = .int .i64 0 ∧ wr = w) (fun v _ => (intOf v).toNat)
    case atStart => exact ⟨rfl, rfl⟩
    case round =>
      obtain ⟨rfl, rfl⟩ := hrel
      go_wp2_with fail
      go_ret2
      exact ⟨_, _, fin, rfl, Below.refl _ _⟩
  · exact absurd h0 (by simp)
set_option maxRecDepth 100000 in
set_option maxHeartbeats 3200000 in
theorem next_w (lo bl k F B f b n g cap m : Nat) (L : Spans) (c : Int) (w : World) (okF : PatOk k F B) (hn : n < 2 ^ k) (hm : m = L.length) (hm2 : m ≤ 1000)
    (hA : At w bl (layC k F B (.slice (some ⟨g, 0, none⟩) m cap) c) 83) (hS : HasSpans w g L) (hlt : ∀ t ∈ L, t.1 < 2 ^ k)
    (here : ∀ i (hi : i < L.length), (∀ j (hj : j < i), (L[j]'(by omega)).2 < n) → n ≤ L[i].2 → ∀ r is, FromRes k F B (max n L[i].1) r is → NextRes (MemL k f b L) n r is)
    (gone : (∀ j (hj : j < L.length), L[j].2 < n) → NextRes (MemL k f b L) n 0 false) :
    Calls Try.prog 37 #[.pointer (some ⟨bl, 0, none⟩), .int .i64 n] w (NextPostL k f b L n w) := by
  have c3 : w.cell? ⟨bl, 3, none⟩ = some (.slice (some ⟨g, 0, none⟩) m cap) := hA.cell 3 rfl
  have hp := okF.hk.pow
  have HM := Lib.hid hm
  clear hm
  go_enter Try.func37, Try.ntmps37
  go_wp2
  go_loopw [13] (fun v wr => RelNext L n w v wr) (fun v _ => m - (intOf v).toNat)
  case atStart => exact ⟨0, by omega, rfl, fun i _ hi => absurd hi (by omega), Below.refl _ _⟩
  case round =>
    obtain ⟨j, hj, rfl, hbef, hb⟩ := hrel
    clear c3
    by_cases hjm : j < m
    · have hjL : j < L.length := by have := HM.out; omega
      obtain ⟨s0, s1, hgl⟩ := hS.at hb hjL
      have hA1 := hA.below hb hA.lt
      have hx := hlt _ (List.getElem_mem hjL)
      have here' := here j hjL (fun i hi => hbef i (by omega) hi)
      have hb2 : L[j].2 < n → ∀ i (hi : i < L.length), i < j + 1 → L[i].2 < n := fun h i hi hi2 => by
        rcases Nat.lt_or_ge i j with h1 | h1
        · exact hbef i hi h1
        · obtain rfl : i = j := by omega
          exact h
      obtain ⟨x, y, hxy⟩ : ∃ x y, L[j] = (x, y) := ⟨_, _, rfl⟩
      rw [hxy] at s0 s1 hx here' hb2
      simp only at s0 s1 hx here' hb2
      have hjm1 : (j : Int) < (m : Int) := by omega
      have hbl := hA1.lt
      have q0 : (wr.alloc (.cells #[.int .i64 x, .int .i64 y] 88)).cell? ⟨bl, 0, none⟩ = some (.int .i64 k) := (hA1.alloc _).cell 0 rfl
      have q1 : (wr.alloc (.cells #[.int .i64 x, .int .i64 y] 88)).cell? ⟨bl, 1, none⟩ = some (.int .i64 F) := (hA1.alloc _).cell 1 rfl
      have q2 : (wr.alloc (.cells #[.int .i64 x, .int .i64 y] 88)).cell? ⟨bl, 2, none⟩ = some (.int .i64 B) := (hA1.alloc _).cell 2 rfl
      have dX := At.new wr #[.int .i64 x, .int .i64 y] 88
      have q3 : (wr.alloc (.cells #[.int .i64 x, .int .i64 y] 88)).cell? ⟨wr.heap.size, 0, none⟩ = some (.int .i64 x) := dX.cell 0 rfl
      have hb3 : Below w.heap.size w (wr.alloc (.cells #[.int .i64 x, .int .i64 y] 88)) := hb.alloc hb.size _
      clear hxy hS hA hA1 here gone dX
      by_cases hny : n ≤ y
      · have t0 : decide (n ≤ y) = true := by simpa using hny
        have fin := here' hny
        have hbz := hb3.size
        have cM : ∀ (z : Int) (hz : z = (max n x : Nat)) (w : World), Calls Try.prog 46 #[patV k F B, .int .i64 z] w (FromPost k F B (max n x) w) := by
          intro z hz w
          subst hz
          exact from_any k F B (max n x) okF (by omega) w
        clear here' hb2 hbef
        rcases Nat.lt_or_ge n x with hnx | hnx
        all_goals
          go_wp2_with fail
          go_region_held3 (fun w' => w'.cell? ⟨bl, 0, none⟩ = some (.int .i64 k) ∧ w'.cell? ⟨bl, 1, none⟩ = some (.int .i64 F) ∧ w'.cell? ⟨bl, 2, none⟩ = some (.int .i64 B) ∧ w'.cell? ⟨wr.heap.size, 0, none⟩ = some (.int .i64 x))
            (first
              | exact ⟨q0, q1, q2, q3⟩
              | exact keep4_below (by assumption) hbm)
            ((go_at_call 46; refine (cM _ (by first | omega | (split <;> omega)) _).mono ?_; rintro e w5 ⟨r, is, hres, rfl, hbm⟩))
          all_goals
            have fin2 := fin r is hres
            have hbE : Below w.heap.size w w5 := below_step hbm hb3 rfl rfl rfl rfl hbz
            clear fin cM q0 q1 q2 q3 hbm hres
            go_wp2_with fail
            go_ret2
            exact ⟨_, _, fin2, rfl, hbE⟩
      · have t0 : decide (n ≤ y) = false := by simpa using hny
        have hb4 := hb2 (by omega)
        clear here' hb2 hbef q0 q1 q2 q3
        go_wp2_with fail
        go_roundw
        case rel => exact ⟨j + 1, by omega, by go_num, hb4, hb3⟩
        case measure => simp [intOf]; omega
    · have fin := gone (fun i hi => hbef i hi (by have := HM.out; omega))
      clear here gone hS hA hbef
      go_wp2_with fail
      go_ret2
      exact ⟨_, _, fin, rfl, hb⟩
theorem next_any (lo bl k f b n : Nat) (L S : Spans) (c : Int) (w : World) (ok : PatOk k f b) (hn : n < 2 ^ k) (hl : Laid k f b S L) (hr : Rising L) (hlay : LayAt w lo bl k (narF f L) (narB f b L) L c) :
    Calls Try.prog 37 #[.pointer (some ⟨bl, 0, none⟩), .int .i64 n] w (NextPostL k f b L n w) := by
  by_cases h0 : L = []
  · subst h0
    exact next_empty lo bl k _ _ f b n c w hlay
  · obtain ⟨sl, hA, ⟨h1, _⟩ | ⟨hp, g, cap, rfl, hg, hS⟩, hlen⟩ := hlay
    · exact absurd h1 h0
    · obtain ⟨e1, e2⟩ := nar_eq (f := f) (b := b) hp
      rw [e1, e2] at hA
      have h00 := hl.ends _ (List.getElem_mem hp)
      exact next_w lo bl k _ _ f b n g cap L.length L c w (nar_ok ok (by omega)) hn rfl hlen.1 hA hS (fun t ht => by have := hl.ends t ht; omega)
        (fun i hi hbef hni r is hres => next_here ok hr hl.ends hi rfl rfl hbef hni hres) next_gone
end Go.Proofs.Ytgedkebinidmkaa
