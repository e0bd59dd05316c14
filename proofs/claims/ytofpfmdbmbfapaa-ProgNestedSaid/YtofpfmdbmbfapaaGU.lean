/- Package prog: what an expression is made of: parts, uses. -/
import Derived.Test.YtofpfmdbmbfapaaGC
import Derived.Test.YtofpfmdbmbfapaaGUm
import Derived.Deep.AppendLies
namespace Go.Proofs.Ytofpfmdbmbfapaa
open Go.ChangeShapes Go.WideShapes Go.ChangeAt Go.RowKit Go.Joins Go.Deep
set_option linter.unusedVariables false

theorem ownsRow_belowG {w w' : World} {base e size : Nat} {v : Value} {n : Nat} {xs : List Value} (h : w.ownsRow base e size v n xs) (hb : Below w.heap.size w w') : w'.ownsRow base e size v n xs := by
  obtain ⟨hl, ⟨h0, h1⟩ | ⟨g, cap, cur, he, hbb, hg, hn, hm, hc, hx⟩⟩ := h
  · exact ⟨hl, Or.inl ⟨h0, h1⟩⟩
  · have hlt : g < w.heap.size := by
      rcases Nat.lt_or_ge g w.heap.size with h' | h'
      · exact h'
      · rw [Array.getElem?_eq_none h'] at hg; cases hg
    exact ⟨hl, Or.inr ⟨g, cap, cur, he, hbb, (hb.block g hlt).trans hg, hn, hm, hc, hx⟩⟩
theorem own_geG {w : World} {base e size : Nat} {v : Value} {n : Nat} {xs : List Value} (h : w.ownsRow base e size v n xs) {k : Nat} (hk : v.ownBlock = some k) : base ≤ k := by
  obtain ⟨hl, ⟨rfl, h0⟩ | ⟨g, cap, cur, rfl, hbb, hg, hn, hm, hc, hx⟩⟩ := h
  · cases hk
  · simp [Value.ownBlock] at hk; omega
/-- a row of numbers of the call's own -/
def RowZ (base : Nat) (l : List Int) (v : Value) (w : World) : Prop := w.ownsRow base 3 1 v l.length (l.map fun x => Value.int .i64 x)
theorem RowZ.nil (base : Nat) (w : World) : RowZ base [] (.slice none 0 0) w := ⟨rfl, Or.inl ⟨rfl, rfl⟩⟩
theorem RowZ.form {base : Nat} {l : List Int} {v : Value} {w : World} (h : RowZ base l v w) : ∃ q c, v = .slice q l.length c := by
  rcases h.2 with ⟨h0, h1⟩ | ⟨g, cap, cur, h0, _⟩
  · exact ⟨none, 0, by rw [h0, h1]⟩
  · exact ⟨_, _, by rw [h0]⟩
theorem RowZ.is {base : Nat} {l : List Int} {v : Value} {w : World} (h : RowZ base l v w) (hl : l.length ≤ maxLen) : IsIs w v l := by
  obtain ⟨_, ⟨rfl, h0⟩ | ⟨g, cap, cur, rfl, hbb, hg, hn, hm, hc, hx⟩⟩ := h
  · exact ⟨none, 0, by rw [h0], hl, by rw [h0]; exact Nat.zero_le _, fun hp => by omega⟩
  · refine ⟨_, cap, rfl, hl, hn, fun _ => ⟨g, 0, rfl, ?_, fun i x hxi => ?_⟩⟩
    · rcases Nat.lt_or_ge g w.heap.size with h' | h'
      · exact h'
      · rw [Array.getElem?_eq_none h'] at hg; cases hg
    · show w.cell? ⟨g, 0 + i * 1, none⟩ = _
      have hi : i < l.length := (List.getElem?_eq_some_iff.1 hxi).1
      rw [cell_of_block hg, Nat.zero_add]
      have h9 : (cur.toList.take (l.length * 1))[i]? = (l.map fun x => Value.int .i64 x)[i]? := by rw [hx]
      rw [List.getElem?_take, if_pos (by omega)] at h9
      rw [List.getElem?_map, hxi] at h9
      simpa using h9
theorem RowZ.bel {base : Nat} {l : List Int} {v : Value} {w w' : World} (h : RowZ base l v w) (hb : Below w.heap.size w w') : RowZ base l v w' := ownsRow_belowG h hb
theorem At.isIs {w : World} {b : Nat} {l : List Int} {t : TypeId} (h : At w b (intA l) t) (hl : l.length ≤ maxLen) : IsIs w (.slice (some ⟨b, 0, none⟩) l.length l.length) l :=
  ⟨_, _, rfl, hl, Nat.le_refl _, fun _ => ⟨b, 0, rfl, h.lt, fun i x hx => by
    show w.cell? ⟨b, 0 + i * 1, none⟩ = _
    rw [Nat.zero_add, Nat.mul_one]
    exact h.cell i (intA_get hx)⟩⟩
def PartsP (x : EX) (w : World) (e : Ending) (w' : World) : Prop := ∃ q B, e = .returned (.slice q (partsL x).length (partsL x).length) ∧ (0 < (partsL x).length → q = some ⟨B, 0, none⟩ ∧ w.heap.size ≤ B ∧ At w' B (intA (partsL x)) 3) ∧ Below w.heap.size w w'
set_option maxHeartbeats 800000 in
theorem parts_any (op k n xa xb : Int) (w : World) : Calls Try.prog 47 #[.agg #[.int .i64 op, .int .i64 k, .int .i64 n, .int .i64 xa, .int .i64 xb]] w (PartsP ⟨op, k, n, xa, xb⟩ w) := by
  have c2 := fun w => gTwo_any op w
  have c1 := fun w => gOne_any op w
  cases h2 : hasTwoB op
  · cases h1 : hasOneB op
    · have hl : partsL ⟨op, k, n, xa, xb⟩ = [] := by simp [partsL, h2, h1]
      rw [h2] at c2
      rw [h1] at c1
      have FIN : Hid (∀ w', Below w.heap.size w w' → PartsP ⟨op, k, n, xa, xb⟩ w (.returned (.slice none 0 0)) w') := Lib.hid fun w' hb => ⟨none, 0, by rw [hl]; rfl, fun h => by rw [hl] at h; exact absurd h (Nat.lt_irrefl 0), hb⟩
      clear hl h2 h1
      go_enter Try.func47, Try.ntmps47
      go_wp2_with (first | (go_at_call 57; refine (c2 _).mono ?_; rintro e w' ⟨rfl, rfl⟩) | (go_at_call 58; refine (c1 _).mono ?_; rintro e w' ⟨rfl, rfl⟩))
      go_ret
      exact FIN.out _ (below_box1 _ _)
    · have hl : partsL ⟨op, k, n, xa, xb⟩ = [xa] := by simp [partsL, h2, h1]
      rw [h2] at c2
      rw [h1] at c1
      have FIN : Hid (∀ w1, Below w.heap.size w w1 → PartsP ⟨op, k, n, xa, xb⟩ w (.returned (.slice (some ⟨w1.heap.size, 0, none⟩) 1 1)) (w1.alloc (.cells #[.int .i64 xa] 3))) := Lib.hid fun w1 hb => ⟨some ⟨w1.heap.size, 0, none⟩, w1.heap.size, by rw [hl]; rfl, fun _ => ⟨rfl, hb.size, by rw [hl]; exact At.new _ _ _⟩, hb.trans ((below_box1 _ _).mono hb.size)⟩
      clear hl h2 h1
      have hz := World.size_alloc w (.cells #[.int .i64 op, .int .i64 k, .int .i64 n, .int .i64 xa, .int .i64 xb] 45)
      have FIN2 := FIN.out _ (below_box1 w (.cells #[.int .i64 op, .int .i64 k, .int .i64 n, .int .i64 xa, .int .i64 xb] 45))
      rw [hz] at FIN2
      have FIN3 := Lib.hid FIN2
      clear FIN2 FIN hz
      go_enter Try.func47, Try.ntmps47
      go_wp2_with (first | (go_at_call 57; refine (c2 _).mono ?_; rintro e w' ⟨rfl, rfl⟩) | (go_at_call 58; refine (c1 _).mono ?_; rintro e w' ⟨rfl, rfl⟩))
      go_ret
      exact FIN3.out
  · have hl : partsL ⟨op, k, n, xa, xb⟩ = [xa, xb] := by simp [partsL, h2]
    rw [h2] at c2
    have FIN : ∀ w1, Below w.heap.size w w1 → PartsP ⟨op, k, n, xa, xb⟩ w (.returned (.slice (some ⟨w1.heap.size, 0, none⟩) 2 2)) (w1.alloc (.cells #[.int .i64 xa, .int .i64 xb] 3)) := fun w1 hb => ⟨some ⟨w1.heap.size, 0, none⟩, w1.heap.size, by rw [hl]; rfl, fun _ => ⟨rfl, hb.size, by rw [hl]; exact At.new _ _ _⟩, hb.trans ((below_box1 _ _).mono hb.size)⟩
    have hz := World.size_alloc w (.cells #[.int .i64 op, .int .i64 k, .int .i64 n, .int .i64 xa, .int .i64 xb] 45)
    have FIN2 := FIN _ (below_box1 w (.cells #[.int .i64 op, .int .i64 k, .int .i64 n, .int .i64 xa, .int .i64 xb] 45))
    rw [hz] at FIN2
    have FIN3 := Lib.hid FIN2
    clear FIN2 FIN hz hl h2
    go_enter Try.func47, Try.ntmps47
    go_wp2_with (go_at_call 57; refine (c2 _).mono ?_; rintro e w' ⟨rfl, rfl⟩)
    go_ret
    exact FIN3.out
def InP (l : List Int) (n : Int) (w : World) (e : Ending) (w' : World) : Prop := ∃ r : Int, e = .returned (.int .i64 r) ∧ (0 ≤ r ↔ n ∈ l) ∧ w = w'
set_option maxHeartbeats 800000 in
theorem In_any (v : Value) (l : List Int) (n : Int) (w : World) (h : IsIs w v l) : Calls Try.prog 15 #[v, .int .i64 n] w (InP l n w) := by
  obtain ⟨q, cap, rfl, hl, hcap, hc⟩ := h
  obtain ⟨len, hlen⟩ : ∃ len, len = l.length := ⟨_, rfl⟩
  rw [← hlen] at hl hcap hc ⊢
  unfold maxLen at hl
  have HL := Lib.hid hlen
  clear hlen
  go_enter Try.func15, Try.ntmps15
  go_wp2
  go_loopw [5] (fun v wr => ∃ i : Nat, i ≤ len ∧ v = .int .i64 (i : Nat) ∧ (∀ (j : Nat) (x : Int), j < i → l[j]? = some x → x ≠ n) ∧ w = wr) (fun v _ => len - (intOf v).toNat)
  case atStart => exact ⟨0, Nat.zero_le _, rfl, fun j x hj => absurd hj (Nat.not_lt_zero _), rfl⟩
  case round =>
    obtain ⟨i, hi, rfl, hall, rfl⟩ := hrel
    by_cases hlt : i < len
    · obtain ⟨b, o, rfl, hbs, hcell⟩ := hc (by omega)
      obtain ⟨x, hx⟩ : ∃ x, l[i]? = some x := ⟨_, List.getElem?_eq_getElem (by rw [← HL.out]; exact hlt)⟩
      have c1 : w.cell? ⟨b, o + i, none⟩ = some (.int .i64 x) := by have := hcell i x hx; simpa [QI] using this
      have hj3 : (i : Int) < (len : Int) := by omega
      by_cases hxn : x = n
      · subst hxn
        have FIN : Hid (InP l x w (.returned (.int .i64 (i : Nat))) w) := Lib.hid ⟨_, rfl, ⟨fun _ => List.mem_of_getElem? hx, fun _ => by omega⟩, rfl⟩
        clear hcell hc hall hx
        go_wp2
        go_ret
        exact FIN.out
      · have hxb : (x == n) = false := beq_eq_false_iff_ne.2 hxn
        have HA : Hid (∀ (j : Nat) (y : Int), j < i + 1 → l[j]? = some y → y ≠ n) := Lib.hid (fun j y hj hy => by
          by_cases hji : j = i
          · subst hji
            rw [hx] at hy
            injection hy with hy
            rw [← hy]; exact hxn
          · exact hall j y (by omega) hy)
        clear hcell hc hall hx hxn
        go_wp2
        go_roundw
        case rel => exact ⟨i + 1, by omega, by go_num, HA.out, by first | rfl | trivial⟩
        case measure => simp [intOf]; omega
    · obtain rfl : i = len := by omega
      have FIN : Hid (InP l n w (.returned (.int .i64 (-1))) w) := Lib.hid ⟨_, rfl, ⟨fun h => absurd h (by omega), fun h => by
        obtain ⟨j, hj⟩ := List.mem_iff_getElem?.1 h
        exact absurd rfl (hall j n (by rw [HL.out]; exact (List.getElem?_eq_some_iff.1 hj).1) hj)⟩, rfl⟩
      clear hc hall
      go_wp2
      go_ret
      exact FIN.out
end Go.Proofs.Ytofpfmdbmbfapaa
