/- Lists of numbers, of expressions, copied. -/
import Derived.Test.YtncdbjflfhfddaaGreatGV
namespace Go.Proofs.YtncdbjflfhfddaaGreat
open Go.ChangeShapes Go.WideShapes Go.ChangeAt Go.RowKit Go.Joins Go.Deep
set_option linter.unusedVariables false

def CopyZ (l : List Int) (w : World) (e : Ending) (w' : World) : Prop := ∃ v, e = .returned v ∧ RowZ w.heap.size l v w' ∧ Below w.heap.size w w'
theorem take_get {α : Type} {l : List α} {i : Nat} {x : α} (h : l[i]? = some x) : l.take (i + 1) = l.take i ++ [x] := by
  rw [List.take_add_one, h]; rfl
theorem RowZ.snoc {base : Nat} {l : List Int} {x : Int} {q : Option Addr} {cap : Nat} {w : World} (h : w.ownsRow base 3 1 (.slice q (l.length + 1) cap) (l.length + 1) (l.map (fun x => Value.int .i64 x) ++ [.int .i64 x])) : RowZ base (l ++ [x]) (.slice q (l.length + 1) cap) w := by
  unfold RowZ
  rw [List.length_append, List.map_append]
  exact h
set_option maxRecDepth 100000 in
set_option maxHeartbeats 1600000 in
theorem copyNums_any (v : Value) (l : List Int) (hl : l.length ≤ 100000) (w : World) (h : IsIs w v l) : Calls Tryz.prog 22 #[v] w (CopyZ l w) := by
  obtain ⟨q, cap, rfl, _, hcap, hc⟩ := h
  obtain ⟨n, hn⟩ : ∃ n, n = l.length := ⟨_, rfl⟩
  rw [← hn] at hl hcap hc ⊢
  have HN := Lib.hid hn
  have HC := Lib.hid hc
  obtain ⟨i0, hi0, hz0, hz1, hz2⟩ := info_parts gInt
  clear hn hc
  go_enter Tryz.func22, Tryz.ntmps22
  go_wp2_with fail
  go_loopw [3, 4] (fun v3 v wr => ∃ i : Nat, i ≤ n ∧ v = .int .i64 (i : Nat) ∧ RowZ w.heap.size (l.take i) v3 wr ∧ Below w.heap.size w wr) (fun _ v _ => n - (intOf v).toNat)
  case atStart => exact ⟨0, Nat.zero_le _, rfl, RowZ.nil _ _, Below.refl _ _⟩
  case round =>
    obtain ⟨i, hi, rfl, hR, hb⟩ := hrel
    have hsw := hb.size
    by_cases hlt : i < n
    · obtain ⟨b, o, rfl, hbs, hcell⟩ := HC.out (by omega)
      obtain ⟨x, hx⟩ : ∃ x, l[i]? = some x := ⟨_, List.getElem?_eq_getElem (by rw [← HN.out]; exact hlt)⟩
      have c1 : wr.cell? ⟨b, o + i, none⟩ = some (.int .i64 x) := by have := cell_below (hcell i x hx) hb; simpa using this
      have hj3 : (i : Int) < (n : Int) := by omega
      have htk := take_get hx
      obtain ⟨m, hm⟩ : ∃ m, m = (l.take i).length := ⟨_, rfl⟩
      have hmi : m ≤ i := by rw [hm, List.length_take]; omega
      obtain ⟨q3, cc, rfl⟩ := hR.form
      unfold RowZ at hR
      rw [← hm] at hR ⊢
      have hown := hR.alloc (.cells #[.int .i64 x] 3)
      have hbd := hb.alloc hsw (.cells #[.int .i64 x] 3)
      have hm1 : m + 1 ≤ maxLen := by unfold maxLen; omega
      have hm2 : (m + 1) * 8 ≤ 140737488355328 := by omega
      have HTK := Lib.hid htk
      have HM := Lib.hid hm
      clear htk hm hR hcell hx
      go_wp2_with ((at_builtin; refine wpList_append_lies _ rfl _ _ 23 rfl w.heap.size 3 i0 _ 1 8 Tryz.underlying23 hi0 hz0 hz1 hz2 rfl (by decide) (.slice q3 m cc) m ((l.take i).map fun x => Value.int .i64 x) rfl hown ⟨wr.heap.size, 0, none⟩ 1 1 [.int .i64 x] rfl rfl (World.news_of_block (cs := #[.int .i64 x]) (t := 3) (fr := (0, 0)) (heap_alloc_new wr _)) (by simp [Value.oneCell']) (by omega) hm1 hm2 (by simp; omega) (wr.heap.size + 1) (by simp) ?_; intro g2 cap2 w3 hown3 hgrow hat hlt3))
      have hR3 : RowZ w.heap.size (l.take (i + 1)) (.slice (some ⟨g2, 0, none⟩) (m + 1) cap2) w3 := by
        rw [HTK.out]
        have := HM.out
        subst this
        exact RowZ.snoc hown3
      have hb4 := hbd.grown hgrow (by simp; omega) (fun j hj => own_geG hown hj)
      clear hown3 hgrow hat hlt3 hown hbd hi0 hz0 hz1 hz2
      go_wp2_with fail
      go_roundw
      case rel => exact ⟨i + 1, by omega, by go_num, hR3, hb4⟩
      case measure => simp [intOf]; omega
    · obtain rfl : i = n := by omega
      have et : l.take i = l := List.take_of_length_le (by have := HN.out; omega)
      rw [et] at hR
      have FIN : Hid (CopyZ l w (.returned u3) wr) := Lib.hid ⟨_, rfl, hR, hb⟩
      obtain ⟨q3, cc, rfl⟩ := hR.form
      clear et hR
      go_wp2_with fail
      go_ret
      exact FIN.out
/-- a row of expressions of the call's own -/
def exC (x : EX) : List Value := [.int .i64 x.op, .int .i64 x.kind, .int .i64 x.n, .int .i64 x.a, .int .i64 x.b]
def RowE (base : Nat) (l : List EX) (v : Value) (w : World) : Prop := w.ownsRow base 50 5 v l.length (l.flatMap exC)
theorem RowE.nil (base : Nat) (w : World) : RowE base [] (.slice none 0 0) w := ⟨rfl, Or.inl ⟨rfl, rfl⟩⟩
theorem RowE.form {base : Nat} {l : List EX} {v : Value} {w : World} (h : RowE base l v w) : ∃ q c, v = .slice q l.length c := by
  rcases h.2 with ⟨h0, h1⟩ | ⟨g, cap, cur, h0, _⟩
  · exact ⟨none, 0, by rw [h0, h1]⟩
  · exact ⟨_, _, by rw [h0]⟩
theorem exC_get (l : List EX) (i j : Nat) (x : EX) (h : l[i]? = some x) (hj : j < 5) : (l.flatMap exC)[i * 5 + j]? = (exC x)[j]? := by
  induction l generalizing i with
  | nil => simp at h
  | cons y r ih =>
    cases i with
    | zero =>
      obtain rfl : y = x := by simpa using h
      rw [List.flatMap_cons, Nat.zero_mul, Nat.zero_add, List.getElem?_append_left (by simpa [exC] using hj)]
    | succ i =>
      have := ih i (by simpa using h)
      rw [List.flatMap_cons, List.getElem?_append_right (by simp [exC]; omega)]
      rw [show (i + 1) * 5 + j - (exC y).length = i * 5 + j by simp [exC]; omega]
      exact this
theorem RowE.is {base : Nat} {l : List EX} {v : Value} {w : World} (h : RowE base l v w) (hl : l.length ≤ maxLen) : IsEs w v l := by
  obtain ⟨_, ⟨rfl, h0⟩ | ⟨g, cap, cur, rfl, hbb, hg, hn, hm, hc, hx⟩⟩ := h
  · exact ⟨none, 0, by rw [h0], hl, by rw [h0]; exact Nat.zero_le _, fun hp => by omega⟩
  · refine ⟨_, cap, rfl, hl, hn, fun _ => ⟨g, 0, rfl, ?_, fun i x hxi => ?_⟩⟩
    · rcases Nat.lt_or_ge g w.heap.size with h' | h'
      · exact h'
      · rw [Array.getElem?_eq_none h'] at hg; cases hg
    · have hi : i < l.length := (List.getElem?_eq_some_iff.1 hxi).1
      have hc9 : ∀ j, j < 5 → w.cell? ⟨g, 0 + i * 5 + j, none⟩ = (exC x)[j]? := fun j hj => by
        rw [cell_of_block hg, Nat.zero_add]
        have h9 : (cur.toList.take (l.length * 5))[i * 5 + j]? = (l.flatMap exC)[i * 5 + j]? := by rw [hx]
        rw [List.getElem?_take, if_pos (by omega), exC_get l i j x hxi hj] at h9
        simpa using h9
      exact ⟨hc9 0 (by decide), hc9 1 (by decide), hc9 2 (by decide), hc9 3 (by decide), hc9 4 (by decide)⟩
theorem gExpr : (Tryz.prog.info? 50).map (fun i => (i.zero, i.size, i.bytes)) = some (some (.agg #[.int .i64 0, .int .i64 0, .int .i64 0, .int .i64 0, .int .i64 0]), 5, 40) := by kernel_rfl
def CopyE (l : List EX) (w : World) (e : Ending) (w' : World) : Prop := ∃ v, e = .returned v ∧ RowE w.heap.size l v w' ∧ Below w.heap.size w w'
set_option maxRecDepth 100000 in
set_option maxHeartbeats 1600000 in
theorem copyExprs_any (v : Value) (l : List EX) (hl : l.length ≤ 100000) (w : World) (h : IsEs w v l) : Calls Tryz.prog 23 #[v] w (CopyE l w) := by
  obtain ⟨q, cap, rfl, _, hcap, hc⟩ := h
  obtain ⟨n, hn⟩ : ∃ n, n = l.length := ⟨_, rfl⟩
  rw [← hn] at hl hcap hc ⊢
  have HN := Lib.hid hn
  have HC := Lib.hid hc
  obtain ⟨i0, hi0, hz0, hz1, hz2⟩ := info_parts gExpr
  clear hn hc
  go_enter Tryz.func23, Tryz.ntmps23
  go_wp2_with fail
  go_loopw [3, 4] (fun v3 v wr => ∃ i : Nat, i ≤ n ∧ v = .int .i64 (i : Nat) ∧ RowE w.heap.size (l.take i) v3 wr ∧ Below w.heap.size w wr) (fun _ v _ => n - (intOf v).toNat)
  case atStart => exact ⟨0, Nat.zero_le _, rfl, RowE.nil _ _, Below.refl _ _⟩
  case round =>
    obtain ⟨i, hi, rfl, hR, hb⟩ := hrel
    have hsw := hb.size
    by_cases hlt : i < n
    · obtain ⟨b, o, rfl, hbs, hcell⟩ := HC.out (by omega)
      obtain ⟨x, hx⟩ : ∃ x, l[i]? = some x := ⟨_, List.getElem?_eq_getElem (by rw [← HN.out]; exact hlt)⟩
      obtain ⟨c0, c1, c2, c3, c4⟩ := (QE.below _ _ _ _ _ hb (hcell i x hx)).cells
      have hj3 : (i : Int) < (n : Int) := by omega
      have htk := take_get hx
      obtain ⟨xo, xk, xn, xa, xb⟩ := x
      dsimp only at c0 c1 c2 c3 c4
      obtain ⟨m, hm⟩ : ∃ m, m = (l.take i).length := ⟨_, rfl⟩
      have hmi : m ≤ i := by rw [hm, List.length_take]; omega
      obtain ⟨q3, cc, rfl⟩ := hR.form
      unfold RowE at hR
      rw [← hm] at hR ⊢
      have hown := hR.alloc (.cells #[.int .i64 xo, .int .i64 xk, .int .i64 xn, .int .i64 xa, .int .i64 xb] 50)
      have hbd := hb.alloc hsw (.cells #[.int .i64 xo, .int .i64 xk, .int .i64 xn, .int .i64 xa, .int .i64 xb] 50)
      have hm1 : m + 1 ≤ maxLen := by unfold maxLen; omega
      have hm2 : (m + 1) * 40 ≤ 140737488355328 := by omega
      have HTK := Lib.hid htk
      have HM := Lib.hid hm
      clear htk hm hR hcell hx
      go_wp2_with ((at_builtin; refine wpList_append_lies _ rfl _ _ 30 rfl w.heap.size 50 i0 _ 5 40 Tryz.underlying30 hi0 hz0 hz1 hz2 rfl (by decide) (.slice q3 m cc) m ((l.take i).flatMap exC) rfl hown ⟨wr.heap.size, 0, none⟩ 1 1 [.int .i64 xo, .int .i64 xk, .int .i64 xn, .int .i64 xa, .int .i64 xb] rfl rfl (World.news_of_block (cs := #[.int .i64 xo, .int .i64 xk, .int .i64 xn, .int .i64 xa, .int .i64 xb]) (t := 50) (fr := (0, 0)) (heap_alloc_new wr _)) (by simp [Value.oneCell']) (by omega) hm1 hm2 (by simp; omega) (wr.heap.size + 1) (by simp) ?_; intro g2 cap2 w3 hown3 hgrow hat hlt3))
      have hR3 : RowE w.heap.size (l.take (i + 1)) (.slice (some ⟨g2, 0, none⟩) (m + 1) cap2) w3 := by
        rw [HTK.out]
        have := HM.out
        subst this
        unfold RowE
        rw [List.length_append, List.flatMap_append]
        exact hown3
      have hb4 := hbd.grown hgrow (by simp; omega) (fun j hj => own_geG hown hj)
      clear hown3 hgrow hat hlt3 hown hbd hi0 hz0 hz1 hz2
      go_wp2_with fail
      go_roundw
      case rel => exact ⟨i + 1, by omega, by go_num, hR3, hb4⟩
      case measure => simp [intOf]; omega
    · obtain rfl : i = n := by omega
      have et : l.take i = l := List.take_of_length_le (by have := HN.out; omega)
      rw [et] at hR
      have FIN : Hid (CopyE l w (.returned u3) wr) := Lib.hid ⟨_, rfl, hR, hb⟩
      obtain ⟨q3, cc, rfl⟩ := hR.form
      clear et hR
      go_wp2_with fail
      go_ret
      exact FIN.out
end Go.Proofs.YtncdbjflfhfddaaGreat
