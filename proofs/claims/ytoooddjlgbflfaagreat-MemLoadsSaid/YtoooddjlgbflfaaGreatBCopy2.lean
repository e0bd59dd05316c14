/- Rows of bytes copied, and written over. -/
import Derived.Test.YtoooddjlgbflfaaGreatBCopy
import Derived.Deep.AppendLies
namespace Go.Proofs.YtoooddjlgbflfaaGreat
open Go.ChangeShapes Go.WideShapes Go.ChangeAt Go.RowKit Go.Joins Go.Deep
set_option linter.unusedVariables false

def flatY (xs : List BY) : List Value := xs.flatMap byCells
theorem flatY_len (xs : List BY) : (flatY xs).length = xs.length * 5 := by
  have := byC_size xs
  simpa [byC, flatY] using this
theorem flatY_snoc (xs : List BY) (x : BY) : flatY (xs ++ [x]) = flatY xs ++ byCells x := by simp [flatY]
theorem ownY_ge {w : World} {base b : Nat} {e : TypeId} {size : Nat} {v : Value} {n : Nat} {xs : List Value} (h : w.ownsRow base e size v n xs) (hb : v.ownBlock = some b) : base ≤ b := by
  obtain ⟨hl, ⟨rfl, _⟩ | ⟨g, cap, cur, rfl, hbs, hg, h1⟩⟩ := h
  · simp [Value.ownBlock] at hb
  · simp [Value.ownBlock] at hb; omega
theorem ownY_row {w : World} {base : Nat} {v : Value} {L : List BY} (h : w.ownsRow base 87 5 v L.length (flatY L)) (h0 : 0 < L.length) : ∃ g cap, v = .slice (some ⟨g, 0, none⟩) L.length cap ∧ base ≤ g ∧ BRow w g L := by
  obtain ⟨hl, ⟨rfl, hn⟩ | ⟨g, cap, cur, rfl, hb, hg, hn, hm, hc, hx⟩⟩ := h
  · omega
  · refine ⟨g, cap, rfl, hb, cur, hg, ?_, fun i hi c hcc => ?_⟩
    · have := congrArg List.length hx
      rw [List.length_take, flatY_len] at this
      simp at this
      omega
    · have h1 := flat_get L i hi c hcc
      have h2 : (flatY L)[i * 5 + c]? = (byCells (L.getD i default))[c]? := h1
      rw [← hx, List.getElem?_take] at h2
      split at h2
      · simpa using h2
      · rename_i hh
        exact absurd (by omega) hh
def RelCopy (xs : List BY) (len : Nat) (w0 : World) (v3 v4 : Value) (wr : World) : Prop :=
  ∃ j : Nat, j ≤ len ∧ v4 = .int .i64 (j : Nat) ∧ wr.ownsRow w0.heap.size 87 5 v3 j (flatY (xs.take j)) ∧ Below w0.heap.size w0 wr
def CopyPost (xs : List BY) (len : Nat) (w : World) (e : Ending) (w' : World) : Prop :=
  ∃ B cap, e = .returned (.slice (some ⟨B, 0, none⟩) len cap) ∧ w.heap.size ≤ B ∧ BRow w' B xs ∧ Below w.heap.size w w'
set_option maxHeartbeats 1600000 in
theorem CopyBytes_any (p : Option Addr) (len cap : Nat) (xs : List BY) (w : World) (h : IsBys w p len xs) (h0 : 0 < len) :
    Calls Tryz.prog 51 #[.slice p len cap] w (CopyPost xs len w) := by
  obtain ⟨hl, hlen, hc⟩ := h
  obtain ⟨b, off, rfl, hbb, hcells⟩ := hc h0
  clear hc
  go_enter Tryz.func51, Tryz.ntmps51
  go_wp2
  go_loopw [3, 4] (fun v3 v4 wr => RelCopy xs len w v3 v4 wr) (fun _ v4 _ => len - (intOf v4).toNat)
  case atStart => exact ⟨0, by omega, rfl, World.ownsRow_nil _ _ _ _, Below.refl _ _⟩
  case round =>
    obtain ⟨j, hj, rfl, hown, hbr⟩ := hrel
    by_cases hlt : j < len
    · have hcj := (hcells j hlt).below hbr
      have hsn := take_snocD xs j (by omega)
      obtain ⟨x, hx⟩ : ∃ x, x = xs.getD j default := ⟨_, rfl⟩
      rw [← hx] at hcj hsn
      have hj3 : (j : Int) < (len : Int) := by omega
      obtain ⟨s, n, bb, o, i⟩ := x
      obtain ⟨p0, p1, p2, p3, p4⟩ := hcj
      dsimp only at *
      have HS := Lib.hid hsn
      have HL := Lib.hid hlen
      have hown0 := hown.alloc (.cells #[.int .i64 s, .int .i64 n, .int .i64 bb, .int .i64 o, .int .i64 i] 87)
      have hbA := hbr.alloc hbr.size (.cells #[.int .i64 s, .int .i64 n, .int .i64 bb, .int .i64 o, .int .i64 i] 87)
      obtain ⟨i0, hi0, hz0, hz1, hz2⟩ := info_parts Tryz.infoByte
      clear hsn hx hlen hown
      go_wp2_with ((at_builtin; go_must (refine wpList_append_own _ rfl _ _ 62 rfl w.heap.size 87 i0 _ 5 40 Tryz.underlying62 hi0 hz0 hz1 hz2 rfl (by decide) _ j (flatY (xs.take j)) rfl hown0 ⟨wr.heap.size, 0, none⟩ 1 1 [.int .i64 s, .int .i64 n, .int .i64 bb, .int .i64 o, .int .i64 i] rfl rfl (World.news_of_block (cs := #[.int .i64 s, .int .i64 n, .int .i64 bb, .int .i64 o, .int .i64 i]) (t := 87) (fr := (0, 0)) (heap_alloc_new wr _)) (by simp [Value.oneCell']) (by unfold maxLen; omega) (by omega) hbA.size ?_)))
      intro v3 w4 hown3 hgrow _
      have hbF := hbA.grown hgrow hbA.size (fun i hi => ownY_ge hown0 hi)
      have hown4 : w4.ownsRow w.heap.size 87 5 v3 (j + 1) (flatY (xs.take (j + 1))) := by rw [HS.out, flatY_snoc]; exact hown3
      clear hown0 hbA hgrow hown3 hi0 hz0 hz1 hz2 p0 p1 p2 p3 p4
      go_wp2_with fail
      go_roundw
      case rel => exact ⟨j + 1, by omega, by go_num, hown4, hbF⟩
      case measure => simp [intOf]; omega
    · obtain rfl : j = len := by omega
      have e : xs.take j = xs := List.take_of_length_le (by omega)
      rw [e] at hown
      have hown2 : wr.ownsRow w.heap.size 87 5 u3 xs.length (flatY xs) := by rw [hlen]; exact hown
      obtain ⟨g, cap2, rfl, hge, hrow⟩ := ownY_row hown2 (by omega)
      have HL := Lib.hid hlen
      have fin : CopyPost xs j w (.returned (.slice (some ⟨g, 0, none⟩) xs.length cap2)) wr := ⟨g, cap2, by rw [hlen], hge, hrow, hbr⟩
      clear hown hown2 e hrow hlen hcells
      go_wp2
      go_ret
      exact fin
theorem CopyBytes_0 (cap : Nat) (p : Option Addr) (w : World) :
    Calls Tryz.prog 51 #[.slice p 0 cap] w fun e w' => e = .returned (.slice none 0 0) ∧ w = w' := by
  go_enter Tryz.func51, Tryz.ntmps51
  go_wp2
  go_loopw [3, 4] (fun v3 v4 wr => v3 = .slice none 0 0 ∧ v4 = .int .i64 0 ∧ w = wr) (fun _ v4 _ => 0)
  case atStart => exact ⟨rfl, rfl, rfl⟩
  case round =>
    obtain ⟨rfl, rfl, rfl⟩ := hrel
    go_wp2
    go_ret
    exact ⟨rfl, rfl⟩
def RelSp (len B : Nat) (w0 : World) (v : Value) (wr : World) : Prop := ∃ (j : Nat) (L : List BY), j ≤ len ∧ v = .int .i64 (j : Nat) ∧ L.length = len ∧ BRow wr B L ∧ Below B w0 wr
end Go.Proofs.YtoooddjlgbflfaaGreat
