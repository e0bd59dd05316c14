/- LexJoin: its fourth and fifth loops: what a list is joined to; its words. -/
import Derived.Test.YtkpiaenpjnajiaaGreatDoorLJM
namespace Go.Proofs.YtkpiaenpjnajiaaGreatDoor
open Go.ChangeShapes Go.WideShapes Go.ChangeAt Go.RowKit Go.Joins Go.Deep
set_option linter.unusedVariables false

def Fr4 (t : Array Value) (B : Nat) (v3 : Value) (i : Nat) (v11 v12 : Value) : Prop := t.size = 184 ∧ sl t 1 = .pointer (some ⟨B, 0, none⟩) ∧ sl t 3 = v3 ∧ sl t 10 = .int .i64 (i : Nat) ∧ sl t 11 = v11 ∧ sl t 12 = v12
def Rel4 (B : Nat) (v3 : Value) (i : Nat) (v11 v12 : Value) (L : List Txt) (w2 : World) (n : Nat) (a : Act) (wr : World) : Prop :=
  ∃ t k z W bad, a = ⟨t, []⟩ ∧ Fr4 t B v3 i v11 v12 ∧ sl t 13 = .int .i64 bad ∧ sl t 14 = .string W ∧ sl t 15 = .int .i64 z ∧ z = (k : Nat) ∧ k + n = L.length ∧ Hid (bad = (if allW (L.take k) then (0 : Int) else 1)) ∧ Hid (W.data.toList = joinL (L.take k)) ∧ Below w2.heap.size w2 wr
theorem W_first {W : ByteArray} {L : List Txt} {x : ByteArray} (h : W.data.toList = joinL (L.take 0)) (h0 : 0 < L.length) (hx : x.data.toList = L.getD 0 []) : (W ++ x).data.toList = joinL (L.take (0 + 1)) := by
  rw [take_getD h0, joinL_snoc, ← hx]
  rw [List.take_zero] at h ⊢
  simp [h, joinL]
theorem W_next {W : ByteArray} {L : List Txt} {x : ByteArray} {k : Nat} (h : W.data.toList = joinL (L.take k)) (h0 : k < L.length) (hk : 0 < k) (hx : x.data.toList = L.getD k []) : (W ++ ⟨#[32]⟩ ++ x).data.toList = joinL (L.take (k + 1)) := by
  rw [take_getD h0, joinL_snoc, ← hx]
  have hne : (L.take k).isEmpty = false := by
    obtain ⟨j, rfl⟩ : ∃ j, k = j + 1 := ⟨k - 1, by omega⟩
    cases L with
    | nil => simp at h0
    | cons a r => rfl
  rw [hne]
  simp [h]
theorem joinL_le2 : ∀ (L : List Txt), (∀ x ∈ L, x.length ≤ 7000) → (joinL L).length ≤ 7001 * L.length := by
  intro L
  induction L with
  | nil => intro _; simp [joinL]
  | cons x r ih =>
    intro h
    have h1 := h x (by simp)
    have h2 := ih (fun y hy => h y (by simp [hy]))
    cases r with
    | nil => simp [joinL]; omega
    | cons y r => simp only [joinL, List.isEmpty_cons, Bool.false_eq_true, if_false, List.length_append, List.length_cons] at h2 ⊢; omega
set_option maxRecDepth 1000000 in
set_option maxHeartbeats 6400000 in
theorem jloop4 (B g3 m3 c3 i nL cL : Nat) (q : Option Addr) (v11 v12 : Value) (L : List Txt) (w2 : World) (hi : i < m3) (hci : w2.cell? ⟨g3, i, none⟩ = some (.slice q nL cL)) (hL : ListAt w2 (.slice q nL cL) L)
    (t : Array Value) (hF : Fr4 t B (.slice (some ⟨g3, 0, none⟩) m3 c3) i v11 v12) (f13 : sl t 13 = .int .i64 0) (f14 : sl t 14 = .string ⟨#[]⟩) (f15 : sl t 15 = .int .i64 0) (Q : Exit → Act → World → Prop)
    (hQ : ∀ t w' W bad, Fr4 t B (.slice (some ⟨g3, 0, none⟩) m3 c3) i v11 v12 → sl t 13 = .int .i64 bad → sl t 14 = .string W → bad = (if allW L then (0 : Int) else 1) → W.data.toList = joinL L → Below w2.heap.size w2 w' → Q (.exit 6) ⟨t, []⟩ w') :
    (Code.loop jBody4).wp Tryz.prog (NoPanic Q) ⟨t, []⟩ w2 := by
  have hnl : nL = L.length := by
    obtain ⟨q', cap', hv, _⟩ := hL
    injection hv
  have hn5 : nL ≤ 100000 := by
    obtain ⟨q', cap', hv, hl, _⟩ := hL
    omega
  have hxl : ∀ i, (L.getD i []).length ≤ 7000 := by
    obtain ⟨q', cap', hv, hl, hx, _⟩ := hL
    intro i
    rcases Nat.lt_or_ge i L.length with hi | hi
    · exact hx _ (by rw [List.getD_eq_getElem?_getD, List.getElem?_eq_getElem hi]; exact List.getElem_mem hi)
    · rw [List.getD_eq_getElem?_getD, List.getElem?_eq_none hi]; simp
  have hjl : ∀ k, k ≤ L.length → (joinL (L.take k)).length ≤ 700100000 := by
    obtain ⟨q', cap', hv, hl, hx, _⟩ := hL
    intro k hk
    have := joinL_le2 (L.take k) (fun y hy => hx y (List.mem_of_mem_take hy))
    rw [List.length_take] at this
    omega
  refine wp_loop_ghost_k (Rel4 B (.slice (some ⟨g3, 0, none⟩) m3 c3) i v11 v12 L w2) L.length ⟨t, 0, 0, _, 0, rfl, hF, f13, f14, f15, rfl, by omega, Lib.hid rfl, Lib.hid rfl, Below.refl _ _⟩ ?_
  have HL := Lib.hid hL
  have HN := Lib.hid hnl
  clear hF f13 f14 f15 hL hnl
  intro n a wr hR iK iJv hJ hK
  clear t
  obtain ⟨t, k, z, W, bad, rfl, ⟨f0, f1, f3, f10, f11, f12⟩, f13, f14, f15, rfl, hkn, hbad, hW, hb⟩ := hR
  rw [open_184 t f0]
  simp only [f1, f3, f10, f11, f12, f13, f14, f15]
  clear f0 f1 f3 f10 f11 f12 f13 f14 f15
  conv => arg 2; whnf
  have ci := cell_below hci hb
  have hi3 : (i : Int) < (m3 : Int) := by omega
  by_cases hk1 : k < nL
  · have hkl : k < L.length := by have := HN.out; omega
    have t1 : decide ((k : Int) < (nL : Int)) = true := by simp; omega
    obtain ⟨-, g, rfl, ck⟩ := (HL.out.below hb).cell hk1
    have hx := hxl k
    have htk := take_getD hkl
    have hsn := allW_snoc (L.take k) (L.getD k [])
    rw [← htk] at hsn
    obtain ⟨x, hxe⟩ : ∃ x, x = L.getD k [] := ⟨_, rfl⟩
    rw [← hxe] at ck hx hsn
    have hss := str_size x
    have hWs : W.size ≤ 700100000 := by rw [← len_text, hW.out]; exact hjl k (by omega)
    have hxs : (⟨x.toArray⟩ : ByteArray).size ≤ 7000 := by rw [hss]; exact hx
    have cW := fun w => rWord_any ⟨x.toArray⟩ (by rw [hss]; omega) w
    rw [str_list] at cW
    have hxd : (⟨x.toArray⟩ : ByteArray).data.toList = L.getD k [] := by rw [str_list, hxe]
    have HSN := Lib.hid hsn
    have HXD := Lib.hid hxd
    unfold strV at ck
    have hj3 : (k : Int) < (nL : Int) := by omega
    clear hsn hxd hxe htk hQ hss
    generalize wordB x = wx at *
    generalize (⟨x.toArray⟩ : ByteArray) = xb at *
    have hbad2 : Hid ((if wx then bad else 1) = (if allW (L.take (k + 1)) then (0 : Int) else 1)) := Lib.hid (by
      rw [HSN.out, hbad.out]
      cases wx <;> cases allW (L.take k) <;> rfl)
    clear HSN
    by_cases hk0 : k = 0
    · subst hk0
      have hW2 := W_first hW.out hkl HXD.out
      have HW2 := Lib.hid hW2
      clear hW2
      cases wx
      all_goals
        go_wp2_with fail
        refine (cW _).mono ?_
        rintro e w4 ⟨rfl, hb4⟩
        have ci4 := cell_below ci hb4
        have ck4 := cell_below ck hb4
        have b4 := hb.trans (hb4.mono hb.size)
        clear cW hb4 ci ck
        go_wp2_with fail
        refine Handed.intro (n - 1) (by omega) (hJ _ _ _ ⟨_, 0 + 1, _, _, _, rfl, ⟨rfl, rfl, rfl, rfl, rfl, rfl⟩, rfl, rfl, rfl, by omega, by omega, hbad2, HW2, b4⟩)
    · have hkp : 0 < k := by omega
      have t0 : decide ((0 : Int) < (k : Int)) = true := by simp; omega
      have hW2 := W_next hW.out hkl hkp HXD.out
      have HW2 := Lib.hid hW2
      clear hW2 hk0
      cases wx
      all_goals
        go_wp2_with fail
        refine (cW _).mono ?_
        rintro e w4 ⟨rfl, hb4⟩
        have ci4 := cell_below ci hb4
        have ck4 := cell_below ck hb4
        have b4 := hb.trans (hb4.mono hb.size)
        clear cW hb4 ci ck
        go_wp2_with fail
        refine Handed.intro (n - 1) (by omega) (hJ _ _ _ ⟨_, k + 1, _, _, _, rfl, ⟨rfl, rfl, rfl, rfl, rfl, rfl⟩, rfl, rfl, rfl, by omega, by omega, hbad2, HW2, b4⟩)
  · obtain rfl : k = nL := by have := HN.out; omega
    have et : L.take k = L := List.take_of_length_le (by have := HN.out; omega)
    have HE := Lib.hid et
    have t1 : decide ((k : Int) < (k : Int)) = false := by simp
    clear hJ et
    go_wp2_with fail
    exact hQ _ _ _ _ ⟨rfl, rfl, rfl, rfl, rfl, rfl⟩ rfl rfl (by rw [← HE.out]; exact hbad.out) (by rw [← HE.out]; exact hW.out) hb
end Go.Proofs.YtkpiaenpjnajiaaGreatDoor
