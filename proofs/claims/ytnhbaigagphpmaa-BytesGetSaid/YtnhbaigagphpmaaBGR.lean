/- BytesGet: rows, whole. -/
import Derived.Test.YtnhbaigagphpmaaBG3
import Derived.Test.YtnhbaigagphpmaaBLaw
namespace Go.Proofs.Ytnhbaigagphpmaa
open Go.ChangeShapes Go.WideShapes Go.ChangeAt Go.RowKit Go.Joins Go.Deep
set_option linter.unusedVariables false

def RowsP (w : World) (e : Ending) (w' : World) : Prop := ∃ g m cap X, e = .returned (.slice (some ⟨g, 0, none⟩) m cap) ∧ X.length = m ∧ m ≤ 1300 ∧ HRow (w.heap.size + 1) X (.slice (some ⟨g, 0, none⟩) m cap) w' ∧ Below w.heap.size w w'
set_option maxRecDepth 1000000 in
set_option maxHeartbeats 12800000 in
theorem rows_any (n : Nat) (hn : n = 1 ∨ n = 2 ∨ n = 4) (ga ma capa : Nat) (hma : ma ≤ 6) (pa ps pb : Option Addr) (la ca ls cs lb cb : Nat) (ss : List SC) (bs : List BY) (fa : List (Bool × Int)) (hlb : lb ≤ 300) (w : World) (hss : InScs w ps ls cs ss) (hbs : InBys w pb lb cb bs) (hMa : MachAt w ga ma fa) :
    Calls Try.prog 7 #[.agg #[.slice pa la ca, .slice ps ls cs, .slice pb lb cb], .int .i64 (n : Nat), .slice (some ⟨ga, 0, none⟩) ma capa] w (RowsP w) := by
  have dK := At.new w #[.slice pa la ca, .slice ps ls cs, .slice pb lb cb] 26
  have hb0 := below_box1 w (.cells #[.slice pa la ca, .slice ps ls cs, .slice pb lb cb] 26)
  have hD : RowsD (w.alloc (.cells #[.slice pa la ca, .slice ps ls cs, .slice pb lb cb] 26)) w.heap.size pa ps pb la ca ls cs lb cb ss bs ga ma fa := ⟨dK, hss.below hb0, hbs.below hb0, hMa.below hb0⟩
  have HD := Lib.hid hD
  have HB0 := Lib.hid hb0
  have hsz : (w.alloc (.cells #[.slice pa la ca, .slice ps ls cs, .slice pb lb cb] 26)).heap.size = w.heap.size + 1 := by simp
  have HSZ := Lib.hid hsz
  clear hD dK hss hbs hMa hb0 hsz
  go_enter Try.func7, Try.ntmps7
  go_wp2_with fail
  generalize w.alloc (.cells #[.slice pa la ca, .slice ps ls cs, .slice pb lb cb] 26) = wb at *
  refine noPanic_mono (rloopA w.heap.size n ga ma capa pa ps pb la ca ls cs lb cb ss bs fa wb (by omega) hlb HD.out _ ⟨rfl, rfl, rfl, rfl⟩ rfl rfl _ ?_)
  intro t2 w2 X2 hF hX2 hR2 hb2
  obtain ⟨f0, f1, f2, f3⟩ := hF
  rw [open_145 t2 f0]
  obtain ⟨v7, f7⟩ : ∃ v7, v7 = sl t2 7 := ⟨_, rfl⟩
  rw [← f7] at hR2 ⊢
  simp only [f1, f2, f3]
  clear f0 f1 f2 f3 f7
  have HR2 := Lib.hid hR2
  have HX2 := Lib.hid hX2
  have HB2 := Lib.hid hb2
  clear hR2 hX2 hb2
  go_wp2_with fail
  refine noPanic_mono (rloopB w.heap.size n ga ma capa pa ps pb la ca ls cs lb cb ss bs fa X2 wb w2 HB2.out hma hn hlb HD.out _ ⟨rfl, rfl, rfl, rfl⟩ rfl HX2.out (by exact HR2.out) _ ?_)
  intro t3 w3 X3 hF hX3 hR3 hb3
  obtain ⟨f0, f1, f2, f3⟩ := hF
  rw [open_145 t3 f0]
  obtain ⟨v7', f7⟩ : ∃ v7, v7 = sl t3 7 := ⟨_, rfl⟩
  rw [← f7] at hR3 ⊢
  simp only [f1, f2, f3]
  clear f0 f1 f2 f3 f7 HR2 HX2 HB2 HD
  have hmk := make_by n hn w3
  have dM := At.new w3 (byC (List.replicate n default)) 67
  have hb4 := below_box1 w3 (.cells (byC (List.replicate n default)) 67)
  have hR4 := hR3.below hb4
  have hF4 := hR3.fresh (Nat.le_refl w3.heap.size)
  have HB4 := Lib.hid (hb3.trans (hb4.mono hb3.size))
  have hltM := dM.lt
  generalize hw4 : w3.alloc (.cells (byC (List.replicate n default)) 67) = w4 at *
  have HW4 := Lib.hid hw4
  have HDM := Lib.hid dM
  generalize w3.heap.size = PM at *
  have hlr : (List.replicate n (default : BY)).length = n := by simp
  generalize List.replicate n (default : BY) = L at *
  have hb5 := below_box1 w4 (.cells #[.slice none 0 0, .slice (some ⟨PM, 0, none⟩) n n] 24)
  have ok1 : HbOK w4 v7' ⟨none, 0, []⟩ := ⟨⟨by simp, rfl, fun h => by simp at h⟩, by simp, fun h => by simp at h⟩
  have ok2 : HbOK w4 v7' ⟨some ⟨PM, 0, none⟩, n, L⟩ := ⟨by dsimp only; rw [hlr]; exact bys_of_at dM hlr (by omega), by dsimp only; omega, fun _ => ⟨PM, 0, rfl, hltM, hF4⟩⟩
  have OK1 := Lib.hid (ok1.below hb5)
  have OK2 := Lib.hid (ok2.below hb5)
  have HR5 := Lib.hid (hR4.below hb5)
  have HB5 := Lib.hid (HB4.out.trans (hb5.mono HB4.out.size))
  obtain ⟨mX, hmX⟩ : ∃ mX, mX = X3.length := ⟨_, rfl⟩
  have hown := HR5.out.1
  rw [← hmX] at hown hX3
  have HMX := Lib.hid hmX
  have HLR := Lib.hid hlr
  obtain ⟨j0, gi, gz0, gz1, gz2⟩ := info_parts Try.infoBys
  clear hw4 dM hb4 hR3 hR4 hb3 hb5 ok1 ok2 hmX hlr hF4 hltM
  go_wp2_with (first | (at_builtin; go_must (refine wpList_append_lies _ rfl _ _ 29 rfl wb.heap.size 24 j0 _ 1 24 Try.underlying29 gi gz0 gz1 gz2 rfl (by decide) v7' mX (X3.map hbV) rfl hown ⟨w4.heap.size, 0, none⟩ 2 2 [.slice none 0 0, .slice (some ⟨PM, 0, none⟩) n n] rfl rfl (World.news_of_block (cs := #[.slice none 0 0, .slice (some ⟨PM, 0, none⟩) n n]) (t := 24) (fr := (0, 0)) (heap_alloc_new w4 _)) (by simp [Value.oneCell']) (by decide) (by unfold maxLen; omega) (by omega) HB5.out.size _ rfl ?_)))
  intro g cap w10 hown4 hgrow hat hlt
  have hrow4 := HR5.out.append (n := mX) (m := 2) (Y := [⟨none, 0, []⟩, ⟨some ⟨PM, 0, none⟩, n, L⟩]) HMX.out.symm rfl (by simp [hbV, HLR.out]) (fun y hy => by
    simp at hy
    rcases hy with rfl | rfl
    · exact OK1.out
    · exact OK2.out) hown4 hgrow (by simpa using hat)
  have hb6 := HB5.out.grown hgrow HB5.out.size (fun k hk => ownY_ge hown hk)
  have fin : RowsP w (.returned (.slice (some ⟨g, 0, none⟩) (mX + 2) cap)) w10 := ⟨g, mX + 2, cap, X3 ++ [⟨none, 0, []⟩, ⟨some ⟨PM, 0, none⟩, n, L⟩], rfl, by rw [List.length_append, ← HMX.out]; rfl, by omega, by rw [← HSZ.out]; exact hrow4, HB0.out.trans (hb6.mono HB0.out.size)⟩
  have FIN := Lib.hid fin
  clear fin hrow4 hb6 hown hown4 hgrow hat hlt gi gz0 gz1 gz2 OK1 OK2 HR5 HB5 HB4
  go_wp2_with fail
  go_ret
  exact FIN.out
end Go.Proofs.Ytnhbaigagphpmaa
