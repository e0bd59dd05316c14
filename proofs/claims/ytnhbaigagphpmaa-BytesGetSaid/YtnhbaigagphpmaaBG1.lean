/- BytesGet: rows' first loop: those of a script. -/
import Derived.Test.YtnhbaigagphpmaaBG
import Derived.Deep.Cut
import Derived.Deep.CutRange
namespace Go.Proofs.Ytnhbaigagphpmaa
open Go.ChangeShapes Go.WideShapes Go.ChangeAt Go.RowKit Go.Joins Go.Deep
set_option linter.unusedVariables false

def FrA (t : Array Value) (v1 v2 v3 : Value) : Prop := t.size = 145 ∧ sl t 1 = v1 ∧ sl t 2 = v2 ∧ sl t 3 = v3
def RelA (B n ga ma capa : Nat) (w0 : World) (nn : Nat) (a : Act) (wr : World) : Prop :=
  ∃ t i z X, a = ⟨t, []⟩ ∧ FrA t (.int .i64 (n : Nat)) (.slice (some ⟨ga, 0, none⟩) ma capa) (.pointer (some ⟨B, 0, none⟩)) ∧ sl t 8 = .int .i64 z ∧ z = (i : Nat) ∧ i + nn = 10 ∧ X.length = i ∧ HRow w0.heap.size X (sl t 7) wr ∧ Below w0.heap.size w0 wr
set_option maxRecDepth 1000000 in
set_option maxHeartbeats 6400000 in
theorem rloopA (B n ga ma capa : Nat) (pa ps pb : Option Addr) (la ca ls cs lb cb : Nat) (ss : List SC) (bs : List BY) (fa : List (Bool × Int)) (w0 : World) (hn : 1 ≤ n ∧ n ≤ 4) (hlb : lb ≤ 300) (hD : RowsD w0 B pa ps pb la ca ls cs lb cb ss bs ga ma fa)
    (t : Array Value) (hF : FrA t (.int .i64 (n : Nat)) (.slice (some ⟨ga, 0, none⟩) ma capa) (.pointer (some ⟨B, 0, none⟩))) (fc : sl t 8 = .int .i64 0) (f7 : sl t 7 = .slice none 0 0) (Q : Exit → Act → World → Prop)
    (hQ : ∀ t w' X, FrA t (.int .i64 (n : Nat)) (.slice (some ⟨ga, 0, none⟩) ma capa) (.pointer (some ⟨B, 0, none⟩)) → X.length ≤ 10 → HRow w0.heap.size X (sl t 7) w' → Below w0.heap.size w0 w' → Q (.exit 0) ⟨t, []⟩ w') :
    (Code.loop rowsA).wp Try.prog (NoPanic Q) ⟨t, []⟩ w0 := by
  refine wp_loop_ghost_k (RelA B n ga ma capa w0) 10 ⟨t, 0, 0, [], rfl, hF, fc, rfl, by omega, rfl, by rw [f7]; exact HRow.nil _ _, Below.refl _ _⟩ ?_
  clear hF fc f7
  intro nn a wr hrel iK iJv hJ hK
  clear t
  obtain ⟨t, i, z, X, rfl, ⟨f0, f1, f2, f3⟩, fc, rfl, hin, hXl, hrow, hbd⟩ := hrel
  rw [open_145 t f0]
  obtain ⟨v7, f7⟩ : ∃ v7, v7 = sl t 7 := ⟨_, rfl⟩
  rw [← f7] at hrow ⊢
  simp only [f1, f2, f3, fc]
  clear f0 f1 f2 f3 fc f7
  conv => arg 2; whnf
  have hD2 := hD.below hbd
  have c2 : wr.cell? ⟨B, 2, none⟩ = some (.slice pb lb cb) := hD2.1.cell 2 rfl
  have hin2 : i ≤ 10 := by omega
  have hfin : i + n ≤ lb ∧ i < 10 ∨ ¬ i + n ≤ lb ∨ (i + n ≤ lb ∧ ¬ i < 10) := by omega
  obtain ⟨s, hs⟩ : ∃ s, s = i + n := ⟨_, rfl⟩
  have e1 : (i : Int) + (n : Int) = (s : Int) := by omega
  have hs0 : s ≤ 2000 := by omega
  have e2 := wrapT8_2 hs hs0
  rw [← hs] at hfin
  have hxb : X.length ≤ 10 := by omega
  rcases hfin with ⟨h1, h2⟩ | h1 | ⟨h1, h2⟩
  · have t1 : (s : Int) ≤ (lb : Int) := by omega
    have t2 : (i : Int) < 10 := by omega
    obtain ⟨hbl, hlc, _, hbc⟩ := hD2.2.2.1
    obtain ⟨bb, ob, rfl, hbb, hcells⟩ := hbc (by omega)
    have hbys : IsBys wr (some ⟨bb, ob, none⟩) lb bs := ⟨by omega, hbl, fun _ => ⟨bb, ob, rfl, hbb, hcells⟩⟩
    have hpart := hbys.cut8 i n (by omega)
    have hpl : ((bs.drop i).take n).length = n := hpart.2.1
    have hbase : bb < w0.heap.size := by
      obtain ⟨b', o', e, hlt, _⟩ := hD.2.2.1.2.2.2 (by omega)
      cases e
      exact hlt
    obtain ⟨L, hL⟩ : ∃ L, L = (bs.drop i).take n := ⟨_, rfl⟩
    rw [← hL] at hpart hpl
    have hok : HbOK wr v7 ⟨some ⟨bb, ob + i * 5, none⟩, cb - i, L⟩ := ⟨by dsimp only; rw [hpl]; exact hpart, by dsimp only; omega, fun _ => ⟨bb, ob + i * 5, rfl, hbb, hrow.old hbase⟩⟩
    have hb1 := below_box1 wr (.cells #[.slice (some ⟨bb, ob + i * 5, none⟩) n (cb - i)] 24)
    have hok1 := hok.below hb1
    have hrow1 := hrow.below hb1
    have hown := hrow1.1
    rw [hXl] at hown
    have HBD := Lib.hid (hbd.trans (hb1.mono hbd.size))
    have HOK := Lib.hid hok1
    have HROW := Lib.hid hrow1
    have HXL := Lib.hid hXl
    have HPL := Lib.hid hpl
    have HL := Lib.hid hL
    have i1 : i ≤ s := by omega
    have i2 : s ≤ cb := by omega
    have i3 : (i : Int) ≤ (s : Int) := by omega
    have i4 : (s : Int) ≤ (cb : Int) := by omega
    have i5 : s - i = n := by omega
    have i6 : ¬ cb = i := by omega
    have i7 : i ≤ cb := by omega
    obtain ⟨j0, gi, gz0, gz1, gz2⟩ := info_parts Try.infoBys
    clear hD hD2 hbl hlc hbc hcells hbys hpart hpl hok hok1 hrow hrow1 hbd hXl hs hQ hL hb1
    go_wp2_with (first | (at_builtin; go_must (refine wpList_append_lies _ rfl _ _ 29 rfl w0.heap.size 24 j0 _ 1 24 Try.underlying29 gi gz0 gz1 gz2 rfl (by decide) v7 i (X.map hbV) rfl hown ⟨wr.heap.size, 0, none⟩ 1 1 [.slice (some ⟨bb, ob + i * 5, none⟩) n (cb - i)] rfl rfl (World.news_of_block (cs := #[.slice (some ⟨bb, ob + i * 5, none⟩) n (cb - i)]) (t := 24) (fr := (0, 0)) (heap_alloc_new wr _)) (by simp [Value.oneCell']) (by decide) (by unfold maxLen; omega) (by omega) HBD.out.size _ rfl ?_)))
    intro g cap w4 hown4 hgrow hat hlt
    have hrow4 := HROW.out.append (n := i) (m := 1) (Y := [⟨some ⟨bb, ob + i * 5, none⟩, cb - i, L⟩]) HXL.out rfl (by simp [hbV, HPL.out]) (fun y hy => by simp at hy; subst hy; exact HOK.out) hown4 hgrow (by simpa using hat)
    have hb4 := HBD.out.grown hgrow HBD.out.size (fun k hk => ownY_ge hown hk)
    have HR4 := Lib.hid hrow4
    have HB4 := Lib.hid hb4
    clear hrow4 hb4 hown hown4 hgrow hat hlt gi gz0 gz1 gz2 HOK HROW HBD
    go_wp2_with fail
    refine Handed.intro (nn - 1) (by omega) (hJ _ _ _ ⟨_, i + 1, _, X ++ [⟨some ⟨bb, ob + i * 5, none⟩, cb - i, L⟩], rfl, ⟨rfl, rfl, rfl, rfl⟩, rfl, (by go_num), by omega, by simp [HXL.out], HR4.out, HB4.out⟩)
  · have t1 : decide ((s : Int) ≤ (lb : Int)) = false := by simp; omega
    clear hJ hD hD2 hs hXl
    go_wp2_with fail
    exact hQ _ _ X ⟨rfl, rfl, rfl, rfl⟩ hxb hrow hbd
  · have t1 : (s : Int) ≤ (lb : Int) := by omega
    have t2 : decide ((i : Int) < 10) = false := by simp; omega
    clear hJ hD hD2 hs hXl
    go_wp2_with fail
    exact hQ _ _ X ⟨rfl, rfl, rfl, rfl⟩ hxb hrow hbd
end Go.Proofs.Ytnhbaigagphpmaa
