/- BytesGet: rows of rows of bytes. -/
import Derived.Test.YtnhbaigagphpmaaBPutLaw
import Derived.Test.YtnhbaigagphpmaaFrames
import Derived.Deep.AppendLies
namespace Go.Proofs.Ytnhbaigagphpmaa
open Go.ChangeShapes Go.WideShapes Go.ChangeAt Go.RowKit Go.Joins Go.Deep
set_option linter.unusedVariables false

theorem open_145 (t : Array Value) (h : t.size = 145) : t = #[sl t 0, sl t 1, sl t 2, sl t 3, sl t 4, sl t 5, sl t 6, sl t 7, sl t 8, sl t 9, sl t 10, sl t 11, sl t 12, sl t 13, sl t 14, sl t 15, sl t 16, sl t 17, sl t 18, sl t 19, sl t 20, sl t 21, sl t 22, sl t 23, sl t 24, sl t 25, sl t 26, sl t 27, sl t 28, sl t 29, sl t 30, sl t 31, sl t 32, sl t 33, sl t 34, sl t 35, sl t 36, sl t 37, sl t 38, sl t 39, sl t 40, sl t 41, sl t 42, sl t 43, sl t 44, sl t 45, sl t 46, sl t 47, sl t 48, sl t 49, sl t 50, sl t 51, sl t 52, sl t 53, sl t 54, sl t 55, sl t 56, sl t 57, sl t 58, sl t 59, sl t 60, sl t 61, sl t 62, sl t 63, sl t 64, sl t 65, sl t 66, sl t 67, sl t 68, sl t 69, sl t 70, sl t 71, sl t 72, sl t 73, sl t 74, sl t 75, sl t 76, sl t 77, sl t 78, sl t 79, sl t 80, sl t 81, sl t 82, sl t 83, sl t 84, sl t 85, sl t 86, sl t 87, sl t 88, sl t 89, sl t 90, sl t 91, sl t 92, sl t 93, sl t 94, sl t 95, sl t 96, sl t 97, sl t 98, sl t 99, sl t 100, sl t 101, sl t 102, sl t 103, sl t 104, sl t 105, sl t 106, sl t 107, sl t 108, sl t 109, sl t 110, sl t 111, sl t 112, sl t 113, sl t 114, sl t 115, sl t 116, sl t 117, sl t 118, sl t 119, sl t 120, sl t 121, sl t 122, sl t 123, sl t 124, sl t 125, sl t 126, sl t 127, sl t 128, sl t 129, sl t 130, sl t 131, sl t 132, sl t 133, sl t 134, sl t 135, sl t 136, sl t 137, sl t 138, sl t 139, sl t 140, sl t 141, sl t 142, sl t 143, sl t 144] := (frame_list t 145 h).trans (by kernel_rfl)
def loops : Code → List Code
  | .loop c => [c]
  | .seq a b => loops a ++ loops b
  | .block _ c => loops c
  | .scope c => loops c
  | .cond _ a b => loops a ++ loops b
  | _ => []
noncomputable def rowsA : Code := ((Try.f7.body.map loops).getD []).getD 0 .skip
noncomputable def rowsB : Code := ((Try.f7.body.map loops).getD []).getD 1 .skip
noncomputable def rowsC : Code := (loops rowsB).getD 0 .skip
noncomputable def rowsD : Code := (loops rowsC).getD 0 .skip
/-- a header and the bytes behind it -/
structure HB where
  q : Option Addr
  c : Nat
  ys : List BY
instance : Inhabited HB := ⟨⟨none, 0, []⟩⟩
def hbV (x : HB) : Value := .slice x.q x.ys.length x.c
/-- bytes that lie outside a row -/
def HbOK (w : World) (v : Value) (x : HB) : Prop := IsBys w x.q x.ys.length x.ys ∧ x.ys.length ≤ 4 ∧ (0 < x.ys.length → ∃ b off, x.q = some ⟨b, off, none⟩ ∧ b < w.heap.size ∧ v.ownBlock ≠ some b)
theorem HbOK.below {w w' : World} {v : Value} {x : HB} (h : HbOK w v x) (hb : Below w.heap.size w w') : HbOK w' v x := by
  obtain ⟨a, b, c⟩ := h
  exact ⟨a.below hb, b, fun h0 => by
    obtain ⟨k, off, h1, h2, h3⟩ := c h0
    exact ⟨k, off, h1, by have := hb.size; omega, h3⟩⟩
theorem IsBys.grown {w w' : World} {row : Option Nat} {p : Option Addr} {len : Nat} {xs : List BY} (h : IsBys w p len xs) (hg : w.grownBy w' row) (hne : 0 < len → ∃ b off, p = some ⟨b, off, none⟩ ∧ row ≠ some b) : IsBys w' p len xs := by
  obtain ⟨a, c, d⟩ := h
  refine ⟨a, c, fun hl => ?_⟩
  obtain ⟨b, off, h1, h2⟩ := hne hl
  obtain ⟨b', off', h3, h4, h5⟩ := d hl
  rw [h1] at h3
  cases h3
  have hh : ∀ o, w'.cell? ⟨b, o, none⟩ = w.cell? ⟨b, o, none⟩ := fun o => hg.cell_far ⟨b, o, none⟩ h4 (fun e => h2 e.symm)
  refine ⟨b, off, h1, by have := hg.size; omega, fun i hi => ?_⟩
  obtain ⟨z0, z1, z2, z3, z4⟩ := h5 i hi
  exact ⟨(hh _).trans z0, (hh _).trans z1, (hh _).trans z2, (hh _).trans z3, (hh _).trans z4⟩
theorem HbOK.grown {w w' : World} {v v' : Value} {x : HB} {g : Nat} (h : HbOK w v x) (hg : w.grownBy w' v.ownBlock) (hv : v'.ownBlock = some g) (hat : v.ownBlock = some g ∨ g = w.heap.size) : HbOK w' v' x := by
  obtain ⟨a, b, c⟩ := h
  refine ⟨a.grown hg fun h0 => ?_, b, fun h0 => ?_⟩
  · obtain ⟨k, off, h1, h2, h3⟩ := c h0
    exact ⟨k, off, h1, h3⟩
  · obtain ⟨k, off, h1, h2, h3⟩ := c h0
    refine ⟨k, off, h1, by have := hg.size; omega, ?_⟩
    rw [hv]
    rcases hat with h4 | h4
    · rw [← h4]; exact h3
    · intro h5; cases h5; omega
/-- an own row of rows of bytes -/
def HRow (base : Nat) (X : List HB) (v : Value) (w : World) : Prop := w.ownsRow base 24 1 v X.length (X.map hbV) ∧ ∀ x ∈ X, HbOK w v x
theorem HRow.below {w w' : World} {base : Nat} {X : List HB} {v : Value} (h : HRow base X v w) (hb : Below w.heap.size w w') : HRow base X v w' := by
  refine ⟨h.1.kept ⟨hb.os, hb.tape, hb.output, hb.size, fun k hk _ => hb.block k hk⟩ (row := none) (by
        rcases hh : v.ownBlock with _ | k
        · exact Or.inl rfl
        · exact Or.inr (by simp)), fun x hx => (h.2 x hx).below hb⟩
theorem HRow.append {w w' : World} {base g n m cap : Nat} {X Y : List HB} {v : Value} {news : List Value} (h : HRow base X v w) (hX : X.length = n) (hY : Y.length = m) (hn : news = Y.map hbV) (hok : ∀ y ∈ Y, HbOK w v y)
    (hown : w'.ownsRow base 24 1 (.slice (some ⟨g, 0, none⟩) (n + m) cap) (n + m) (X.map hbV ++ news)) (hg : w.grownBy w' v.ownBlock) (hat : v.ownBlock = some g ∨ g = w.heap.size) : HRow base (X ++ Y) (.slice (some ⟨g, 0, none⟩) (n + m) cap) w' := by
  subst hn
  refine ⟨by rw [List.length_append, hX, hY, List.map_append]; exact hown, fun x hx => ?_⟩
  rcases List.mem_append.1 hx with h1 | h1
  · exact (h.2 x h1).grown hg rfl hat
  · exact (hok x h1).grown hg rfl hat
theorem HRow.nil (base : Nat) (w : World) : HRow base [] (.slice none 0 0) w := ⟨World.ownsRow_nil _ _ _ _, fun x hx => by cases hx⟩
theorem HRow.fresh {w : World} {base b : Nat} {X : List HB} {v : Value} (h : HRow base X v w) (hb : w.heap.size ≤ b) : v.ownBlock ≠ some b := by
  obtain ⟨_, ⟨rfl, _⟩ | ⟨g, cap, cur, rfl, hbb, hg, _⟩⟩ := h.1
  · simp [Value.ownBlock]
  · intro h1
    simp only [Value.ownBlock, Option.some.injEq] at h1
    subst h1
    rw [Array.getElem?_eq_none hb] at hg
    cases hg
theorem HRow.old {w : World} {base b : Nat} {X : List HB} {v : Value} (h : HRow base X v w) (hb : b < base) : v.ownBlock ≠ some b := by
  obtain ⟨_, ⟨rfl, _⟩ | ⟨g, cap, cur, rfl, hbb, hg, _⟩⟩ := h.1
  · simp [Value.ownBlock]
  · intro h1
    simp only [Value.ownBlock, Option.some.injEq] at h1
    omega
theorem IsBys.cut8 {w : World} {b off len : Nat} {xs : List BY} (h : IsBys w (some ⟨b, off, none⟩) len xs) (o n : Nat) (ho : o + n ≤ len) : IsBys w (some ⟨b, off + o * 5, none⟩) n ((xs.drop o).take n) := by
  obtain ⟨a, c, d⟩ := h
  refine ⟨by omega, by rw [List.length_take, List.length_drop]; omega, fun hn => ?_⟩
  obtain ⟨b', off', he, hb, hcell⟩ := d (by omega)
  cases he
  refine ⟨b, off + o * 5, rfl, hb, fun i hi => ?_⟩
  have := hcell (o + i) (by omega)
  have e : ((xs.drop o).take n).getD i default = xs.getD (o + i) default := by
    simp only [List.getD_eq_getElem?_getD, List.getElem?_take, List.getElem?_drop, if_pos hi]
  rw [e, show off + o * 5 + i * 5 = off + (o + i) * 5 by omega]
  exact this
theorem wrapT8_2 {o n t : Nat} (h : t = o + n) (h2 : t ≤ 2000) : wrap64 ((o : Int) + (n : Int)) = (t : Int) := by unfold wrap64; omega
theorem Try.infoBys : (Try.prog.info? 24).map (fun i => (i.zero, i.size, i.bytes)) = some (some (.slice none 0 0), 1, 24) := by kernel_rfl
/-- what the rows are made of -/
def RowsD (w : World) (B : Nat) (pa ps pb : Option Addr) (la ca ls cs lb cb : Nat) (ss : List SC) (bs : List BY) (ga ma : Nat) (fa : List (Bool × Int)) : Prop :=
  At w B #[.slice pa la ca, .slice ps ls cs, .slice pb lb cb] 26 ∧ InScs w ps ls cs ss ∧ InBys w pb lb cb bs ∧ MachAt w ga ma fa
theorem RowsD.below {w w' : World} {B : Nat} {pa ps pb : Option Addr} {la ca ls cs lb cb : Nat} {ss : List SC} {bs : List BY} {ga ma : Nat} {fa : List (Bool × Int)} (h : RowsD w B pa ps pb la ca ls cs lb cb ss bs ga ma fa) (hb : Below w.heap.size w w') : RowsD w' B pa ps pb la ca ls cs lb cb ss bs ga ma fa :=
  ⟨At.below' hb h.1, h.2.1.below hb, h.2.2.1.below hb, h.2.2.2.below hb⟩
end Go.Proofs.Ytnhbaigagphpmaa
