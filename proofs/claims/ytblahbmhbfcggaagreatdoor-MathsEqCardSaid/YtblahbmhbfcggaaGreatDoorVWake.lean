/- The document's own: a set's only member. -/
import Derived.Test.YtblahbmhbfcggaaGreatDoorVNext2
import Derived.Test.YtblahbmhbfcggaaGreatDoorVCountM
import Derived.Test.YtblahbmhbfcggaaGreatDoorVOne
namespace Go.Proofs.YtblahbmhbfcggaaGreatDoor
open Go.ChangeShapes Go.WideShapes Go.ChangeAt Go.RowKit Go.Joins Go.Deep
set_option linter.unusedVariables false

def LeastM (M : Nat → Prop) (n : Nat) (r : Int) : Prop := (r = -1 ∧ ∀ x, n ≤ x → ¬ M x) ∨ ∃ m : Nat, r = m ∧ n ≤ m ∧ M m ∧ ∀ x, n ≤ x → M x → m ≤ x
def RNextPost (k : Nat) (no : Bool) (l h f b n : Nat) (w : World) (e : Ending) (w' : World) : Prop := ∃ r : Int, LeastM (MemV k no l h f b) n r ∧ e = .returned (.int .i64 r) ∧ Below w.heap.size w w'
theorem rNext_v (k : Nat) (no : Bool) (l h f b n : Nat) (ok : ValOk k no l h f b) (hn : n ≤ 4294967296) (w : World) :
    Calls Tryz.prog 17 #[valV k no l h f b, .int .i64 n] w (RNextPost k no l h f b n w) := by
  cases no
  · refine (rNext_any k l h f b n ok.setOk hn w).mono ?_
    rintro e w' ⟨r, hr, he, hb⟩
    refine ⟨r, ?_, he, hb⟩
    rcases hr with ⟨h1, h2⟩ | ⟨m, h1, h2, h3, h4⟩
    · exact Or.inl ⟨h1, fun x hx hM => h2 x hx hM.2⟩
    · exact Or.inr ⟨m, h1, h2, ⟨rfl, h3⟩, fun x hx hM => h4 x hx hM.2⟩
  · refine (rNext_no k l h f b n w).mono ?_
    rintro e w' ⟨he, hb⟩
    exact ⟨-1, Or.inl ⟨rfl, fun x hx hM => by cases hM.1⟩, he, hb⟩
def OnlyRes (M : Nat → Prop) (x : Int) (is : Bool) : Prop := (is = true ∧ ∃ m : Nat, x = m ∧ ∀ z, M z ↔ z = m) ∨ (is = false ∧ ∀ m : Nat, ¬ ∀ z, M z ↔ z = m)
def OnlyPost (k : Nat) (no : Bool) (l h f b : Nat) (w : World) (e : Ending) (w' : World) : Prop := ∃ x is, OnlyRes (MemV k no l h f b) x is ∧ e = .returned (.tuple #[.int .i64 x, .bool is]) ∧ Below w.heap.size w w'
set_option maxRecDepth 100000 in
set_option maxHeartbeats 1600000 in
theorem rOnly_v (k : Nat) (no : Bool) (l h f b : Nat) (ok : ValOk k no l h f b) (w : World) :
    Calls Tryz.prog 20 #[valV k no l h f b] w (OnlyPost k no l h f b w) := by
  have d0 := At.new w #[.int .i64 k, .bool no, .int .i64 l, .int .i64 h, .int .i64 f, .int .i64 b] 30
  have hb0 : Below w.heap.size w (w.alloc (.cells #[.int .i64 k, .bool no, .int .i64 l, .int .i64 h, .int .i64 f, .int .i64 b] 30)) := (Below.refl _ _).alloc (Nat.le_refl _) _
  have hp := ok.pat.hk.pow
  have cN := fun w => rNext_v k no l h f b 0 ok (by omega) w
  go_enter Tryz.func20, Tryz.ntmps20
  go_wp2_with fail
  refine (cN _).mono ?_
  rintro e w1 ⟨r, hr, rfl, hb1⟩
  have d1 := At.below' hb1 d0
  have k0 : w1.cell? ⟨w.heap.size, 0, none⟩ = some (.int .i64 k) := d1.cell 0 rfl
  have k1 : w1.cell? ⟨w.heap.size, 1, none⟩ = some (.bool no) := d1.cell 1 rfl
  have k2 : w1.cell? ⟨w.heap.size, 2, none⟩ = some (.int .i64 l) := d1.cell 2 rfl
  have k3 : w1.cell? ⟨w.heap.size, 3, none⟩ = some (.int .i64 h) := d1.cell 3 rfl
  have k4 : w1.cell? ⟨w.heap.size, 4, none⟩ = some (.int .i64 f) := d1.cell 4 rfl
  have k5 : w1.cell? ⟨w.heap.size, 5, none⟩ = some (.int .i64 b) := d1.cell 5 rfl
  have hbE := hb0.trans (hb1.mono hb0.size)
  clear d0 d1 hb0 hb1 cN
  rcases hr with ⟨rfl, hno⟩ | ⟨m, rfl, hm0, hmM, hml⟩
  · have fin : OnlyRes (MemV k no l h f b) (-1) false := Or.inr ⟨rfl, fun m hm => hno m (Nat.zero_le _) ((hm m).2 rfl)⟩
    clear hno
    go_wp2_with fail
    go_ret2
    exact ⟨_, _, fin, rfl, hbE⟩
  · have hmlt : m < 4294967296 := by have := hmM.2.lt; omega
    have cM := fun w => rNext_v k no l h f b (m + 1) ok (by omega) w
    have e1 : ((m + 1 : Nat) : Int) = (m : Int) + 1 := by omega
    rw [e1] at cM
    clear e1
    have t0 : decide ((0 : Int) ≤ (m : Int)) = true := by simp
    go_wp2_with fail
    refine (cM _).mono ?_
    rintro e w2 ⟨r2, hr2, rfl, hb2⟩
    have hbF := hbE.trans (hb2.mono hbE.size)
    clear cM k0 k1 k2 k3 k4 k5 hb2 hbE
    rcases hr2 with ⟨rfl, hno⟩ | ⟨m2, rfl, hm20, hm2M, _⟩
    · have fin : OnlyRes (MemV k no l h f b) m true := Or.inl ⟨rfl, m, rfl, fun z => ⟨fun hz => by
        have h1 := hml z (Nat.zero_le _) hz
        rcases Nat.lt_or_ge z (m + 1) with h2 | h2
        · omega
        · exact absurd hz (hno z h2), fun hz => by rw [hz]; exact hmM⟩⟩
      clear hno hml hmM
      go_wp2_with fail
      go_ret2
      exact ⟨_, _, fin, rfl, hbF⟩
    · have fin : OnlyRes (MemV k no l h f b) m false := Or.inr ⟨rfl, fun q hq => by
        have h1 := (hq m).1 hmM
        have h2 := (hq m2).1 hm2M
        omega⟩
      have t1 : decide ((m2 : Int) < 0) = false := by simp
      clear hml hmM hm2M
      go_wp2_with fail
      go_ret2
      exact ⟨_, _, fin, rfl, hbF⟩
end Go.Proofs.YtblahbmhbfcggaaGreatDoor

/- Slices of sets that came in. -/
namespace Go.Proofs.YtblahbmhbfcggaaGreatDoor
open Go.ChangeShapes Go.WideShapes Go.ChangeAt Go.RowKit Go.Joins Go.Deep
set_option linter.unusedVariables false

structure VI where
  k : Int
  no : Bool
  l : Int
  h : Int
  f : Int
  b : Int
instance : Inhabited VI := ⟨⟨0, false, 0, 0, 0, 0⟩⟩
def ValCells (w : World) (b o : Nat) (v : VI) : Prop :=
  w.cell? ⟨b, o, none⟩ = some (.int .i64 v.k) ∧ w.cell? ⟨b, o + 1, none⟩ = some (.bool v.no) ∧ w.cell? ⟨b, o + 2, none⟩ = some (.int .i64 v.l) ∧ w.cell? ⟨b, o + 3, none⟩ = some (.int .i64 v.h) ∧ w.cell? ⟨b, o + 4, none⟩ = some (.int .i64 v.f) ∧ w.cell? ⟨b, o + 5, none⟩ = some (.int .i64 v.b)
/-- a slice of sets that came in -/
def IsVals (w : World) (p : Option Addr) (len : Nat) (vs : List VI) : Prop :=
  vs.length = len ∧ (0 < len → ∃ b off, p = some ⟨b, off, none⟩ ∧ b < w.heap.size ∧ ∀ i (hi : i < vs.length), ValCells w b (off + i * 6) vs[i])
theorem ValCells.below {w w' : World} {b o : Nat} {v : VI} (h : ValCells w b o v) (hb : Below w.heap.size w w') : ValCells w' b o v :=
  ⟨cell_below h.1 hb, cell_below h.2.1 hb, cell_below h.2.2.1 hb, cell_below h.2.2.2.1 hb, cell_below h.2.2.2.2.1 hb, cell_below h.2.2.2.2.2 hb⟩
theorem vals_of {P : Program} {t e eb ei : TypeId} {f0 f1 f2 f3 f4 f5 : Field} (ht : P.underlying t = some (.slice e)) (he : P.underlying e = some (.struct #[f0, f1, f2, f3, f4, f5])) (hc : P.cellsOf e = 6)
    (hf0 : f0.type = ei ∧ f0.offset = 0) (hf1 : f1.type = eb ∧ f1.offset = 1) (hf2 : f2.type = ei ∧ f2.offset = 2) (hf3 : f3.type = ei ∧ f3.offset = 3) (hf4 : f4.type = ei ∧ f4.offset = 4) (hf5 : f5.type = ei ∧ f5.offset = 5)
    (hb1 : P.cellsOf eb = 1 ∧ P.underlying eb = some .bool) (hi1 : P.cellsOf ei = 1 ∧ P.underlying ei = some (.int .i64))
    {H : Type} {enc : TypeId × Value → H} {W : World} {v : Value} {y : DataW H × List MemPlace} {m : Nat} (h : DataW.trod enc P W 0 (fun _ => true) true m t [v] = some y) :
    ∃ p len cap vs, v = .slice p len cap ∧ IsVals W p len vs ∧ (len = 0 ∨ ∃ elems spare, y.1 = .slice elems spare ∧ elems.length = len) := by
  rcases open_slice ht h with ⟨hcs, _⟩ | ⟨ad, len, cap, m, n, D, Pl, hcs, _, hl, hm, hmm, hy, hx⟩
  · simp at hcs
    subst hcs
    exact ⟨none, 0, 0, [], rfl, ⟨rfl, fun h => absurd h (by omega)⟩, Or.inl rfl⟩
  · simp at hcs
    subst hcs
    have each : ∀ i, i < len → ∃ x : VI, W.cell? (ad.add (i * 6)) = some (.int .i64 x.k) ∧ W.cell? (ad.add (i * 6 + 1)) = some (.bool x.no) ∧ W.cell? (ad.add (i * 6 + 2)) = some (.int .i64 x.l) ∧ W.cell? (ad.add (i * 6 + 3)) = some (.int .i64 x.h) ∧ W.cell? (ad.add (i * 6 + 4)) = some (.int .i64 x.f) ∧ W.cell? (ad.add (i * 6 + 5)) = some (.int .i64 x.b) := by
      intro i hi
      obtain ⟨cs', h1, h2⟩ := hx i (by simp at hmm; omega)
      rw [hc] at h1
      obtain ⟨_, hlen, hcell⟩ := World.cells?_some h1
      obtain ⟨xs, n', _, _, _, hxl, hf⟩ := DataW.trod_struct he h2
      obtain ⟨c0, c1, c2, c3, c4, c5, rfl⟩ : ∃ c0 c1 c2 c3 c4 c5, cs' = [c0, c1, c2, c3, c4, c5] := by
        match cs', hlen with
        | [c0, c1, c2, c3, c4, c5], _ => exact ⟨c0, c1, c2, c3, c4, c5, rfl⟩
      obtain ⟨y0, y1, y2, y3, y4, y5, rfl⟩ : ∃ y0 y1 y2 y3 y4 y5, xs = [y0, y1, y2, y3, y4, y5] := by
        match xs, hxl with
        | [y0, y1, y2, y3, y4, y5], _ => exact ⟨y0, y1, y2, y3, y4, y5, rfl⟩
      have t0 := hf 0 f0 rfl
      have t1 := hf 1 f1 rfl
      have t2 := hf 2 f2 rfl
      have t3 := hf 3 f3 rfl
      have t4 := hf 4 f4 rfl
      have t5 := hf 5 f5 rfl
      rw [hf0.1, hf0.2, hi1.1] at t0
      rw [hf1.1, hf1.2, hb1.1] at t1
      rw [hf2.1, hf2.2, hi1.1] at t2
      rw [hf3.1, hf3.2, hi1.1] at t3
      rw [hf4.1, hf4.2, hi1.1] at t4
      rw [hf5.1, hf5.2, hi1.1] at t5
      simp only [List.drop_zero, List.drop_succ_cons, List.take_succ_cons, List.take_zero, List.getElem?_cons_zero, List.getElem?_cons_succ] at t0 t1 t2 t3 t4 t5
      obtain ⟨a0, e0, _⟩ := DataW.trod_int hi1.2 t0
      obtain ⟨a1, e1, _⟩ := DataW.trod_bool hb1.2 t1
      obtain ⟨a2, e2, _⟩ := DataW.trod_int hi1.2 t2
      obtain ⟨a3, e3, _⟩ := DataW.trod_int hi1.2 t3
      obtain ⟨a4, e4, _⟩ := DataW.trod_int hi1.2 t4
      obtain ⟨a5, e5, _⟩ := DataW.trod_int hi1.2 t5
      simp at e0 e1 e2 e3 e4 e5
      subst e0 e1 e2 e3 e4 e5
      refine ⟨⟨a0, a1, a2, a3, a4, a5⟩, ?_, ?_, ?_, ?_, ?_, ?_⟩
      · have := hcell 0 (by omega)
        rw [add_add] at this
        simpa using this
      · have := hcell 1 (by omega)
        rw [add_add] at this
        simpa using this
      · have := hcell 2 (by omega)
        rw [add_add] at this
        simpa using this
      · have := hcell 3 (by omega)
        rw [add_add] at this
        simpa using this
      · have := hcell 4 (by omega)
        rw [add_add] at this
        simpa using this
      · have := hcell 5 (by omega)
        rw [add_add] at this
        simpa using this
    obtain ⟨f, hf⟩ := choose_lt (α := VI) each
    refine ⟨some ad, len, cap, (List.range len).map f, rfl, ⟨by simp, fun hpos => ?_⟩, Or.inr ⟨_, _, by rw [hy], by simp⟩⟩
    obtain ⟨bl, off, spot⟩ := ad
    have h0 := (hf 0 hpos).1
    have hspot : spot = none := by simpa [Addr.add] using World.cell?_spot h0
    subst hspot
    have hadd : ∀ n, (⟨bl, off, none⟩ : Addr).add n = ⟨bl, off + n, none⟩ := fun n => by
      unfold Addr.add
      by_cases h0 : n = 0 <;> simp [h0]
    refine ⟨bl, off, rfl, ?_, fun i hi => ?_⟩
    · have := World.block_lt_of_cell? W _ h0
      rw [hadd] at this
      exact this
    · have hi' : i < len := by simpa using hi
      have hh := hf i hi'
      simp only [hadd, ← Nat.add_assoc] at hh
      have e : ((List.range len).map f)[i] = f i := by simp
      rw [e]
      exact hh
end Go.Proofs.YtblahbmhbfcggaaGreatDoor

/- What the laws of layer 3 share: num, Heavy, wakes; rows of integers of the call's own. -/
namespace Go.Proofs.YtblahbmhbfcggaaGreatDoor
open Go.ChangeShapes Go.WideShapes Go.ChangeAt Go.RowKit Go.Joins Go.Deep
set_option linter.unusedVariables false

def HeavyPost (lv ln : Nat) (w : World) (e : Ending) (w' : World) : Prop := ∃ hv : Bool, e = .returned (.bool hv) ∧ (hv = false → lv ≤ 100 ∧ ln ≤ 100) ∧ Below w.heap.size w w'
theorem heavy_any (pv : Option Addr) (lv cv : Nat) (pn : Option Addr) (ln cn : Nat) (w : World) :
    Calls Tryz.prog 8 #[.agg #[.slice pv lv cv, .slice pn ln cn]] w (HeavyPost lv ln w) := by
  by_cases h1 : lv ≤ 100
  · have t0 : decide ((100 : Int) < (lv : Int)) = false := by simp; omega
    by_cases h2 : ln ≤ 100
    · have t1 : decide ((100 : Int) < (ln : Int)) = false := by simp; omega
      have fin : lv ≤ 100 ∧ ln ≤ 100 := ⟨h1, h2⟩
      clear h1 h2
      go_enter Tryz.func8, Tryz.ntmps8
      go_wp2
      go_ret
      exact ⟨false, rfl, fun _ => fin, (Below.refl _ _).alloc (Nat.le_refl _) _⟩
    · have t1 : decide ((100 : Int) < (ln : Int)) = true := by simp; omega
      clear h1 h2
      go_enter Tryz.func8, Tryz.ntmps8
      go_wp2
      go_ret
      exact ⟨true, rfl, (fun h => by cases h), (Below.refl _ _).alloc (Nat.le_refl _) _⟩
  · have t0 : decide ((100 : Int) < (lv : Int)) = true := by simp; omega
    clear h1
    go_enter Tryz.func8, Tryz.ntmps8
    go_wp2
    go_ret
    exact ⟨true, rfl, (fun h => by cases h), (Below.refl _ _).alloc (Nat.le_refl _) _⟩

theorem ok3 : ValOk 8 false 3 3 0 3 := ⟨⟨Or.inl rfl, by decide, by decide, fun i h => by simp at h⟩, by decide, by decide⟩
theorem mem3 (z : Nat) : MemV 8 false 3 3 0 3 z ↔ z = 3 := by
  constructor
  · rintro ⟨_, _, _, hr⟩
    simp at hr
    omega
  · rintro rfl
    exact ⟨rfl, by decide, fun _ _ => rfl, by simp⟩
theorem Tryz.infoInt : (Tryz.prog.info? 3).map (fun i => (i.zero, i.size, i.bytes)) = some (some (.int .i64 0), 1, 8) := by kernel_rfl
theorem wfi {n : Int} (h : -9223372036854775808 ≤ n) (h' : n ≤ 9223372036854775807) : (Lit.int .i64 n).wf = true := by
  simp [Lit.wf, IntKind.min, IntKind.max, IntKind.signed, IntKind.bits]; omega
/-- a row of the call's own, read as integers -/
theorem ints_ownR {w : World} {B : Nat} {v : Value} {n : Nat} {xs : List Int} (h : w.ownsRow B 3 1 v n (xs.map (Value.int .i64))) (hv : v ≠ .slice none 0 0) :
    ∃ g cap, v = .slice (some ⟨g, 0, none⟩) n cap ∧ xs.length = n ∧ ∀ i (hi : i < xs.length), w.cell? ⟨g, i, none⟩ = some (.int .i64 xs[i]) := by
  have hl : xs.length = n := by have := h.1; simpa using this
  obtain ⟨g, cap, rfl, hb, hg, hn, hx⟩ := ownsRow_cells h hv
  refine ⟨g, cap, rfl, hl, fun i hi => ?_⟩
  exact hx i (.int .i64 xs[i]) (by rw [List.getElem?_map, List.getElem?_eq_getElem hi]; rfl)
end Go.Proofs.YtblahbmhbfcggaaGreatDoor
