/- Frames of many slots as a row in a variable; loops and regions taken out of the translation. -/
import Derived.Test.YtnhbaigagphpmaaBase
import Derived.Deep.LoopGhost
import Derived.Deep.RegionHeld3
import Derived.Test.YtnhbaigagphpmaaKPts
import Derived.Test.YtnhbaigagphpmaaKMach
import Derived.Test.YtnhbaigagphpmaaKWakes
import Derived.Test.YtnhbaigagphpmaaKEqB
import Derived.Test.YtnhbaigagphpmaaKRStoreO
import Derived.Deep.Cut
import Derived.Deep.CutRange
namespace Go.Proofs.Ytnhbaigagphpmaa
open Go.ChangeShapes Go.WideShapes Go.ChangeAt Go.RowKit Go.Joins Go.Deep
set_option linter.unusedVariables false

/-- a slot of a frame -/
def sl (t : Array Value) (n : Nat) : Value := t.getD n undef
theorem frame_list (t : Array Value) (n : Nat) (h : t.size = n) : t = ((List.range n).map (sl t)).toArray := by
  apply Array.ext
  · simp [h]
  · intro i h1 h2
    simp [sl, h1]
def firstLoop : Code → Option Code
  | .loop c => some c
  | .seq a b => match firstLoop a with
    | some c => some c
    | none => firstLoop b
  | .block _ c => firstLoop c
  | .scope c => firstLoop c
  | .cond _ a b => match firstLoop a with
    | some c => some c
    | none => firstLoop b
  | _ => none
def findReg (n : Nat) : Code → Option Code
  | .region i ops d => if i = n then some (.region i ops d) else none
  | .loop c => findReg n c
  | .seq a b => match findReg n a with
    | some c => some c
    | none => findReg n b
  | .block _ c => findReg n c
  | .scope c => findReg n c
  | .cond _ a b => match findReg n a with
    | some c => some c
    | none => findReg n b
  | _ => none
theorem noPanic_mono {P : Program} {c : Code} {Q : Exit → Act → World → Prop} {a : Act} {w : World} (h : c.wp P (NoPanic Q) a w) : c.wp P Q a w := Code.wp_mono NoPanic.imp h
end Go.Proofs.Ytnhbaigagphpmaa

/- MemStores: its frames; Store of anything; what spoils its answer. -/
namespace Go.Proofs.Ytnhbaigagphpmaa
open Go.ChangeShapes Go.WideShapes Go.ChangeAt Go.RowKit Go.Joins Go.Deep
set_option linter.unusedVariables false

theorem open_180 (t : Array Value) (h : t.size = 180) : t = #[sl t 0, sl t 1, sl t 2, sl t 3, sl t 4, sl t 5, sl t 6, sl t 7, sl t 8, sl t 9, sl t 10, sl t 11, sl t 12, sl t 13, sl t 14, sl t 15, sl t 16, sl t 17, sl t 18, sl t 19, sl t 20, sl t 21, sl t 22, sl t 23, sl t 24, sl t 25, sl t 26, sl t 27, sl t 28, sl t 29, sl t 30, sl t 31, sl t 32, sl t 33, sl t 34, sl t 35, sl t 36, sl t 37, sl t 38, sl t 39, sl t 40, sl t 41, sl t 42, sl t 43, sl t 44, sl t 45, sl t 46, sl t 47, sl t 48, sl t 49, sl t 50, sl t 51, sl t 52, sl t 53, sl t 54, sl t 55, sl t 56, sl t 57, sl t 58, sl t 59, sl t 60, sl t 61, sl t 62, sl t 63, sl t 64, sl t 65, sl t 66, sl t 67, sl t 68, sl t 69, sl t 70, sl t 71, sl t 72, sl t 73, sl t 74, sl t 75, sl t 76, sl t 77, sl t 78, sl t 79, sl t 80, sl t 81, sl t 82, sl t 83, sl t 84, sl t 85, sl t 86, sl t 87, sl t 88, sl t 89, sl t 90, sl t 91, sl t 92, sl t 93, sl t 94, sl t 95, sl t 96, sl t 97, sl t 98, sl t 99, sl t 100, sl t 101, sl t 102, sl t 103, sl t 104, sl t 105, sl t 106, sl t 107, sl t 108, sl t 109, sl t 110, sl t 111, sl t 112, sl t 113, sl t 114, sl t 115, sl t 116, sl t 117, sl t 118, sl t 119, sl t 120, sl t 121, sl t 122, sl t 123, sl t 124, sl t 125, sl t 126, sl t 127, sl t 128, sl t 129, sl t 130, sl t 131, sl t 132, sl t 133, sl t 134, sl t 135, sl t 136, sl t 137, sl t 138, sl t 139, sl t 140, sl t 141, sl t 142, sl t 143, sl t 144, sl t 145, sl t 146, sl t 147, sl t 148, sl t 149, sl t 150, sl t 151, sl t 152, sl t 153, sl t 154, sl t 155, sl t 156, sl t 157, sl t 158, sl t 159, sl t 160, sl t 161, sl t 162, sl t 163, sl t 164, sl t 165, sl t 166, sl t 167, sl t 168, sl t 169, sl t 170, sl t 171, sl t 172, sl t 173, sl t 174, sl t 175, sl t 176, sl t 177, sl t 178, sl t 179] := (frame_list t 180 h).trans (by kernel_rfl)
def loops : Code → List Code
  | .loop c => [c]
  | .seq a b => loops a ++ loops b
  | .block _ c => loops c
  | .scope c => loops c
  | .cond _ a b => loops a ++ loops b
  | _ => []
noncomputable def sBody1 : Code := ((Try.f4.body.map loops).getD []).getD 0 .skip
noncomputable def sBody2 : Code := (loops sBody1).getD 0 .skip
noncomputable def sBody3 : Code := (loops sBody2).getD 0 .skip
noncomputable def sBody4 : Code := (loops sBody3).getD 0 .skip
/-- memory that a call answers: its own, or none -/
def XAt (w : World) (base : Nat) (q : Option Addr) (n cap : Nat) (x : List BK) : Prop := (q = none ∧ n = 0 ∧ cap = 0 ∧ x = []) ∨ (∃ B, q = some ⟨B, 0, none⟩ ∧ OwnMem w base B x ∧ x.length = n ∧ n ≤ 1000)
theorem XAt.below {w w' : World} {base : Nat} {q : Option Addr} {n cap : Nat} {x : List BK} (h : XAt w base q n cap x) (hb : Below w.heap.size w w') : XAt w' base q n cap x := by
  rcases h with h | ⟨B, h1, h2, h3⟩
  · exact Or.inl h
  · exact Or.inr ⟨B, h1, h2.below hb, h3⟩
theorem XAt.isMem {w : World} {base : Nat} {q : Option Addr} {n cap : Nat} {x : List BK} (h : XAt w base q n cap x) : IsMem w q n x := by
  rcases h with ⟨h1, h2, h4, h3⟩ | ⟨B, h1, h2, h3, h4⟩
  · subst h1 h2 h3
    exact ⟨by omega, rfl, fun h => by omega⟩
  · subst h1
    exact h2.isMem h3 h4
def StoreAll (D : List (Int × List BY)) (bad ev : Int) (n : Nat) (w : World) (e : Ending) (w' : World) : Prop :=
  ∃ q cap x, e = .returned (.tuple #[.slice q n cap, .int .i64 bad, .int .i64 ev]) ∧ XAt w' w.heap.size q n cap x ∧ datM x = D ∧ Below w.heap.size w w'
def CanS (pp k : Int) (m : List BK) (p s : SC) : Prop := mayA pp ∧ mayS k s = true ∧ hasM m p = true
theorem Store_all (big : Bool) (pp k : Int) (q : Option Addr) (len cap : Nat) (m : List BK) (p s : SC) (hl : len ≤ 1000) : ∃ (D : List (Int × List BY)) (bad ev : Int) (n : Nat), (∀ w, IsMem w q len m → Calls Try.prog 22 #[.agg #[.bool big, .int .i64 pp], .slice q len cap, scV p, .int .i64 k, scV s] w (StoreAll D bad ev n w)) ∧
    ((CanS pp k m p s ∧ ev = 0 ∧ D = storeD big pp k m p s ∧ bad = reachM m p (sizN pp k) ∧ n = len) ∨ (¬ CanS pp k m p s ∧ ev = 1 ∧ D = [] ∧ bad = 0 ∧ n = 0)) := by
  by_cases h : CanS pp k m p s
  · refine ⟨storeD big pp k m p s, reachM m p (sizN pp k), 0, len, fun w hx => (Store_yes big pp k q len cap m p s h.1 h.2.1 h.2.2 w hx).mono ?_, Or.inl ⟨h, rfl, rfl, rfl, rfl⟩⟩
    rintro e w' ⟨B, capB, x, rfl, ho, hd, hxl, _, hb⟩
    exact ⟨_, capB, x, rfl, Or.inr ⟨B, rfl, ho, hxl, hl⟩, hd, hb⟩
  · refine ⟨[], 0, 1, 0, fun w hx => (Store_no big pp k q len cap m p s h w hx).mono ?_, Or.inr ⟨h, rfl, rfl, rfl, rfl⟩⟩
    rintro e w' ⟨rfl, hb⟩
    exact ⟨none, 0, [], rfl, Or.inl ⟨rfl, rfl, rfl, rfl⟩, rfl, hb⟩
theorem spoilM_0 (w : World) : Calls Try.prog 28 #[.slice none 0 0] w fun e w' => e = .returned (.tuple #[]) ∧ w = w' := by
  go_enter Try.func28, Try.ntmps28
  go_wp2
  go_loop [2] (fun v => v = .int .i64 0) (fun _ => 0)
  case atStart => rfl
  case round =>
    subst hrel
    go_wp2
    go_end0
    exact ⟨rfl, rfl⟩
theorem spoilX (base : Nat) (q : Option Addr) (n cap : Nat) (x : List BK) (w : World) (h : XAt w base q n cap x) :
    Calls Try.prog 28 #[.slice q n cap] w fun e w' => e = .returned (.tuple #[]) ∧ Below base w w' := by
  rcases h with ⟨h1, h2, h4, h3⟩ | ⟨B, h1, h2, h3, h4⟩
  · subst h1 h2 h3 h4
    refine (spoilM_0 w).mono ?_
    rintro e w' ⟨rfl, rfl⟩
    exact ⟨rfl, Below.refl _ _⟩
  · subst h1
    exact spoilM_any B n cap base x w h2 h3 h4
/-- what the inner loop reads -/
def StD (w : World) (B bm om lm cm i : Nat) (mq : Option Addr) (mc l : Nat) (mm : List BK) (qi : Option Addr) (mi : List BK) (gp np : Nat) (Lp : List SC) (AX : Nat) (big : Bool) (pp : Int) (gv nv : Nat) (Vs : List SC) : Prop :=
  w.cell? ⟨B, 0, none⟩ = some (.slice (some ⟨bm, om, none⟩) lm cm) ∧ w.cell? ⟨bm, om + i, none⟩ = some (.slice mq l mc) ∧ IsMem w mq l mm ∧ IsMem w qi l mi ∧ ScRow w gp np Lp ∧ At w AX #[.bool big, .int .i64 pp] 38 ∧ ScRow w gv nv Vs
theorem StD.below {w w' : World} {B bm om lm cm i : Nat} {mq : Option Addr} {mc l : Nat} {mm : List BK} {qi : Option Addr} {mi : List BK} {gp np : Nat} {Lp : List SC} {AX : Nat} {big : Bool} {pp : Int} {gv nv : Nat} {Vs : List SC} (h : StD w B bm om lm cm i mq mc l mm qi mi gp np Lp AX big pp gv nv Vs) (hb : Below w.heap.size w w') : StD w' B bm om lm cm i mq mc l mm qi mi gp np Lp AX big pp gv nv Vs := by
  obtain ⟨h1, h2, h3, h4, h5, h6, h7⟩ := h
  exact ⟨cell_below h1 hb, cell_below h2 hb, h3.below hb, h4.below hb, h5.below hb, At.below' hb h6, h7.below hb⟩
theorem keep10 {w w' : World} {p0 p1 p2 p3 p4 p5 p6 p7 p8 p9 : Addr} {v0 v1 v2 v3 v4 v5 v6 v7 v8 v9 : Value} (h : w.cell? p0 = some v0 ∧ w.cell? p1 = some v1 ∧ w.cell? p2 = some v2 ∧ w.cell? p3 = some v3 ∧ w.cell? p4 = some v4 ∧ w.cell? p5 = some v5 ∧ w.cell? p6 = some v6 ∧ w.cell? p7 = some v7 ∧ w.cell? p8 = some v8 ∧ w.cell? p9 = some v9) (hb : Below w.heap.size w w') : w'.cell? p0 = some v0 ∧ w'.cell? p1 = some v1 ∧ w'.cell? p2 = some v2 ∧ w'.cell? p3 = some v3 ∧ w'.cell? p4 = some v4 ∧ w'.cell? p5 = some v5 ∧ w'.cell? p6 = some v6 ∧ w'.cell? p7 = some v7 ∧ w'.cell? p8 = some v8 ∧ w'.cell? p9 = some v9 := by
  obtain ⟨h0, h1, h2, h3, h4, h5, h6, h7, h8, h9⟩ := h
  exact ⟨cell_below h0 hb, cell_below h1 hb, cell_below h2 hb, cell_below h3 hb, cell_below h4 hb, cell_below h5 hb, cell_below h6 hb, cell_below h7 hb, cell_below h8 hb, cell_below h9 hb⟩
def WantOut (D : List (Int × List BY)) (bad ev : Int) (n : Nat) (v16 v17 v18 : Value) (w0 wx : World) : Prop := ∃ q cap y, v16 = .int .i64 ev ∧ v17 = .int .i64 bad ∧ v18 = .slice q n cap ∧ IsMem wx q n y ∧ datM y = D ∧ Below w0.heap.size w0 wx
end Go.Proofs.Ytnhbaigagphpmaa
