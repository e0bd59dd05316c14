/- Package mem: whether a pointer is to a block there is. -/
import Derived.Test.YtnhbaigagphpmaaKOnce
namespace Go.Proofs.Ytnhbaigagphpmaa
open Go.ChangeShapes Go.WideShapes Go.ChangeAt Go.RowKit Go.Joins Go.Deep
set_option linter.unusedVariables false

def HasMPost (rb : Nat) (sl : Value) (m : List BK) (p : SC) (w : World) (e : Ending) (w' : World) : Prop :=
  e = .returned (.bool (hasM m p)) ∧ (mayM m = true → MemDone w' rb sl m) ∧ Only rb w w'
theorem scV_eq (p : Bool) (n b o : Int) : scV ⟨p, n, b, o⟩ = .agg #[.bool p, .int .i64 n, .int .i64 b, .int .i64 o] := rfl
theorem MemDone.below {w w' : World} {B rb : Nat} {sl : Value} {m : List BK} (h : MemDone w rb sl m) (hb : Below B w w') (hB : rb < B) : MemDone w' rb sl m := At.below h hb hB
theorem MemDone.lt {w : World} {rb : Nat} {sl : Value} {m : List BK} (h : MemDone w rb sl m) : rb < w.heap.size := At.lt h
theorem MemDone.sl {w : World} {rb : Nat} {sl : Value} {m : List BK} (h : MemDone w rb sl m) : w.cell? ⟨rb, 0, none⟩ = some sl := At.cell h 0 rfl
def MayYes (rb : Nat) (sl : Value) (m : List BK) (w : World) (e : Ending) (w' : World) : Prop :=
  e = .returned (.bool true) ∧ MemDone w' rb sl m ∧ Only rb w w'
def MayNo (rb : Nat) (w : World) (e : Ending) (w' : World) : Prop := e = .returned (.bool false) ∧ Only rb w w'
set_option maxRecDepth 100000 in
set_option maxHeartbeats 1600000 in
theorem has_of (rb : Nat) (q : Option Addr) (len cap : Nat) (m : List BK) (p : SC) (hl : m.length = len) (hl2 : len ≤ 1000) (w : World) (hlt : rb < w.heap.size)
    (hc : ∀ o, Calls Try.prog 65 #[.pointer (some ⟨rb, 0, none⟩)] (w.alloc o).drew (MayPost rb (.slice q len cap) m (w.alloc o).drew)) :
    Calls Try.prog 44 #[.pointer (some ⟨rb, 0, none⟩), scV p] w (HasMPost rb (.slice q len cap) m p w) := by
  have cP := fun w => kPointer_any p w
  unfold HasMPost hasM
  obtain ⟨pp, pn, pb, po⟩ := p
  rw [scV_eq] at cP ⊢
  have hO : Only rb w (w.alloc (.cells #[.bool pp, .int .i64 pn, .int .i64 pb, .int .i64 po] 33)).drew := ((Only.refl _ _).alloc (Nat.le_of_lt hlt) _).drew
  have cM := hc (.cells #[.bool pp, .int .i64 pn, .int .i64 pb, .int .i64 po] 33)
  have dX := (At.new w #[.bool pp, .int .i64 pn, .int .i64 pb, .int .i64 po] 33).drew
  have hne : w.heap.size ≠ rb := by omega
  have HL := Lib.hid hl
  dsimp only
  clear hc hl
  cases hm : mayM m
  · have cM2 : Calls Try.prog 65 #[.pointer (some ⟨rb, 0, none⟩)] _ (MayNo rb _) := cM.mono fun e w' h => ⟨by rw [h.1, hm], h.2.2⟩
    clear cM
    have HM := Lib.hid hm
    clear hm
    go_enter Try.func44, Try.ntmps44
    go_wp2_with fail
    first | (go_region_with ((go_at_call 65; (refine cM2.mono ?_); rintro e w2 ⟨rfl, hb2⟩))) | fail "region"
    all_goals
      go_wp2
      go_ret
      exact ⟨rfl, (fun h => by cases h), hO.trans hb2⟩
  · have cM2 : Calls Try.prog 65 #[.pointer (some ⟨rb, 0, none⟩)] _ (MayYes rb (.slice q len cap) m _) := cM.mono fun e w' h => ⟨by rw [h.1, hm], h.2.1 hm, h.2.2⟩
    clear cM
    have HM := Lib.hid hm
    clear hm
    cases hp : mayS 7 ⟨pp, pn, pb, po⟩
    · rw [hp] at cP
      clear hp
      go_enter Try.func44, Try.ntmps44
      go_wp2_with fail
      first | (go_region_with (first
        | (go_at_call 65; (refine cM2.mono ?_); rintro e w2 ⟨rfl, hd2, hb2⟩
           have dX2 := hb2.at dX hne
           have x0 : w2.cell? ⟨w.heap.size, 0, none⟩ = some (.bool pp) := dX2.cell 0 rfl
           have x1 : w2.cell? ⟨w.heap.size, 1, none⟩ = some (.int .i64 pn) := dX2.cell 1 rfl
           have x2 : w2.cell? ⟨w.heap.size, 2, none⟩ = some (.int .i64 pb) := dX2.cell 2 rfl
           have x3 : w2.cell? ⟨w.heap.size, 3, none⟩ = some (.int .i64 po) := dX2.cell 3 rfl)
        | (go_at_call 66; (with_reducible refine (cP _).mono ?_); rintro e w3 ⟨rfl, hb3⟩))) | fail "region"
      all_goals
        go_wp2
        go_ret
        exact ⟨rfl, fun _ => hd2.below hb3 hd2.lt, (hO.trans hb2).trans (Only.of hb3 (Nat.le_of_lt hd2.lt))⟩
    · rw [hp] at cP
      clear hp
      have hcase : decide (pb < (m.length : Int)) = decide (pb < (len : Int)) := by rw [HL.out]
      rw [hcase]
      clear hcase
      cases hlt2 : decide (pb < (len : Int))
      all_goals
        go_enter Try.func44, Try.ntmps44
        go_wp2_with fail
        first | (go_region_with (first
          | (go_at_call 65; (refine cM2.mono ?_); rintro e w2 ⟨rfl, hd2, hb2⟩
             have dX2 := hb2.at dX hne
             have x0 : w2.cell? ⟨w.heap.size, 0, none⟩ = some (.bool pp) := dX2.cell 0 rfl
             have x1 : w2.cell? ⟨w.heap.size, 1, none⟩ = some (.int .i64 pn) := dX2.cell 1 rfl
             have x2 : w2.cell? ⟨w.heap.size, 2, none⟩ = some (.int .i64 pb) := dX2.cell 2 rfl
             have x3 : w2.cell? ⟨w.heap.size, 3, none⟩ = some (.int .i64 po) := dX2.cell 3 rfl)
          | (go_at_call 66; (with_reducible refine (cP _).mono ?_); rintro e w3 ⟨rfl, hb3⟩
             have y2 : w3.cell? ⟨w.heap.size, 2, none⟩ = some (.int .i64 pb) := (At.below' hb3 dX2).cell 2 rfl
             have y4 : w3.cell? ⟨rb, 0, none⟩ = some (.slice q len cap) := (hd2.below hb3 hd2.lt).sl))) | fail "region"
        all_goals
          go_wp2
          go_ret
          exact ⟨rfl, fun _ => hd2.below hb3 hd2.lt, (hO.trans hb2).trans (Only.of hb3 (Nat.le_of_lt hd2.lt))⟩
theorem hasM_first (rb : Nat) (q : Option Addr) (len cap : Nat) (m : List BK) (p : SC) (w0 w : World) (hx : IsMem w0 q len m) (hb0 : Below w0.heap.size w0 w) (hrb : w0.heap.size ≤ rb) (h : MemNew w rb (.slice q len cap)) :
    Calls Try.prog 44 #[.pointer (some ⟨rb, 0, none⟩), scV p] w (HasMPost rb (.slice q len cap) m p w) :=
  has_of rb q len cap m p hx.2.1 hx.1 w (At.lt h) fun o => mayBe_first rb q len cap m w0 _ hx (hb0.alloc hb0.size o).drew hrb (At.drew (At.alloc h o))
theorem hasM_again (rb : Nat) (q : Option Addr) (len cap : Nat) (m : List BK) (p : SC) (hl : m.length = len) (hl2 : len ≤ 1000) (hm : mayM m = true) (w : World) (h : MemDone w rb (.slice q len cap) m) :
    Calls Try.prog 44 #[.pointer (some ⟨rb, 0, none⟩), scV p] w (HasMPost rb (.slice q len cap) m p w) :=
  has_of rb q len cap m p hl hl2 w h.lt fun o => (mayBe_again rb q len cap m hl hm _ (At.drew (At.alloc h o))).mono fun _ _ ⟨a, b⟩ => ⟨by rw [hm]; exact a, (fun _ => by rw [← b]; exact At.drew (At.alloc h o)), by rw [← b]; exact Only.refl _ _⟩
end Go.Proofs.Ytnhbaigagphpmaa
