/- Package tree, page: its text, told once. -/
import Derived.Test.YtkhklndmbfbnoaaGreatDoorPgW
import Derived.Test.YtkhklndmbfbnoaaGreatDoorLOnce
namespace Go.Proofs.YtkhklndmbfbnoaaGreatDoor
open Go.ChangeShapes Go.WideShapes Go.ChangeAt Go.RowKit Go.Joins Go.Deep
set_option linter.unusedVariables false

/-- nodes of programs and stops, each one's parts ahead of it -/
def GoodX (X : List NX) : Prop := ∀ i x, X[i]? = some x → ((x.x.op = 1 ∧ x.x.ps ≠ []) ∨ x.x.op = 23) ∧ ∀ p ∈ x.x.ps, 0 ≤ p ∧ p < ((i : Nat) : Int)
theorem write_all {w0 : World} {P : Nat} {nv fo : Value} {dn st wo : Int} (X : List NX) (hN : IsNds w0 nv X) (htab : Tab w0) (hX : GoodX X) : ∀ (f i : Nat), i < X.length → i < f → ∀ (L : List Tx) (w : World) (g : Option Nat), PW w0 P nv dn st fo wo w g L → L.length + (wordsN X f ((i : Nat) : Int)).length ≤ 100000 → Calls Tryz.prog 71 #[.pointer (some ⟨P, 0, none⟩), .int .i64 (i : Nat)] w (WP w0 P nv dn st fo wo g (L ++ wordsN X f ((i : Nat) : Int)) w) := by
  intro f
  induction f with
  | zero => intro i _ h; omega
  | succ f ih =>
    intro i hi hif L w g h hL
    have hx : X[i]? = some X[i] := List.getElem?_eq_getElem hi
    have hw : wordsN X (f + 1) ((i : Nat) : Int) = wrun (wordsN X f) (patF X[i].x.op) X[i].x.ps := by
      unfold wordsN
      rw [Int.toNat_natCast, hx]
    rw [hw] at hL ⊢
    refine write_at X hN htab i X[i] hx (hX i _ hx).1 (wordsN X f) (fun p hp w g L h hL => ?_) L hL w g h
    obtain ⟨hp0, hpi⟩ := (hX i _ hx).2 p hp
    obtain ⟨k, rfl⟩ : ∃ k : Nat, p = (k : Int) := ⟨p.toNat, by omega⟩
    exact ih k (by omega) (by omega) L w g h hL
theorem PW.list {w0 : World} {P : Nat} {nv fo : Value} {dn st wo : Int} {w : World} {g : Option Nat} {L : List Tx} {V : Value} (hr : w.ownsRow (P + 1) 9 1 V L.length (L.map txV)) (hl : L.length ≤ 100000) (hx : ∀ x ∈ L, x.length ≤ 7000) : ListAt w V L := by
  obtain ⟨hl1, ⟨rfl, h0⟩ | ⟨k, cap, cur, rfl, hbb, hG, hn, hm, hc, hxs⟩⟩ := hr
  · exact ⟨none, 0, by rw [h0], hl, hx, fun h => by omega⟩
  · refine ⟨_, cap, rfl, hl, hx, fun _ => ⟨k, cur, (0, 0), rfl, hG, fun i hi => ?_⟩⟩
    have h9 : (L.map txV)[i]? = some (strV (L.getD i [])) := by rw [List.getElem?_map, List.getD_eq_getElem?_getD, List.getElem?_eq_getElem hi]; rfl
    rw [← hxs, List.getElem?_take, if_pos (by omega)] at h9
    simpa using h9
set_option maxRecDepth 100000 in
set_option maxHeartbeats 3200000 in
theorem text1_any {w0 : World} {P : Nat} {nv : Value} (X : List NX) (hN : IsNds w0 nv X) (htab : Tab w0) (hX : GoodX X) (hX0 : 0 < X.length) (WL : List Tx) (hWL : WL = wordsN X X.length ((X.length - 1 : Nat) : Int)) (hall : allW WL = true) (hle : WL.length ≤ 1000) (w : World) (B : Nat) (hB : At w B #[.pointer (some ⟨P, 0, none⟩)] 91) (h : PW w0 P nv 0 1 (.string ⟨#[]⟩) 0 w none []) :
    Calls Tryz.prog 70 #[.pointer (some ⟨B, 0, none⟩)] w fun e w' => e = .returned (.tuple #[]) ∧ ∃ g, PW w0 P nv 0 1 (txV (joinL WL)) 0 w' g WL ∧ Trn P none g w w' := by
  have cW : ∀ w', PW w0 P nv 0 1 (.string ⟨#[]⟩) 0 w' none [] → Calls Tryz.prog 71 #[.pointer (some ⟨P, 0, none⟩), .int .i64 ((X.length - 1 : Nat) : Int)] w' (WP w0 P nv 0 1 (.string ⟨#[]⟩) 0 none WL w') := fun w' h' => by
    have := write_all X hN htab hX X.length (X.length - 1) (by omega) (by omega) [] w' none h' (by rw [← hWL]; show 0 + _ ≤ _; omega)
    rw [← hWL, List.nil_append] at this
    exact this
  have hPB := (PW.gt h hB (by decide) (by decide)).1
  have b0 := hB.cell 0 rfl
  obtain ⟨q, cap, rfl, hlX, _, _⟩ := id hN
  have p0 : w.cell? ⟨P, 0, none⟩ = some (.slice q X.length cap) := by obtain ⟨V, hA, _⟩ := h; exact hA.cell 0 rfl
  obtain ⟨n, hn⟩ : ∃ n, n = X.length := ⟨_, rfl⟩
  rw [← hn] at p0 cW hX0 h hlX
  unfold maxLen at hlX
  have e1 : IntKind.i64.wrap ((n : Int) - 1) = ((n - 1 : Nat) : Int) := by rw [IntKind.wrap_i64]; omega
  have hwd := (Below.refl w.heap.size w).drew
  have cW1 := cW _ (h.grow hwd)
  have hWx : ∀ x ∈ WL, x.length ≤ 7000 := fun x hx => by have := word_le (List.all_eq_true.1 hall x hx); omega
  have HJ := Lib.hid (And.intro hall (And.intro hle (And.intro hWx hn)))
  have HB := Lib.hid (And.intro hB h)
  rw [← hn]
  clear hWL hN hn hall hle hWx h hB cW hX
  go_enter Tryz.func70, Tryz.ntmps70
  go_upto_region 0 with (fail)
  go_region_held3 (fun w' => w'.cell? ⟨B, 0, none⟩ = some (.pointer (some ⟨P, 0, none⟩)) ∧ w'.cell? ⟨P, 0, none⟩ = some (.slice q n cap)) (first | exact ⟨b0, p0⟩ | exact ⟨b5, p5⟩) (first | (go_at_call 71; refine cW1.mono ?_; rintro e w5 ⟨rfl, g5, hP5, t5d⟩; have t5 : Trn P none g5 w w5 := (Trn.of (Onl.of hwd (Nat.le_of_lt HB.out.2.lt))).trans t5d; have hB5 := t5.at HB.out.1 hPB (fun e => by cases e); have b5 := hB5.cell 0 rfl; have p5 : w5.cell? ⟨P, 0, none⟩ = some (.slice q n cap) := (Classical.choose_spec hP5).1.cell 0 rfl))
  obtain ⟨V, hA5, hg5, hr5, hBl5, h05⟩ := hP5
  have hL5 := PW.list (w0 := w0) (nv := .slice q n cap) (fo := .string ⟨#[]⟩) (dn := 0) (st := 1) (wo := 0) (g := g5) hr5 (by have := HJ.out.2.1; omega) HJ.out.2.2.1
  obtain ⟨q5, c5, hV5, _⟩ := id hL5
  have hl5 : WL.length = WL.length := rfl
  subst hV5
  have b5' : w5.cell? ⟨B, 0, none⟩ = some (.pointer (some ⟨P, 0, none⟩)) := b5
  have v5 : w5.cell? ⟨P, 4, none⟩ = some (.slice q5 WL.length c5) := hA5.cell 4 rfl
  have cJ : ∀ w', Below w5.heap.size w5 w' → Calls Tryz.prog 72 #[.slice q5 WL.length c5] w' fun e w9 => e = .returned (.tuple #[txV (joinL WL), .int .i64 0]) ∧ Below w'.heap.size w' w9 := fun w' hb => by
    have := join_any q5 WL.length c5 WL w' (hL5.below hb)
    unfold JoinPost at this
    rw [HJ.out.1, if_pos rfl, if_pos rfl] at this
    exact this
  have HC := Lib.hid cJ
  have HR5 := Lib.hid (And.intro hA5 (And.intro hg5 (And.intro hr5 (And.intro hBl5 (And.intro h05 (And.intro t5 hB5))))))
  clear cJ hL5 hA5 hg5 hr5 hBl5 h05 t5 t5d hB5 p5 p0 b0 b5 cW1 e1 hlX hX0
  go_upto_region 1 with (fail)
  go_region_held3 (fun w' => w'.cell? ⟨B, 0, none⟩ = some (.pointer (some ⟨P, 0, none⟩)) ∧ w'.cell? ⟨P, 4, none⟩ = some (.slice q5 WL.length c5)) (first | exact ⟨b5', v5⟩ | exact ⟨b9, v9⟩ | exact ⟨b9a, v9a⟩ | exact ⟨b9b, v9b⟩ | exact ⟨b9c, v9c⟩ | exact ⟨b9d, v9d⟩) (first | (go_at_call 72; refine (HC.out _ ((Below.refl w5.heap.size w5).drew)).mono ?_; rintro e w9 ⟨rfl, hb9x⟩; have hb9 : Below w5.heap.size w5 w9 := ((Below.refl w5.heap.size w5).drew).trans hb9x; have hA9 := At.below' hb9 HR5.out.1; have hB9 := At.below' hb9 HR5.out.2.2.2.2.2.2; have b9 := hB9.cell 0 rfl; have v9 : w9.cell? ⟨P, 4, none⟩ = some (.slice q5 WL.length c5) := hA9.cell 4 rfl; have hA9a := At.set hA9 5 (txV (joinL WL)) (by simp); have hA9b := At.set hA9 6 (.int .i64 0) (by simp); have hA9c := At.set hA9a 6 (.int .i64 0) (by simp); have hA9d := At.set hA9b 5 (txV (joinL WL)) (by simp); have s5 := hA9.cell 5 rfl; have s6 := hA9.cell 6 rfl; have z5 := At.free hA9 5; have z6 := At.free hA9 6; have s6a := hA9a.cell 6 rfl; have z6a := At.free hA9a 6; have s5b := hA9b.cell 5 rfl; have z5b := At.free hA9b 5; have b9a := (((Onl.refl P w9).set 5 (txV (joinL WL))).at hB9 hPB).cell 0 rfl; have b9b := (((Onl.refl P w9).set 6 (.int .i64 0)).at hB9 hPB).cell 0 rfl; have b9c := ((((Onl.refl P w9).set 5 (txV (joinL WL))).set 6 (.int .i64 0)).at hB9 hPB).cell 0 rfl; have b9d := ((((Onl.refl P w9).set 6 (.int .i64 0)).set 5 (txV (joinL WL))).at hB9 hPB).cell 0 rfl; have v9a := hA9a.cell 4 rfl; have v9b := hA9b.cell 4 rfl; have v9c := hA9c.cell 4 rfl; have v9d := hA9d.cell 4 rfl))
  have fin : ∀ w', w' = (w9.setCell ⟨P, 5, none⟩ (txV (joinL WL))).setCell ⟨P, 6, none⟩ (.int .i64 0) → ∃ g, PW w0 P (.slice q n cap) 0 1 (txV (joinL WL)) 0 w' g WL ∧ Trn P none g w w' := fun w' hw' => by
    subst hw'
    have hO := ((Onl.refl P w9).set 5 (txV (joinL WL))).set 6 (.int .i64 0)
    have h1 : PW w0 P (.slice q n cap) 0 1 (.string ⟨#[]⟩) 0 w5 g5 WL := ⟨_, HR5.out.1, HR5.out.2.1, HR5.out.2.2.1, HR5.out.2.2.2.1, HR5.out.2.2.2.2.1⟩
    have h2 := h1.grow hb9
    refine ⟨g5, h2.next hO (fun V hA => At.set (At.set hA 5 _ (by simp)) 6 _ (by simp)), HR5.out.2.2.2.2.2.1.trans ((Trn.of (Onl.of hb9 (Nat.le_of_lt h1.lt))).trans (Trn.of hO))⟩
  have FIN := Lib.hid fin
  clear fin b9a b9b b9c b9d v9a v9b v9c v9d s5 s6 z5 z6 s6a z6a s5b z5b hA9a hA9b hA9c hA9d
  go_wp2_with fail
  go_end0
  exact ⟨rfl, FIN.out _ rfl⟩
set_option maxRecDepth 100000 in
set_option maxHeartbeats 3200000 in
theorem slow_page {w0 : World} {P : Nat} {nv : Value} (X : List NX) (hN : IsNds w0 nv X) (htab : Tab w0) (hX : GoodX X) (hX0 : 0 < X.length) (WL : List Tx) (hWL : WL = wordsN X X.length ((X.length - 1 : Nat) : Int)) (hall : allW WL = true) (hle : WL.length ≤ 1000) (w : World) (B : Nat) (hB : At w B #[.pointer (some ⟨P, 0, none⟩)] 91) (h : PW w0 P nv 0 0 (.string ⟨#[]⟩) 0 w none []) :
    Calls Tryz.prog 94 #[.pointer (some ⟨P, 1, none⟩), .func (.func 70) #[] #[.pointer (some ⟨B, 0, none⟩)]] w fun (e : Ending) (w' : World) => e = .returned (.tuple #[]) ∧ ∃ g, PW w0 P nv 1 0 (txV (joinL WL)) 0 w' g WL ∧ Trn P none g w w' := by
  have hPB := (PW.gt h hB (by decide) (by decide)).1
  have hK1 : Onl P w (w.setCell ⟨P, 2, none⟩ (.int .i32 1)) := (Onl.refl P w).set 2 _
  have k1 : PW w0 P nv 0 1 (.string ⟨#[]⟩) 0 (w.setCell ⟨P, 2, none⟩ (.int .i32 1)) none [] := h.next hK1 (fun V hA => At.set hA 2 _ (by simp))
  have kc1 : (w.setCell ⟨P, 2, none⟩ (.int .i32 1)).cell? ⟨P, 1, none⟩ = some (.int .u32 0) := by obtain ⟨V, hA, _⟩ := k1; exact hA.cell 1 rfl
  have hl := run_call_load (P := Tryz.prog) Tryz.func121 (by kernel_rfl) (by kernel_rfl) (by kernel_rfl) .u32 (by kernel_rfl) (w := w.setCell ⟨P, 2, none⟩ (.int .i32 1)) (a := ⟨P, 1, none⟩) (x := 0) kc1
  have hnot : ∀ (x : Bool) (w : World), (Op.unary .not (.bool x)).run Tryz.prog w = .ok (.bool (!x)) w := fun _ _ => rfl
  have c7 : w.cell? ⟨P, 2, none⟩ = some (.int .i32 0) := by obtain ⟨V, hA, _⟩ := h; exact hA.cell 2 rfl
  have f7 : w.frozen? ⟨P, 2, none⟩ = false := by obtain ⟨V, hA, _⟩ := h; exact At.free hA 2
  have cM := text1_any X hN htab hX hX0 WL hWL hall hle _ B (hK1.at hB hPB) k1
  clear hN htab hX hX0 hWL hall hle h k1 kc1 hB
  go_enter_defers Tryz.func94, Tryz.ntmps94
  go_wp2_with (first | (go_at_call 122; refine (lock_free ⟨P, 2, none⟩ _ (by go_simp) (by go_simp)).mono ?_; rintro e w' ⟨rfl, rfl⟩) | (go_at_call 93; go_in) | (go_at_call 70; refine cM.mono ?_; rintro e w' ⟨rfl, g, m1, m2⟩))
  refine leaves_cons (f := 124) (args := #[.pointer (some ⟨P, 1, none⟩), .bool true]) (by simp) (by simp [go_sem]) ?_
  have m1c : w'.cell? ⟨P, 1, none⟩ = some (.int .u32 0) := by obtain ⟨V, hA, _⟩ := m1; exact hA.cell 1 rfl
  have m1f : w'.frozen? ⟨P, 1, none⟩ = false := by obtain ⟨V, hA, _⟩ := m1; exact At.free hA 1
  refine (store_deferred ⟨P, 1, none⟩ (.int .u32 0) .returning _ m1c m1f).mono ?_
  rintro e u' w'' ⟨rfl, rfl, rfl⟩
  have hO1 : Onl P w'.drew (w'.drew.setCell ⟨P, 1, none⟩ (.int .u32 1)) := (Onl.refl P w'.drew).set 1 _
  have n1 : PW w0 P nv 1 1 (txV (joinL WL)) 0 (w'.drew.setCell ⟨P, 1, none⟩ (.int .u32 1)) g WL := (m1.grow ((Below.refl w'.heap.size w').drew)).next hO1 (fun V hA => At.set hA 1 _ (by simp))
  have n2 : Trn P none g w (w'.drew.setCell ⟨P, 1, none⟩ (.int .u32 1)) := ((Trn.of hK1).trans (m2.trans (Trn.of (Onl.drew (Onl.refl P w'))))).trans (Trn.of hO1)
  generalize w'.drew.setCell ⟨P, 1, none⟩ (.int .u32 1) = w2 at n1 n2 ⊢
  clear m1 m2 hO1 m1c m1f
  refine leaves_cons (f := 123) (args := #[.pointer (some ⟨P, 2, none⟩)]) (by simp [settle]) (by simp [go_sem]) ?_
  have n1c : w2.cell? ⟨P, 2, none⟩ = some (.int .i32 1) := by obtain ⟨V, hA, _⟩ := n1; exact hA.cell 2 rfl
  have n1f : w2.frozen? ⟨P, 2, none⟩ = false := by obtain ⟨V, hA, _⟩ := n1; exact At.free hA 2
  refine (unlock_deferred ⟨P, 2, none⟩ _ _ n1c n1f).mono ?_
  rintro e u' w'' ⟨rfl, rfl, rfl⟩
  have hO2 : Onl P w2 (w2.setCell ⟨P, 2, none⟩ (.int .i32 0)) := (Onl.refl P w2).set 2 _
  have o1 : PW w0 P nv 1 0 (txV (joinL WL)) 0 (w2.setCell ⟨P, 2, none⟩ (.int .i32 0)) g WL := n1.next hO2 (fun V hA => At.set hA 2 _ (by simp))
  have o2 : Trn P none g w (w2.setCell ⟨P, 2, none⟩ (.int .i32 0)) := n2.trans (Trn.of hO2)
  generalize w2.setCell ⟨P, 2, none⟩ (.int .i32 0) = w3 at o1 o2 ⊢
  have fin : (fun (e : Ending) (w' : World) => e = .returned (.tuple #[]) ∧ ∃ g, PW w0 P nv 1 0 (txV (joinL WL)) 0 w' g WL ∧ Trn P none g w w') (.returned (.tuple #[])) w3 := ⟨rfl, g, o1, o2⟩
  simpa [Leaves, settle, results, Tryz.results94] using fin
set_option maxRecDepth 100000 in
set_option maxHeartbeats 1600000 in
theorem do_page {w0 : World} {P : Nat} {nv : Value} (X : List NX) (hN : IsNds w0 nv X) (htab : Tab w0) (hX : GoodX X) (hX0 : 0 < X.length) (WL : List Tx) (hWL : WL = wordsN X X.length ((X.length - 1 : Nat) : Int)) (hall : allW WL = true) (hle : WL.length ≤ 1000) (w : World) (B : Nat) (hB : At w B #[.pointer (some ⟨P, 0, none⟩)] 91) (h : PW w0 P nv 0 0 (.string ⟨#[]⟩) 0 w none []) :
    Calls Tryz.prog 69 #[.pointer (some ⟨P, 1, none⟩), .func (.func 70) #[] #[.pointer (some ⟨B, 0, none⟩)]] w fun (e : Ending) (w' : World) => e = .returned (.tuple #[]) ∧ ∃ g, PW w0 P nv 1 0 (txV (joinL WL)) 0 w' g WL ∧ Trn P none g w w' := by
  have kc1 : w.cell? ⟨P, 1, none⟩ = some (.int .u32 0) := by obtain ⟨V, hA, _⟩ := h; exact hA.cell 1 rfl
  have hl := run_call_load (P := Tryz.prog) Tryz.func121 (by kernel_rfl) (by kernel_rfl) (by kernel_rfl) .u32 (by kernel_rfl) (w := w) (a := ⟨P, 1, none⟩) (x := 0) kc1
  have hnot : ∀ (x : Bool) (w : World), (Op.unary .not (.bool x)).run Tryz.prog w = .ok (.bool (!x)) w := fun _ _ => rfl
  have cS := slow_page X hN htab hX hX0 WL hWL hall hle w B hB h
  clear hN htab hX hX0 hWL hall hle h kc1 hB
  go_enter Tryz.func69, Tryz.ntmps69
  go_wp2_with (first | (go_at_call 94; refine cS.mono ?_; rintro e w' ⟨rfl, g, m1, m2⟩) | (go_at_call 93; go_in))
  go_end0
  exact ⟨rfl, g, m1, m2⟩
set_option maxRecDepth 100000 in
set_option maxHeartbeats 1600000 in
theorem do_pageDone {w0 : World} {P : Nat} {nv fo : Value} {wo : Int} {g : Option Nat} {L : List Tx} (v : Value) (w : World) (h : PW w0 P nv 1 0 (fo) wo w g L) :
    Calls Tryz.prog 69 #[.pointer (some ⟨P, 1, none⟩), v] w fun e w' => e = .returned (.tuple #[]) ∧ w = w' := by
  have kc1 : w.cell? ⟨P, 1, none⟩ = some (.int .u32 1) := by obtain ⟨V, hA, _⟩ := h; exact hA.cell 1 rfl
  have hl := run_call_load (P := Tryz.prog) Tryz.func121 (by kernel_rfl) (by kernel_rfl) (by kernel_rfl) .u32 (by kernel_rfl) (w := w) (a := ⟨P, 1, none⟩) (x := 1) kc1
  have hnot : ∀ (x : Bool) (w : World), (Op.unary .not (.bool x)).run Tryz.prog w = .ok (.bool (!x)) w := fun _ _ => rfl
  clear h kc1
  go_enter Tryz.func69, Tryz.ntmps69
  go_wp2_with ((go_at_call 93; go_in))
  first | go_end0 | (simp only [Exit.inBlock, Exit.then]; refine bodyPost_ret (results_none rfl _ _ _) rfl ?_) | refine bodyPost_ret (results_none rfl _ _ _) rfl ?_
  exact ⟨rfl, rfl⟩
set_option maxRecDepth 100000 in
set_option maxHeartbeats 1600000 in
theorem text_first {w0 : World} {P : Nat} {nv : Value} (X : List NX) (hN : IsNds w0 nv X) (htab : Tab w0) (hX : GoodX X) (hX0 : 0 < X.length) (WL : List Tx) (hWL : WL = wordsN X X.length ((X.length - 1 : Nat) : Int)) (hall : allW WL = true) (hle : WL.length ≤ 1000) (w : World) (h : PW w0 P nv 0 0 (.string ⟨#[]⟩) 0 w none []) :
    Calls Tryz.prog 40 #[.pointer (some ⟨P, 0, none⟩)] w fun e w' => e = .returned (.tuple #[txV (joinL WL), .int .i64 0]) ∧ ∃ g, PW w0 P nv 1 0 (txV (joinL WL)) 0 w' g WL := by
  have hbx := boxT w (.cells #[.pointer (some ⟨P, 0, none⟩)] 91)
  have hB := At.new w #[.pointer (some ⟨P, 0, none⟩)] 91
  have h1 := h.grow hbx
  have hPB := (PW.gt h1 hB (by decide) (by decide)).1
  have b0 := hB.cell 0 rfl
  have hmf : ∀ (fn : Go.Fn) (first cap : Array Value) (w : World), (Instr.makeFunc fn first cap).run Tryz.prog w = .ok (.func fn first cap) w := fun _ _ _ _ => rfl
  have cD := do_page X hN htab hX hX0 WL hWL hall hle _ w.heap.size hB h1
  have HB := Lib.hid hB
  clear hN htab hX hX0 hWL hall hle h h1 hB hbx
  generalize hWx : w.alloc (.cells #[.pointer (some ⟨P, 0, none⟩)] 91) = wx at *
  have HWX := Lib.hid hWx
  clear hWx
  go_enter Tryz.func40, Tryz.ntmps40
  go_upto_region 1 with (fail)
  rw [HWX.out]
  go_wp2_with fail
  refine cD.mono ?_
  rintro e w2 ⟨rfl, g, m1, m2⟩
  have b2 := (m2.at HB.out hPB (fun e => by cases e)).cell 0 rfl
  obtain ⟨V, hA, _⟩ := id m1
  have c5 : w2.cell? ⟨P, 5, none⟩ = some (txV (joinL WL)) := hA.cell 5 rfl
  have c6 : w2.cell? ⟨P, 6, none⟩ = some (.int .i64 0) := hA.cell 6 rfl
  have FIN := Lib.hid (fun nq => m1.grow (Joins.below_draws w2.heap.size w2 nq))
  clear m1 m2 hA cD b0
  go_wp2_with fail
  go_quiet (fail)
  go_wp2_with fail
  exact bodyPost_ret (v := .tuple #[txV (joinL WL), .int .i64 0]) (by simp [results, Tryz.results40, go_sem]) rfl ⟨rfl, g, FIN.out _⟩
set_option maxRecDepth 100000 in
set_option maxHeartbeats 1600000 in
theorem text_again {w0 : World} {P : Nat} {nv : Value} {l : Tx} {g : Option Nat} {L : List Tx} (w : World) (h : PW w0 P nv 1 0 (txV l) 0 w g L) :
    Calls Tryz.prog 40 #[.pointer (some ⟨P, 0, none⟩)] w fun e w' => e = .returned (.tuple #[txV l, .int .i64 0]) ∧ PW w0 P nv 1 0 (txV l) 0 w' g L := by
  have hbx := boxT w (.cells #[.pointer (some ⟨P, 0, none⟩)] 91)
  have hB := At.new w #[.pointer (some ⟨P, 0, none⟩)] 91
  have h1 := h.grow hbx
  have b0 := hB.cell 0 rfl
  have hmf : ∀ (fn : Go.Fn) (first cap : Array Value) (w : World), (Instr.makeFunc fn first cap).run Tryz.prog w = .ok (.func fn first cap) w := fun _ _ _ _ => rfl
  have cD := fun v => do_pageDone v _ h1
  obtain ⟨V, hA, _⟩ := id h1
  have c5 := hA.cell 5 rfl
  have c6 := hA.cell 6 rfl
  have FIN := Lib.hid (fun nq => h1.grow (Joins.below_draws (w.alloc (.cells #[.pointer (some ⟨P, 0, none⟩)] 91)).heap.size _ nq))
  clear h h1 hB hbx hA
  generalize hWx : w.alloc (.cells #[.pointer (some ⟨P, 0, none⟩)] 91) = wx at *
  have HWX := Lib.hid hWx
  clear hWx
  have c5 : wx.cell? ⟨P, 5, none⟩ = some (txV l) := c5
  have c6 : wx.cell? ⟨P, 6, none⟩ = some (.int .i64 0) := c6
  go_enter Tryz.func40, Tryz.ntmps40
  go_upto_region 1 with (fail)
  rw [HWX.out]
  go_wp2_with fail
  refine (cD _).mono ?_
  rintro e w2 ⟨rfl, rfl⟩
  go_wp2_with fail
  go_quiet (fail)
  go_wp2_with fail
  exact bodyPost_ret (v := .tuple #[txV l, .int .i64 0]) (by simp [results, Tryz.results40, go_sem]) rfl ⟨rfl, FIN.out _⟩
end Go.Proofs.YtkhklndmbfbnoaaGreatDoor

/- Package tree: Print of nodes that are a tree. -/
namespace Go.Proofs.YtkhklndmbfbnoaaGreatDoor
open Go.ChangeShapes Go.WideShapes Go.ChangeAt Go.RowKit Go.Joins Go.Deep
set_option linter.unusedVariables false

set_option maxRecDepth 100000 in
set_option maxHeartbeats 1600000 in
theorem isTree_yes {w0 : World} {P : Nat} {nv : Value} (X : List NX) (hN : IsNds w0 nv X) (htab : Tab w0) (hX : GoodX X) (hX0 : 0 < X.length) (WL : List Tx) (hWL : WL = wordsN X X.length ((X.length - 1 : Nat) : Int)) (hall : allW WL = true) (hle : WL.length ≤ 1000) (S : Nat → List Int) (hS : OrdS X S) (h300 : X.length ≤ 300) (hpar : parseR (joinL WL) = (X.map NX.x, 0, 0)) (w : World) (h : PW w0 P nv 0 0 (.string ⟨#[]⟩) 0 w none []) :
    Calls Tryz.prog 39 #[.pointer (some ⟨P, 0, none⟩)] w fun e w' => e = .returned (.bool true) ∧ ∃ g, PW w0 P nv 1 0 (txV (joinL WL)) 0 w' g WL := by
  have hBw : ∀ w' {dn st : Int} {fo : Value} {wo : Int} {g : Option Nat} {L : List Tx}, PW w0 P nv dn st fo wo w' g L → IsNds w' nv X := fun w' dn st fo wo g L h => by
    obtain ⟨V, _, _, _, hB, h0⟩ := h
    exact hN.below (by rw [h0]; exact hB)
  have hNw := hBw w h
  obtain ⟨q, cap, rfl, hlX, _, _⟩ := id hN
  have p0 : w.cell? ⟨P, 0, none⟩ = some (.slice q X.length cap) := by obtain ⟨V, hA, _⟩ := h; exact hA.cell 0 rfl
  have cO := inOrder_yes (.slice q X.length cap) X S hS (by omega) w hNw
  have cT := fun w' (h' : PW w0 P (.slice q X.length cap) 0 0 (.string ⟨#[]⟩) 0 w' none []) => text_first X hN htab hX hX0 WL hWL hall hle w' h'
  have cP := fun w' => parse_any ⟨(joinL WL).toArray⟩ (by
    have h1 := joinL_le WL hall
    show (joinL WL).toArray.size ≤ _
    rw [List.size_toArray]
    unfold maxLen
    omega) w'
  unfold PPost at cP
  rw [show (ByteArray.mk (joinL WL).toArray).data.toList = joinL WL from rfl, hpar] at cP
  dsimp only at cP
  have h301 : ¬ (300 : Int) < (X.length : Int) := by omega
  have h302 : decide ((300 : Int) < (X.length : Int)) = false := decide_eq_false h301
  obtain ⟨n, hn⟩ : ∃ n, n = X.length := ⟨_, rfl⟩
  have HN := Lib.hid hn
  rw [← hn] at h
  have HE := Lib.hid (And.intro h h300)
  rw [← hn] at hBw
  have HBw := Lib.hid @hBw
  rw [← hn] at p0 cO cT h301 h302 hX0
  clear hN htab hX hWL hall hle hS hpar hlX hNw hBw hn h300
  go_enter Tryz.func39, Tryz.ntmps39
  go_wp2_with fail
  refine cO.mono ?_
  rintro e w1 ⟨rfl, hb1⟩
  have h1 := HE.out.1.grow hb1
  clear cO p0
  go_wp2_with fail
  refine (cT _ h1).mono ?_
  rintro e w2 ⟨rfl, g2, h2⟩
  clear cT
  have p2 : w2.cell? ⟨P, 0, none⟩ = some (.slice q n cap) := by obtain ⟨V, hA, _⟩ := h2; exact hA.cell 0 rfl
  go_wp2_with fail
  refine (cP _).mono ?_
  rintro e w3 ⟨tv, Y, rfl, hR, hY, hb3⟩
  have h3 := h2.grow hb3
  have p3 := cell_below p2 hb3
  have hYl : Y.length = X.length := by rw [← List.length_map (f := NX.x), hY, List.length_map]
  have hYn : IsNds w3 tv Y := hR.nds
  obtain ⟨qt, ct, rfl, _, _, _⟩ := id hYn
  rw [hYl, ← HN.out] at hYn ⊢
  have hXn := HBw.out w3 h3
  have cE := equalFunc_same _ _ Y X hY w3 hYn hXn
  have H3 := Lib.hid h3
  clear hR hb3 p2 h3 hYn hXn hY h2
  go_wp2_with fail
  refine cE.mono ?_
  rintro e w4 ⟨rfl, hb4⟩
  have FIN := Lib.hid (H3.out.grow hb4)
  clear cE p3
  go_wp2_with fail
  go_ret
  exact ⟨rfl, g2, by rw [← HN.out]; exact FIN.out⟩
set_option maxHeartbeats 1600000 in
theorem print_yes {nv : Value} (w : World) (X : List NX) (hN : IsNds w nv X) (htab : Tab w) (hX : GoodX X) (hX0 : 0 < X.length) (WL : List Tx) (hWL : WL = wordsN X X.length ((X.length - 1 : Nat) : Int)) (hall : allW WL = true) (hle : WL.length ≤ 1000) (S : Nat → List Int) (hS : OrdS X S) (h300 : X.length ≤ 300) (hpar : parseR (joinL WL) = (X.map NX.x, 0, 0)) :
    Calls Tryz.prog 19 #[nv] w fun e w' => e = .returned (.tuple #[txV (joinL WL), .int .i64 0]) ∧ Below w.heap.size w w' := by
  have hA := At.new w #[nv, .int .u32 0, .int .i32 0, .int .u32 0, .slice none 0 0, .string ⟨#[]⟩, .int .i64 0] 93
  have hb := boxT w (.cells #[nv, .int .u32 0, .int .i32 0, .int .u32 0, .slice none 0 0, .string ⟨#[]⟩, .int .i64 0] 93)
  have hP : PW w w.heap.size nv 0 0 (.string ⟨#[]⟩) 0 (w.alloc (.cells #[nv, .int .u32 0, .int .i32 0, .int .u32 0, .slice none 0 0, .string ⟨#[]⟩, .int .i64 0] 93)) none [] := ⟨_, hA, rfl, ⟨rfl, Or.inl ⟨rfl, rfl⟩⟩, hb, rfl⟩
  have cI := isTree_yes X hN htab hX hX0 WL hWL hall hle S hS h300 hpar _ hP
  obtain ⟨q, cap, rfl, _⟩ := id hN
  clear hA hb hP hN htab hX hX0 hWL hall hle hS hpar
  generalize X.length = n at *
  go_enter Tryz.func19, Tryz.ntmps19
  go_wp2_with fail
  refine cI.mono ?_
  rintro e w2 ⟨rfl, g2, h2⟩
  have cT := text_again w2 h2
  clear h2 cI
  go_wp2_with fail
  refine cT.mono ?_
  rintro e w3 ⟨rfl, V, _, _, _, hB3, _⟩
  clear cT
  go_wp2_with fail
  exact bodyPost_ret (v := .tuple #[txV (joinL WL), .int .i64 0]) (by simp [results, Tryz.results19, go_sem]) rfl ⟨rfl, hB3⟩
end Go.Proofs.YtkhklndmbfbnoaaGreatDoor

/- The statements' example. -/
namespace Go.Proofs.YtkhklndmbfbnoaaGreatDoor
open Go.ChangeShapes Go.WideShapes Go.ChangeAt Go.RowKit Go.Joins Go.Deep
set_option linter.unusedVariables false

/-- the example's nodes -/
def exX : List ND := [⟨23, [], 0, []⟩, ⟨1, [], 0, [0]⟩]
theorem ex_one : parseR [115, 116, 111, 112, 59] = (exX, 0, 0) := by kernel_rfl
theorem ex_two : parseR [115, 116, 111, 112, 32, 59] = (exX, 0, 0) := by kernel_rfl
theorem num11_any (n : Int) (w : World) : Calls Tryz.prog 13 #[.int .i64 n] w fun e w' => e = .returned (.int .i64 n) ∧ w = w' := by
  go_enter Tryz.func13, Tryz.ntmps13
  go_wp2
  go_ret
  exact ⟨rfl, rfl⟩
set_option maxRecDepth 100000 in
set_option maxHeartbeats 1600000 in
theorem wakes11_any (w : World) (htab : Tab w) : Calls Tryz.prog 16 #[] w fun e w' => e = .returned (.bool true) ∧ Below w.heap.size w w' := by
  have cP := fun w => parse_any ⟨#[115, 116, 111, 112, 59]⟩ (by decide) w
  have cM := fun n w => num11_any n w
  unfold PPost at cP
  rw [show (ByteArray.mk #[115, 116, 111, 112, 59]).data.toList = [115, 116, 111, 112, 59] from rfl, ex_one] at cP
  dsimp only at cP
  go_enter Tryz.func16, Tryz.ntmps16
  go_wp2_with fail
  refine (cP _).mono ?_
  rintro e w1 ⟨tv, X, rfl, hR, hX, hb1⟩
  clear cP
  obtain ⟨x0, x1, rfl⟩ : ∃ x0 x1, X = [x0, x1] := by
    have hl : X.length = 2 := by rw [← List.length_map (f := NX.x), hX]; rfl
    cases X with
    | nil => cases hl
    | cons a l =>
      cases l with
      | nil => cases hl
      | cons b l2 =>
        cases l2 with
        | nil => exact ⟨a, b, rfl⟩
        | cons c l3 => simp at hl
  have h0 : x0.x = ⟨23, [], 0, []⟩ := by have := congrArg (fun l => l[0]?) hX; simpa [exX] using this
  have h1 : x1.x = ⟨1, [], 0, [0]⟩ := by have := congrArg (fun l => l[1]?) hX; simpa [exX] using this
  have hN : IsNds w1 tv [x0, x1] := hR.nds
  have hT1 := htab.below hb1
  have hGX : GoodX [x0, x1] := fun i x hx => by
    match i, hx with
    | 0, hx =>
      obtain rfl : x0 = x := by simpa using hx
      rw [h0]
      exact ⟨Or.inr rfl, fun p hp => by cases hp⟩
    | 1, hx =>
      obtain rfl : x1 = x := by simpa using hx
      rw [h1]
      exact ⟨Or.inl ⟨rfl, by simp⟩, fun p hp => by obtain rfl := List.mem_singleton.1 hp; decide⟩
    | i + 2, hx => simp at hx
  have hW : ([[115, 116, 111, 112], [59]] : List Tx) = wordsN [x0, x1] 2 ((1 : Nat) : Int) := by
    simp [wordsN, h0, h1, patF, wrun]
  have hS : OrdS [x0, x1] (fun i => if i = 0 then [] else if i = 1 then [0] else [1]) := by
    refine ⟨rfl, fun i x hx => ?_, rfl⟩
    match i, hx with
    | 0, hx =>
      obtain rfl : x0 = x := by simpa using hx
      rw [h0]
      exact ⟨[], rfl, rfl⟩
    | 1, hx =>
      obtain rfl : x1 = x := by simpa using hx
      rw [h1]
      exact ⟨[], rfl, rfl⟩
    | i + 2, hx => simp at hx
  have cR := print_yes w1 [x0, x1] hN hT1 hGX (by show 0 < 2; decide) [[115, 116, 111, 112], [59]] hW (by decide +kernel) (by decide) _ hS (by show 2 ≤ 300; decide) (by rw [show joinL [[115, 116, 111, 112], [59]] = [115, 116, 111, 112, 32, 59] by decide +kernel, ex_two]; exact congrArg (fun l => (l, 0, 0)) hX.symm)
  rw [show joinL [[115, 116, 111, 112], [59]] = [115, 116, 111, 112, 32, 59] by decide +kernel] at cR
  obtain ⟨q, cap, rfl, _, hcap, hc⟩ := id hN
  obtain ⟨g, rfl, hg, hcell⟩ := hc (by show 0 < 2; decide)
  have a0 := (hcell 0 x0 rfl).1
  have a1 := (hcell 1 x1 rfl).1
  rw [h0] at a0
  rw [h1] at a1
  have hcap2 : 2 ≤ cap := hcap
  clear hR hX hN hT1 hGX hW hS hc hcell hcap h0 h1
  go_wp2_with fail
  refine cR.mono ?_
  rintro e w2 ⟨rfl, hb2⟩
  have c0 : w2.cell? ⟨g, 0, none⟩ = some (.int .i64 23) := cell_below a0 hb2
  have c1 : w2.cell? ⟨g, 4, none⟩ = some (.int .i64 1) := cell_below a1 hb2
  clear a0 a1 cR
  go_wp2_with (go_at_call 13; (with_reducible refine (cM _ _).mono ?_); rintro e w' ⟨rfl, rfl⟩)
  go_ret
  exact ⟨rfl, hb1.trans (hb2.mono hb1.size)⟩
end Go.Proofs.YtkhklndmbfbnoaaGreatDoor
