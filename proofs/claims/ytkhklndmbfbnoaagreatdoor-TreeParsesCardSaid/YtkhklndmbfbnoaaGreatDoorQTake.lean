/- The document's parser in memory: it tells what package tree's reader tells, as long as nothing is wrong; where something is, its place and error alone. -/
import Derived.Test.YtkhklndmbfbnoaaGreatDoorTGram3
import Derived.Test.YtkhklndmbfbnoaaGreatDoorLKind
import Derived.Deep.QuietTactic
import Derived.BigQuiet
import Derived.Test.YtkhklndmbfbnoaaGreatDoorTNeedW
namespace Go.Proofs.YtkhklndmbfbnoaaGreatDoor
open Go.ChangeShapes Go.WideShapes Go.ChangeAt Go.RowKit Go.Joins Go.Deep
set_option linter.unusedVariables false

def pdC (fd : Value) (en k : Nat) (s : RS) (nv : Value) : Array Value :=
  #[fd, .int .i64 (en : Nat), .int .i64 (k : Nat), nv, .int .i64 (s.ar : Nat), .int .i64 ((s.bad.getD (0, 0)).1 : Nat), .int .i64 (s.bad.getD (0, 0)).2]
/-- how far it is, and its nodes -/
def PdM (c : Ctx) (fd : Value) (W : List (Tx × Nat)) (en : Nat) (w : World) (rb : Nat) (g : Option Nat) (B : Nat) (s : RS) (k : Nat) (nv : Value) (X : List NX) : Prop :=
  At w rb (pdC fd en k s nv) 81 ∧ nv.ownBlock = g ∧ NRow c.F w (rb + 1) nv X ∧ (s.bad = none → X.map NX.x = s.t ∧ k = s.k) ∧ X.length ≤ 301 ∧ k ≤ W.length + B
structure PdAt (c : Ctx) (fd : Value) (W : List (Tx × Nat)) (en : Nat) (w : World) (rb : Nat) (g : Option Nat) (B : Nat) (s : RS) : Prop where
  mem : ∃ k nv X, PdM c fd W en w rb g B s k nv X
  inv : Inv W s
  below : Below c.w.heap.size c.w w
  base : c.w.heap.size ≤ rb
  toks : IsToks c.w fd W
  room : s.ar ≤ 30
  short : ∀ k, (W.getD k ([], 0)).1.length ≤ 100000
  held : ∀ b, c.F b → b < w.heap.size
  most : B ≤ 1000
  word : ∀ k, k < W.length → wordB (W.getD k ([], 0)).1 = true
section
variable {c : Ctx} {F : Nat → Prop} {w w' : World} {fd : Value} {W : List (Tx × Nat)} {en rb B B' : Nat} {g : Option Nat} {s s' : RS}
theorem NRow.onlyP {base : Nat} {nv : Value} {X : List NX} {cs : Array Value} (h : NRow F w base nv X) (hA : At w rb cs 81) (hO : Onl rb w w') : NRow F w' base nv X := by
  refine ⟨?_, fun x hx => (h.2 x hx).keep fun b cs' hb => hO.at hb (at_other hb hA (by decide))⟩
  have hs := h.1
  obtain ⟨hl, ⟨rfl, h0⟩ | ⟨k, cap, cur, rfl, hbb, hg, hn, hm, hc, hx⟩⟩ := hs
  · exact ⟨hl, Or.inl ⟨rfl, h0⟩⟩
  · exact ⟨hl, Or.inr ⟨k, cap, cur, rfl, hbb, hO.at (t := 83) hg (at_other (t := 83) hg hA (by decide)), hn, hm, hc, hx⟩⟩
theorem PdAt.grow (h : PdAt c fd W en w rb g B s) (hb : Below w.heap.size w w') : PdAt c fd W en w' rb g B s := by
  obtain ⟨⟨k, nv, X, h1, h2, h3, h4⟩, hi, hbl, hba, ht, hr, hsh, hhe, hm, hw⟩ := h
  exact ⟨⟨k, nv, X, At.below' hb h1, h2, h3.grow hb, h4⟩, hi, hbl.trans (hb.mono hbl.size), hba, ht, hr, hsh, fun b h => Nat.lt_of_lt_of_le (hhe b h) hb.size, hm, hw⟩
theorem PdAt.lt (h : PdAt c fd W en w rb g B s) : rb < w.heap.size := by obtain ⟨k, nv, X, h1, _⟩ := h.mem; exact h1.lt
theorem PdAt.onl (h : PdAt c fd W en w rb g B s) (hb : Below w.heap.size w w') : Onl rb w w' := Onl.of hb (Nat.le_of_lt h.lt)
theorem PdAt.cells (h : PdAt c fd W en w rb g B s) : ∃ k nv, At w rb (pdC fd en k s nv) 81 ∧ (s.bad = none → k = s.k) ∧ k ≤ W.length + B := by
  obtain ⟨k, nv, X, h1, _, _, h4, _, h6⟩ := h.mem
  exact ⟨k, nv, h1, fun hb => (h4 hb).2, h6⟩
theorem PdAt.toksW (h : PdAt c fd W en w rb g B s) : IsToks w fd W := by
  obtain ⟨q, cap, h1, h2, h3⟩ := h.toks
  refine ⟨q, cap, h1, h2, fun hp => ?_⟩
  obtain ⟨k, h4, h5, h6, h7⟩ := h3 hp
  exact ⟨k, h4, by have := h.below.size; omega, h6, fun i hi => ⟨(h.below.cell (p := ⟨k, i * 2, none⟩) h5).trans (h7 i hi).1, (h.below.cell (p := ⟨k, i * 2 + 1, none⟩) h5).trans (h7 i hi).2⟩⟩
/-- the same parser, gone on -/
theorem PdAt.next (h : PdAt c fd W en w rb g B s) (hi : Inv W s') (hm' : B' ≤ 1000) (ht : s'.bad = none → s.bad = none ∧ s'.t = s.t) (hr : s'.ar ≤ 30) (hO : Onl rb w w') (hA : ∀ k nv, At w rb (pdC fd en k s nv) 81 → (s.bad = none → k = s.k) → k ≤ W.length + B → ∃ k', At w' rb (pdC fd en k' s' nv) 81 ∧ (s'.bad = none → k' = s'.k) ∧ k' ≤ W.length + B') : PdAt c fd W en w' rb g B' s' := by
  obtain ⟨⟨k, nv, X, h1, h2, h3, h4, h5, h6⟩, _, hbl, hba, htk, _, hsh, hhe, hm, hw⟩ := h
  obtain ⟨k', a1, a2, a3⟩ := hA k nv h1 (fun hb => (h4 hb).2) h6
  exact ⟨⟨k', nv, X, a1, h2, h3.onlyP h1 hO, fun hb => ⟨by rw [(ht hb).2]; exact (h4 (ht hb).1).1, a2 hb⟩, h5, a3⟩, hi, hbl.trans (hO.1.mono hba), hba, htk, hr, hsh, fun b h => Nat.lt_of_lt_of_le (hhe b h) hO.1.size, hm', hw⟩
/-- where something is wrong, only that counts -/
theorem PdAt.bad (h : PdAt c fd W en w rb g B s) (hi : Inv W s') (hB : B ≤ B') (hm' : B' ≤ 1000) (hb : s.bad ≠ none) (hs : s'.bad = s.bad) (ha : s'.ar = s.ar) : PdAt c fd W en w rb g B' s' := by
  refine h.next hi hm' (fun h => absurd (hs ▸ h) hb) (by rw [ha]; exact h.room) (Onl.refl rb w) fun k nv hA _ hk => ⟨k, ?_, fun h => absurd (hs ▸ h) hb, by omega⟩
  unfold pdC at hA ⊢
  rw [ha, hs]
  exact hA
theorem PdAt.more (h : PdAt c fd W en w rb g B s) (hB : B ≤ B') (hm' : B' ≤ 1000) : PdAt c fd W en w rb g B' s :=
  h.next h.inv hm' (fun h => ⟨h, rfl⟩) h.room (Onl.refl rb w) fun k nv hA hk hkB => ⟨k, hA, hk, by omega⟩
end
/-- what a step tells that leaves the nodes alone -/
def NQ (c : Ctx) (fd : Value) (W : List (Tx × Nat)) (en rb : Nat) (g : Option Nat) (B : Nat) (v : Value) (s' : RS) (w : World) (e : Ending) (w' : World) : Prop := e = .returned v ∧ PdAt c fd W en w' rb g B s' ∧ Onl rb w w'
/-- what a part of the grammar tells -/
def RQ (c : Ctx) (fd : Value) (W : List (Tx × Nat)) (en rb : Nat) (g : Option Nat) (B : Nat) (r : Int × RS) (w : World) (e : Ending) (w' : World) : Prop := ∃ g' v, e = .returned (.int .i64 v) ∧ (r.2.bad = none → v = r.1) ∧ PdAt c fd W en w' rb g' B r.2 ∧ Trn rb g g' w w'
end Go.Proofs.YtkhklndmbfbnoaaGreatDoor

/- The document's parser: its words, read. -/
namespace Go.Proofs.YtkhklndmbfbnoaaGreatDoor
open Go.ChangeShapes Go.WideShapes Go.ChangeAt Go.RowKit Go.Joins Go.Deep
set_option linter.unusedVariables false

set_option maxHeartbeats 800000 in
theorem rsee_raw (rb G en : Nat) (n cap k : Nat) (x : ByteArray) (hk : k < n) (w : World) (c0 : w.cell? ⟨rb, 0, none⟩ = some (.slice (some ⟨G, 0, none⟩) n cap)) (c1 : w.cell? ⟨rb, 1, none⟩ = some (.int .i64 (en : Nat))) (c2 : w.cell? ⟨rb, 2, none⟩ = some (.int .i64 (k : Nat))) (ct : w.cell? ⟨G, k * 2, none⟩ = some (.string x)) :
    Calls Tryz.prog 29 #[.pointer (some ⟨rb, 0, none⟩)] w fun e w' => e = .returned (.string x) ∧ Below w.heap.size w w' := by
  have hk2 : (k : Int) < (n : Int) := by omega
  go_enter Tryz.func29, Tryz.ntmps29
  go_wp2
  go_quiet (fail)
  go_wp2
  go_quiet (fail)
  go_wp2
  go_ret
  exact ⟨rfl, ((Below.refl _ _).trans (Joins.below_draws _ _ _)).trans (Joins.below_draws _ _ _)⟩
set_option maxHeartbeats 800000 in
theorem rsee_raw0 (rb en : Nat) (q : Option Addr) (n cap k : Nat) (hk : n ≤ k) (w : World) (c0 : w.cell? ⟨rb, 0, none⟩ = some (.slice q n cap)) (c1 : w.cell? ⟨rb, 1, none⟩ = some (.int .i64 (en : Nat))) (c2 : w.cell? ⟨rb, 2, none⟩ = some (.int .i64 (k : Nat))) :
    Calls Tryz.prog 29 #[.pointer (some ⟨rb, 0, none⟩)] w fun e w' => e = .returned (.string ⟨#[]⟩) ∧ Below w.heap.size w w' := by
  have hk2 : ¬ (k : Int) < (n : Int) := by omega
  go_enter Tryz.func29, Tryz.ntmps29
  go_wp2
  go_quiet (fail)
  go_wp2
  go_ret
  exact ⟨rfl, (Below.refl _ _).trans (Joins.below_draws _ _ _)⟩
set_option maxHeartbeats 800000 in
theorem rplace_raw (rb G en : Nat) (n cap k : Nat) (a : Nat) (hk : k < n) (w : World) (c0 : w.cell? ⟨rb, 0, none⟩ = some (.slice (some ⟨G, 0, none⟩) n cap)) (c1 : w.cell? ⟨rb, 1, none⟩ = some (.int .i64 (en : Nat))) (c2 : w.cell? ⟨rb, 2, none⟩ = some (.int .i64 (k : Nat))) (ct : w.cell? ⟨G, k * 2 + 1, none⟩ = some (.int .i64 (a : Nat))) :
    Calls Tryz.prog 59 #[.pointer (some ⟨rb, 0, none⟩)] w fun e w' => e = .returned (.int .i64 (a : Nat)) ∧ Below w.heap.size w w' := by
  have hk2 : (k : Int) < (n : Int) := by omega
  go_enter Tryz.func59, Tryz.ntmps59
  go_wp2
  go_quiet (fail)
  go_wp2
  go_quiet (fail)
  go_wp2
  go_ret
  exact ⟨rfl, ((Below.refl _ _).trans (Joins.below_draws _ _ _)).trans (Joins.below_draws _ _ _)⟩
set_option maxHeartbeats 800000 in
theorem rplace_raw0 (rb en : Nat) (q : Option Addr) (n cap k : Nat) (hk : n ≤ k) (w : World) (c0 : w.cell? ⟨rb, 0, none⟩ = some (.slice q n cap)) (c1 : w.cell? ⟨rb, 1, none⟩ = some (.int .i64 (en : Nat))) (c2 : w.cell? ⟨rb, 2, none⟩ = some (.int .i64 (k : Nat))) :
    Calls Tryz.prog 59 #[.pointer (some ⟨rb, 0, none⟩)] w fun e w' => e = .returned (.int .i64 (en : Nat)) ∧ Below w.heap.size w w' := by
  have hk2 : ¬ (k : Int) < (n : Int) := by omega
  go_enter Tryz.func59, Tryz.ntmps59
  go_wp2
  go_quiet (fail)
  go_wp2
  go_ret
  exact ⟨rfl, (Below.refl _ _).trans (Joins.below_draws _ _ _)⟩
/-- what the document's parser sees -/
def SeeP (W : List (Tx × Nat)) (s : RS) (w : World) (e : Ending) (w' : World) : Prop := ∃ l, e = .returned (txV l) ∧ (s.bad = none → l = wdR W s) ∧ (l = [] ∨ wordB l = true) ∧ l.length ≤ 100000 ∧ Below w.heap.size w w'
theorem rsee_any {c : Ctx} {fd : Value} {W : List (Tx × Nat)} {en rb B : Nat} {g : Option Nat} {s : RS} (w : World) (h : PdAt c fd W en w rb g B s) : Calls Tryz.prog 29 #[.pointer (some ⟨rb, 0, none⟩)] w (SeeP W s w) := by
  obtain ⟨k, nv, hA, hk, hkB⟩ := h.cells
  obtain ⟨q, cap, hfd, _, hT⟩ := h.toksW
  have c0 : w.cell? ⟨rb, 0, none⟩ = some fd := hA.cell 0 rfl
  rw [hfd] at c0
  rcases Nat.lt_or_ge k W.length with hlt | hge
  · obtain ⟨G, rfl, _, _, hc⟩ := hT (by omega)
    exact (rsee_raw rb G en W.length cap k _ hlt w c0 (hA.cell 1 rfl) (hA.cell 2 rfl) (hc k hlt).1).mono fun e w' ⟨he, hb⟩ => ⟨_, he, fun h0 => by rw [hk h0]; rfl, Or.inr (h.word k hlt), h.short k, hb⟩
  · exact (rsee_raw0 rb en q W.length cap k hge w c0 (hA.cell 1 rfl) (hA.cell 2 rfl)).mono fun e w' ⟨he, hb⟩ => ⟨[], he, fun h0 => by rw [wdR_end (by rw [← hk h0]; exact hge)], Or.inl rfl, by decide, hb⟩
theorem rplace_any {c : Ctx} {fd : Value} {W : List (Tx × Nat)} {en rb B : Nat} {g : Option Nat} {s : RS} (w : World) (h : PdAt c fd W en w rb g B s) (hg : s.bad = none) : Calls Tryz.prog 59 #[.pointer (some ⟨rb, 0, none⟩)] w fun e w' => e = .returned (.int .i64 (hereR W en s : Nat)) ∧ Below w.heap.size w w' := by
  obtain ⟨k, nv, hA, hk, hkB⟩ := h.cells
  obtain rfl := hk hg
  obtain ⟨q, cap, hfd, _, hT⟩ := h.toksW
  have c0 : w.cell? ⟨rb, 0, none⟩ = some fd := hA.cell 0 rfl
  rw [hfd] at c0
  unfold hereR
  rcases Nat.lt_or_ge s.k W.length with hlt | hge
  · obtain ⟨G, rfl, _, _, hc⟩ := hT (by omega)
    rw [if_pos hlt]
    exact rplace_raw rb G en W.length cap s.k _ hlt w c0 (hA.cell 1 rfl) (hA.cell 2 rfl) (hc s.k hlt).2
  · rw [if_neg (by omega)]
    exact rplace_raw0 rb en q W.length cap s.k hge w c0 (hA.cell 1 rfl) (hA.cell 2 rfl)
set_option maxHeartbeats 1600000 in
theorem rfails_any (a : Nat) (er : Int) (her : er ≠ 0) {c : Ctx} {fd : Value} {W : List (Tx × Nat)} {en rb B : Nat} {g : Option Nat} {s : RS} (w : World) (h : PdAt c fd W en w rb g B s) (hg : s.bad = none) : Calls Tryz.prog 35 #[.pointer (some ⟨rb, 0, none⟩), .int .i64 er, .int .i64 (a : Nat)] w (NQ c fd W en rb g B (.tuple #[]) (failR W a er s) w) := by
  obtain ⟨k, nv, hA, hk, hkB⟩ := h.cells
  have hO := ((Onl.refl rb w).set 6 (.int .i64 er)).set 5 (.int .i64 (a : Nat))
  have hO2 := ((Onl.refl rb w.drew).set 6 (.int .i64 er)).set 5 (.int .i64 (a : Nat))
  have hO3 := ((Onl.refl rb w).set 5 (.int .i64 (a : Nat))).set 6 (.int .i64 er)
  have fin : ∀ w', Onl rb w w' → At w' rb #[fd, .int .i64 (en : Nat), .int .i64 (k : Nat), nv, .int .i64 (s.ar : Nat), .int .i64 (a : Nat), .int .i64 er] 81 → NQ c fd W en rb g B (.tuple #[]) (failR W a er s) w (.returned (.tuple #[])) w' := fun w' hO hA' => by
    refine ⟨rfl, h.next (h.inv.fail her) h.most (fun hb => absurd hb fail_bad) h.room hO (fun k2 nv2 hA2 hk2 hkB2 => ⟨k, ?_, fun hb => absurd hb fail_bad, hkB⟩), hO⟩
    have e := Option.some.inj (hA2.symm.trans hA)
    simp only [Obj.cells.injEq] at e
    have e2 : nv2 = nv := by have := congrArg (fun x => x[3]?) e.1; simpa [pdC] using this
    subst e2
    simpa [pdC, failR, hg] using hA'
  have FIN := Lib.hid fin
  have hA1 : At w rb #[fd, .int .i64 (en : Nat), .int .i64 (k : Nat), nv, .int .i64 (s.ar : Nat), .int .i64 0, .int .i64 0] 81 := by simpa [pdC, hg] using hA
  have c6 : w.cell? ⟨rb, 6, none⟩ = some (.int .i64 0) := hA1.cell 6 rfl
  have c5 : w.cell? ⟨rb, 5, none⟩ = some (.int .i64 0) := hA1.cell 5 rfl
  have f6 := At.free hA1 6
  have f5 := At.free hA1 5
  have hA2 : At (w.setCell ⟨rb, 6, none⟩ (.int .i64 er)) rb #[fd, .int .i64 (en : Nat), .int .i64 (k : Nat), nv, .int .i64 (s.ar : Nat), .int .i64 0, .int .i64 er] 81 := At.set hA1 6 _ (by simp)
  have hA3 : At ((w.setCell ⟨rb, 6, none⟩ (.int .i64 er)).setCell ⟨rb, 5, none⟩ (.int .i64 (a : Nat))) rb #[fd, .int .i64 (en : Nat), .int .i64 (k : Nat), nv, .int .i64 (s.ar : Nat), .int .i64 (a : Nat), .int .i64 er] 81 := At.set hA2 5 _ (by simp)
  have d5 : (w.setCell ⟨rb, 6, none⟩ (.int .i64 er)).cell? ⟨rb, 5, none⟩ = some (.int .i64 0) := hA2.cell 5 rfl
  have g5 := At.free hA2 5
  have HA3 := Lib.hid hA3
  have HO := Lib.hid hO
  clear fin hA hA1 hA2 hA3 h hk hkB hg hO hO2 hO3
  go_enter Tryz.func35, Tryz.ntmps35
  go_wp2_with fail
  go_end0
  exact FIN.out _ HO.out HA3.out
end Go.Proofs.YtkhklndmbfbnoaaGreatDoor

/- The document's parser: a word taken. -/
namespace Go.Proofs.YtkhklndmbfbnoaaGreatDoor
open Go.ChangeShapes Go.WideShapes Go.ChangeAt Go.RowKit Go.Joins Go.Deep
set_option linter.unusedVariables false

theorem PdAt.bumpG {w : World} {c : Ctx} {fd : Value} {W : List (Tx × Nat)} {en rb B : Nat} {g : Option Nat} {s : RS} (h : PdAt c fd W en w rb g B s) (hg : s.bad = none) (hk : s.k < W.length) : PdAt c fd W en (w.setCell ⟨rb, 2, none⟩ (.int .i64 ((s.k : Int) + 1))) rb g B (passR s) :=
  h.next (h.inv.pass hk) h.most (fun h => ⟨h, rfl⟩) h.room ((Onl.refl rb w).set 2 _) fun k nv hA hks hkB => ⟨s.k + 1, by
    obtain rfl := hks hg
    exact At.set hA 2 (.int .i64 (((s.k + 1 : Nat)) : Int)) (by simp [pdC]), fun _ => rfl, by omega⟩
theorem PdAt.bumpB {w : World} {k : Nat} {nv : Value} {c : Ctx} {fd : Value} {W : List (Tx × Nat)} {en rb B : Nat} {g : Option Nat} {s : RS} (h : PdAt c fd W en w rb g B s) (hg : s.bad ≠ none) (hB : B + 1 ≤ 1000) (hA : At w rb (pdC fd en k s nv) 81) : PdAt c fd W en (w.setCell ⟨rb, 2, none⟩ (.int .i64 ((k : Int) + 1))) rb g (B + 1) s :=
  h.next h.inv hB (fun h => ⟨h, rfl⟩) h.room ((Onl.refl rb w).set 2 _) fun k2 nv2 hA2 hks hkB => ⟨k2 + 1, by
    have e := Option.some.inj (hA2.symm.trans hA)
    simp only [Obj.cells.injEq] at e
    have e2 : k2 = k := by have := congrArg (fun x => x[2]?) e.1; simp [pdC] at this; omega
    subst e2
    exact At.set hA2 2 (.int .i64 (((k2 + 1 : Nat)) : Int)) (by simp [pdC]), fun h => absurd h hg, by omega⟩
theorem PdAt.err {w : World} {c : Ctx} {fd : Value} {W : List (Tx × Nat)} {en rb B : Nat} {g : Option Nat} {s : RS} (h : PdAt c fd W en w rb g B s) : w.cell? ⟨rb, 6, none⟩ = some (.int .i64 (s.bad.getD (0, 0)).2) := by
  obtain ⟨k, nv, hA, _⟩ := h.cells
  exact hA.cell 6 rfl
theorem bad_err {W : List (Tx × Nat)} {s : RS} (hi : Inv W s) (h : s.bad ≠ none) : ((s.bad.getD (0, 0)).2 == 0) = false := by
  cases hb : s.bad with
  | none => exact absurd hb h
  | some x => rw [beq_eq_false_iff_ne]; exact hi.2.2.2 x.1 x.2 hb
theorem bad_err2 {W : List (Tx × Nat)} {s : RS} (hi : Inv W s) (h : s.bad ≠ none) : ((s.bad.getD (0, 0)).2 != 0) = true := by rw [bne, bad_err hi h]; rfl
set_option maxHeartbeats 1600000 in
theorem rtakes_any (x : ByteArray) (hx : x.data.toList ≠ []) {c : Ctx} {fd : Value} {W : List (Tx × Nat)} {en rb B : Nat} {g : Option Nat} {s : RS} (w : World) (h : PdAt c fd W en w rb g B s) : Calls Tryz.prog 31 #[.pointer (some ⟨rb, 0, none⟩), .string x] w (NQ c fd W en rb g B (.tuple #[]) (needWR W en x.data.toList s) w) := by
  have c6 := h.err
  by_cases hg : s.bad = none
  · rw [hg] at c6
    have c6 : w.cell? ⟨rb, 6, none⟩ = some (.int .i64 0) := c6
    have cS := rsee_any w h
    have e := txt_beq (wdR W s) x
    have cF := fun w' hb => rfails_any (c := c) (fd := fd) (en := en) (rb := rb) (g := g) (B := B) (hereR W en s) 4 (by decide) w' (h.grow hb) hg
    have cP := fun w' hb => rplace_any w' (h.grow hb) hg
    have HH := Lib.hid h
    unfold SeeP at cS
    cases hb : (wdR W s == x.data.toList)
    · have e2 : needWR W en x.data.toList s = failR W (hereR W en s) 4 s := by unfold needWR needR; rw [if_neg (by show ¬ ((wdR W s == x.data.toList) = true); rw [hb]; decide)]
      rw [e2]
      rw [hb] at e
      have HG := Lib.hid hg
      unfold NQ at cF
      clear hb e2 hx
      generalize wdR W s = l at *
      generalize hereR W en s = hr at *
      generalize hy : (⟨l.toArray⟩ : ByteArray) = y at *
      clear h hg
      go_enter Tryz.func31, Tryz.ntmps31
      go_wp2_with fail
      refine cS.mono ?_
      rintro e w1 ⟨l1, rfl, hl, _, _, hb1⟩
      obtain rfl := hl HG.out
      unfold txV
      rw [hy]
      clear hl cS
      go_wp2_with fail
      refine (cP _ hb1).mono ?_
      rintro e w2 ⟨rfl, hb2⟩
      have hb3 := hb1.trans (hb2.mono hb1.size)
      clear cP
      go_wp2_with fail
      refine (cF _ hb3).mono ?_
      rintro e w3 ⟨rfl, h3, hO⟩
      have hO2 := (HH.out.onl hb3).trans hO
      clear cF
      go_wp2_with fail
      go_end0
      exact ⟨rfl, h3, hO2⟩
    · have hne : wdR W s ≠ [] := fun h0 => by rw [h0, beq_iff_eq] at hb; exact hx hb.symm
      have e2 : needWR W en x.data.toList s = passR s := by unfold needWR needR; rw [if_pos hb]
      have hlt := wdR_lt hne
      rw [e2]
      rw [hb] at e
      have HG := Lib.hid hg
      have hWl : W.length ≤ 1000000 := by obtain ⟨_, _, _, hl, _⟩ := h.toks; exact hl
      have hk1 : s.k ≤ 1000000 := by omega
      have HL := Lib.hid hlt
      clear hb e2 hx hne cF cP hlt hWl
      generalize wdR W s = l at *
      generalize hy : (⟨l.toArray⟩ : ByteArray) = y at *
      clear h hg
      go_enter Tryz.func31, Tryz.ntmps31
      go_wp2_with fail
      refine cS.mono ?_
      rintro e w1 ⟨l1, rfl, hl, _, _, hb1⟩
      obtain rfl := hl HG.out
      unfold txV
      rw [hy]
      clear hl cS
      have h1 := HH.out.grow hb1
      have hO1 := HH.out.onl hb1
      obtain ⟨k, nv, hA, hk, hkB⟩ := h1.cells
      obtain rfl := hk HG.out
      have c2 : w1.cell? ⟨rb, 2, none⟩ = some (.int .i64 (s.k : Nat)) := hA.cell 2 rfl
      have f2 := At.free hA 2
      have H1 := Lib.hid (h1.bumpG HG.out HL.out)
      have HO := Lib.hid (hO1.set 2 (.int .i64 ((s.k : Int) + 1)))
      clear hA hk hkB h1 hO1
      generalize s.k = k at *
      go_wp2_with fail
      go_end0
      exact ⟨rfl, H1.out, HO.out⟩
  · have q := bad_err2 h.inv hg
    have e2 : needWR W en x.data.toList s = s := by unfold needWR; rw [needR_bad _ (by rw [beq_eq_false_iff_ne]; exact fun h => hx h.symm) h.inv hg]
    rw [e2]
    generalize (s.bad.getD (0, 0)).2 = er at *
    clear e2 hg hx
    go_enter Tryz.func31, Tryz.ntmps31
    go_wp2_with fail
    go_end0
    exact ⟨rfl, h, Onl.refl rb w⟩
end Go.Proofs.YtkhklndmbfbnoaaGreatDoor
