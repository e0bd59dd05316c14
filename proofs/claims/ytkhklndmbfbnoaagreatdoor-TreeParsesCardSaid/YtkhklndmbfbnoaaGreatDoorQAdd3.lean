/- The document's parser: one deeper; a node is added. -/
import Derived.Test.YtkhklndmbfbnoaaGreatDoorQNeed3
import Derived.Test.YtkhklndmbfbnoaaGreatDoorTNode
import Derived.StillTailTactics
import Derived.Deep.AppendLies
import Derived.Deep.RegionHeld3
namespace Go.Proofs.YtkhklndmbfbnoaaGreatDoor
open Go.ChangeShapes Go.WideShapes Go.ChangeAt Go.RowKit Go.Joins Go.Deep
set_option linter.unusedVariables false

theorem PdAt.deep {w : World} {s' : RS} {c : Ctx} {fd : Value} {W : List (Tx × Nat)} {en rb B : Nat} {g : Option Nat} {s : RS} (h : PdAt c fd W en w rb g B s) (hi : Inv W s') (ha : s'.ar ≤ 30) (hb : s'.bad = s.bad) (ht : s'.t = s.t) (hk : s'.bad = none → s'.k = s.k) : PdAt c fd W en (w.setCell ⟨rb, 4, none⟩ (.int .i64 (s'.ar : Nat))) rb g B s' :=
  h.next hi h.most (fun h => ⟨by rw [← hb]; exact h, ht⟩) ha ((Onl.refl rb w).set 4 _) fun k nv hA hks hkB => ⟨k, by
    have e : pdC fd en k s' nv = (pdC fd en k s nv).set! 4 (.int .i64 (s'.ar : Nat)) := by unfold pdC; rw [hb]; rfl
    rw [e]
    exact At.set hA 4 _ (by simp [pdC]), fun h => by rw [hk h]; exact hks (by rw [← hb]; exact h), hkB⟩
set_option maxHeartbeats 1600000 in
theorem rin_deep {c : Ctx} {fd : Value} {W : List (Tx × Nat)} {en rb B : Nat} {g : Option Nat} {s : RS} (w : World) (h : PdAt c fd W en w rb g B s) (hg : s.bad = none) (h20 : s.ar = 20) : Calls Tryz.prog 60 #[.pointer (some ⟨rb, 0, none⟩)] w (NQ c fd W en rb g B (.bool false) (enterR W en s) w) := by
  have cP := rplace_any w h hg
  have cF := fun w' hb => rfails_any (c := c) (fd := fd) (en := en) (rb := rb) (g := g) (B := B) (hereR W en s) 2 (by decide) w' (h.grow hb) hg
  unfold NQ at cF
  have hE : enterR W en s = ⟨W.length, s.ar + 1, s.t, (failR W (hereR W en s) 2 s).bad⟩ := by unfold enterR; rw [if_pos h20]
  have hEi := enter_inv (en := en) h.inv
  rw [hE] at hEi ⊢
  have hbd : (failR W (hereR W en s) 2 s).bad = some (hereR W en s, 2) := by unfold failR; rw [hg]
  have c6 : w.cell? ⟨rb, 6, none⟩ = some (.int .i64 0) := by have := h.err; rw [hg] at this; exact this
  obtain ⟨k, nv, hA, _⟩ := h.cells
  have c4 : w.cell? ⟨rb, 4, none⟩ = some (.int .i64 (s.ar : Nat)) := hA.cell 4 rfl
  have u20 : (20 : Int) ≤ (s.ar : Int) := by omega
  have HH := Lib.hid h
  have HEI := Lib.hid hEi
  have HBD := Lib.hid hbd
  have H20 := Lib.hid h20
  clear hE hEi hbd hA h hg h20
  go_enter Tryz.func60, Tryz.ntmps60
  go_wp2_with fail
  refine cP.mono ?_
  rintro e w1 ⟨rfl, hb1⟩
  clear cP
  go_wp2_with fail
  refine (cF _ hb1).mono ?_
  rintro e w2 ⟨rfl, h2, hO⟩
  have hO2 := (HH.out.onl hb1).trans hO
  have d6 : w2.cell? ⟨rb, 6, none⟩ = some (.int .i64 2) := by have := h2.err; rw [HBD.out] at this; exact this
  obtain ⟨k2, nv2, hA2, _⟩ := h2.cells
  have d4 : w2.cell? ⟨rb, 4, none⟩ = some (.int .i64 (s.ar : Nat)) := hA2.cell 4 rfl
  have f4 := At.free hA2 4
  have fin : PdAt c fd W en (w2.setCell ⟨rb, 4, none⟩ (.int .i64 ((s.ar : Int) + 1))) rb g B ⟨W.length, s.ar + 1, s.t, (failR W (hereR W en s) 2 s).bad⟩ := h2.deep HEI.out (by show s.ar + 1 ≤ 30; have := H20.out; omega) rfl rfl (fun h => rfl)
  have FIN := Lib.hid fin
  have HO := Lib.hid (hO2.set 4 (.int .i64 ((s.ar : Int) + 1)))
  have e6 : (w2.setCell ⟨rb, 4, none⟩ (.int .i64 ((s.ar : Int) + 1))).cell? ⟨rb, 6, none⟩ = some (.int .i64 2) := by have := fin.err; rw [HBD.out] at this; exact this
  have hak : (s.ar : Int) ≤ 20 := by have := H20.out; omega
  clear fin hA2 h2 hO hO2 cF c4 c6 u20
  generalize s.ar = ka at *
  go_wp2_with fail
  go_ret
  exact ⟨rfl, FIN.out, HO.out⟩
set_option maxHeartbeats 1600000 in
theorem rin_ok {c : Ctx} {fd : Value} {W : List (Tx × Nat)} {en rb B : Nat} {g : Option Nat} {s : RS} (w : World) (h : PdAt c fd W en w rb g B s) (hg : s.bad = none) (h20 : s.ar < 20) : Calls Tryz.prog 60 #[.pointer (some ⟨rb, 0, none⟩)] w (NQ c fd W en rb g B (.bool true) (enterR W en s) w) := by
  have hE : enterR W en s = ⟨s.k, s.ar + 1, s.t, s.bad⟩ := by unfold enterR; rw [if_neg (by omega)]
  have hEi := enter_inv (en := en) h.inv
  rw [hE] at hEi ⊢
  have c6 : w.cell? ⟨rb, 6, none⟩ = some (.int .i64 0) := by have := h.err; rw [hg] at this; exact this
  obtain ⟨k, nv, hA, _⟩ := h.cells
  have c4 : w.cell? ⟨rb, 4, none⟩ = some (.int .i64 (s.ar : Nat)) := hA.cell 4 rfl
  have f4 := At.free hA 4
  have u20 : ¬ (20 : Int) ≤ (s.ar : Int) := by omega
  have hak : (s.ar : Int) ≤ 20 := by omega
  have fin : PdAt c fd W en (w.setCell ⟨rb, 4, none⟩ (.int .i64 ((s.ar : Int) + 1))) rb g B ⟨s.k, s.ar + 1, s.t, s.bad⟩ := h.deep hEi (by show s.ar + 1 ≤ 30; omega) rfl rfl (fun h => rfl)
  have FIN := Lib.hid fin
  have HO := Lib.hid ((Onl.refl rb w).set 4 (.int .i64 ((s.ar : Int) + 1)))
  have e6 : (w.setCell ⟨rb, 4, none⟩ (.int .i64 ((s.ar : Int) + 1))).cell? ⟨rb, 6, none⟩ = some (.int .i64 0) := by have := fin.err; rw [show (⟨s.k, s.ar + 1, s.t, s.bad⟩ : RS).bad = none from hg] at this; exact this
  clear fin hA h hE hEi hg h20
  generalize s.ar = ka at *
  go_enter Tryz.func60, Tryz.ntmps60
  go_wp2_with fail
  go_ret
  exact ⟨rfl, FIN.out, HO.out⟩
end Go.Proofs.YtkhklndmbfbnoaaGreatDoor

/- The document's parser: a node is added. -/
namespace Go.Proofs.YtkhklndmbfbnoaaGreatDoor
open Go.ChangeShapes Go.WideShapes Go.ChangeAt Go.RowKit Go.Joins Go.Deep
set_option linter.unusedVariables false

set_option maxRecDepth 100000 in
set_option maxHeartbeats 3200000 in
theorem radd_ok {c : Ctx} {fd : Value} {W : List (Tx × Nat)} {en rb B : Nat} {g : Option Nat} {s : RS} (x : NX) (w : World) (h : PdAt c fd W en w rb g B s) (hx : PsOK c.F w (rb + 1) x) (hg : s.bad = none) (hf : s.t.length < 300) (hr : s.t.length ≤ s.k) : Calls Tryz.prog 33 #[.pointer (some ⟨rb, 0, none⟩), ndV x] w (RQ c fd W en rb g B (nodeR W x.x s) w) := by
  have hnr : nodeR W x.x s = ((s.t.length : Int), ⟨s.k, s.ar, s.t ++ [x.x], s.bad⟩) := by unfold nodeR; rw [hg]; dsimp only; rw [if_neg (by omega)]
  have hInv := Inv.node (x := x.x) h.inv (fun _ => hr)
  rw [hnr] at hInv ⊢
  have hb1 := boxT w (.cells #[.int .i64 x.x.op, txV x.x.name, .int .i64 x.x.n, .slice x.q x.x.ps.length x.c] 83)
  have h1 := h.grow hb1
  have hO2 := h.onl hb1
  have hx2 := hx.below hb1
  have hBox2 := At.new w #[.int .i64 x.x.op, txV x.x.name, .int .i64 x.x.n, .slice x.q x.x.ps.length x.c] 83
  have c6 : (w.alloc (.cells #[.int .i64 x.x.op, txV x.x.name, .int .i64 x.x.n, .slice x.q x.x.ps.length x.c] 83)).cell? ⟨rb, 6, none⟩ = some (.int .i64 0) := by have := h1.err; rw [hg] at this; exact this
  obtain ⟨⟨k, nv, X, hA2, n1, n22, n3, n4, n5⟩, ki, kb, kba, kt, kr, ksh, khe, kmo, kwo⟩ := h1
  obtain ⟨n6, rfl⟩ := n3 hg
  have hXl : X.length = s.t.length := by rw [← n6, List.length_map]
  generalize hm : s.t.length = m at *
  obtain ⟨q, cc, rfl⟩ : ∃ q cc, nv = .slice q m cc := by
    rcases n22.1.2 with ⟨rfl, h0⟩ | ⟨gg, cap, cur, rfl, _⟩
    · exact ⟨none, 0, by rw [← hXl, h0]⟩
    · exact ⟨_, cap, by rw [← hXl]⟩
  have HG1 := Lib.hid n1
  generalize hw2 : w.alloc (.cells #[.int .i64 x.x.op, txV x.x.name, .int .i64 x.x.n, .slice x.q x.x.ps.length x.c] 83) = w2 at *
  have FINQ := Lib.hid (show ∀ (g2 cap2 : Nat) (w9 : World), At w9 rb ((pdC fd en s.k s (.slice q m cc)).set! 3 (.slice (some ⟨g2, 0, none⟩) (m + 1) cap2)) 81 → NRow c.F w9 (rb + 1) (.slice (some ⟨g2, 0, none⟩) (m + 1) cap2) (X ++ [x]) → Below rb w2 w9 → Trn rb g (some g2) w w9 → RQ c fd W en rb g B ((m : Int), ⟨s.k, s.ar, s.t ++ [x.x], s.bad⟩) w (.returned (.int .i64 (m : Nat))) w9 from fun g2 cap2 w9 a1 a2 a3 a4 => ⟨some g2, m, rfl, fun _ => rfl, ⟨⟨s.k, _, X ++ [x], a1, rfl, a2, fun _ => ⟨by rw [List.map_append, n6]; rfl, rfl⟩, by rw [List.length_append, hXl]; show m + 1 ≤ 301; omega, n5⟩, hInv, kb.trans (a3.mono kba), kba, kt, kr, ksh, fun b h => Nat.lt_of_lt_of_le (khe b h) a3.size, kmo, kwo⟩, a4⟩)
  have b0 := hBox2.cell 0 rfl
  have b1 := hBox2.cell 1 rfl
  have b2 := hBox2.cell 2 rfl
  have b3 := hBox2.cell 3 rfl
  have c3 : w2.cell? ⟨rb, 3, none⟩ = some (.slice q m cc) := hA2.cell 3 rfl
  have hown := (n22.1.alloc (.cells #[.int .i64 x.x.op, txV x.x.name, .int .i64 x.x.n, .slice x.q x.x.ps.length x.c] 83)).drew
  rw [hXl] at hown
  obtain ⟨i0, hi0, hz0, hz1, hz2⟩ := info_parts Tryz.infoNode
  have hm1 : m + 1 ≤ maxLen := by unfold maxLen; omega
  have hm2 : (m + 1) * 56 ≤ 140737488355328 := by omega
  have hNR : (Value.slice q m cc).ownBlock ≠ some rb := fun e => by
    obtain ⟨cs, hc⟩ := row_typed n22 e
    exact absurd (at_type hc hA2) (by decide)
  have HA2 := Lib.hid hA2
  have HN2 := Lib.hid n22
  have HX2 := Lib.hid hx2
  have HO2 := Lib.hid hO2
  have HXL := Lib.hid hXl
  have HOW := Lib.hid hown
  have hltr2 : rb < w2.heap.size := hA2.lt
  have u300 : ¬ (300 : Int) ≤ (m : Int) := by omega
  have HW2 := Lib.hid hw2
  clear h hb1 hO2 hA2 n22 hx hx2 hBox2 hInv n3 n4 n5 n6 hXl hf hnr hg ki kb kba kt kr ksh khe kmo kwo hr hown hm n1 hw2
  unfold ndV
  go_enter Tryz.func33, Tryz.ntmps33
  go_upto_region 1 with (fail)
  rw [HW2.out]
  go_wp2_with fail
  go_region_law
    ((refine step_append_lies _ (by rfl) _ _ _ (by rfl) (rb + 1) 83 i0 _ 4 56 Tryz.underlying36 hi0 hz0 hz1 hz2 rfl (by omega) (.slice q m cc) m (X.flatMap ndC) (by rfl) HOW.out ⟨w2.heap.size, 0, none⟩ 1 1 [.int .i64 x.x.op, txV x.x.name, .int .i64 x.x.n, .slice x.q x.x.ps.length x.c] (by rfl) (by rfl) (World.news_of_block (cs := #[.int .i64 x.x.op, txV x.x.name, .int .i64 x.x.n, .slice x.q x.x.ps.length x.c]) (t := 83) (fr := (0, 0)) (heap_alloc_new w2 _)) (by simp [Value.oneCell', txV]) (by omega) hm1 hm2 (by simp; omega) (w2.heap.size + 1) (by simp) ?_; intro g2 cap2 w8 hown3 hgrow hat hlt3
      have hA8 := At.grownT (At.drew (At.alloc HA2.out (.cells #[.int .i64 x.x.op, txV x.x.name, .int .i64 x.x.n, .slice x.q x.x.ps.length x.c] 83))) hgrow hNR
      have c3e : w8.cell? ⟨rb, 3, none⟩ = some (.slice q m cc) := hA8.cell 3 rfl
      have f3e : w8.frozen? ⟨rb, 3, none⟩ = false := At.free hA8 3
      have HA8 := Lib.hid hA8
      have HO3 := Lib.hid hown3
      have HGR := Lib.hid hgrow
      have HAT := Lib.hid hat
      clear hA8 hown3 hgrow hat))
  all_goals
    have hbA := ((Below.refl rb w2).alloc (Nat.le_of_lt hltr2) (.cells #[.int .i64 x.x.op, txV x.x.name, .int .i64 x.x.n, .slice x.q x.x.ps.length x.c] 83)).drew
    have hb8 : Below rb w2 w8 := hbA.grown HGR.out (Nat.le_trans (Nat.le_of_lt hltr2) hbA.size) (fun k hk => Nat.le_of_succ_le (own_geT HOW.out hk))
    have hA9 := At.set HA8.out 3 (.slice (some ⟨g2, 0, none⟩) (m + 1) cap2) (by simp [pdC])
    have hO9 := (Onl.refl rb w8).set 3 (.slice (some ⟨g2, 0, none⟩) (m + 1) cap2)
    have hkeep : ∀ b cs, At w2 b cs 3 → At w8 b cs 3 := fun b cs hb => At.grownT (At.drew (At.alloc hb (.cells #[.int .i64 x.x.op, txV x.x.name, .int .i64 x.x.n, .slice x.q x.x.ps.length x.c] 83))) HGR.out (fun e => by
      obtain ⟨cs', hc⟩ := row_typed HN2.out e
      exact absurd (at_type hc hb) (by decide))
    have hN8 : NRow c.F w8 (rb + 1) (.slice (some ⟨g2, 0, none⟩) (m + 1) cap2) (X ++ [x]) := by
      refine ⟨?_, fun y hy => ?_⟩
      · have := HO3.out
        rw [List.length_append, HXL.out, List.flatMap_append]
        simpa [ndC] using this
      · rcases List.mem_append.1 hy with h1 | h1
        · exact (HN2.out.2 y h1).keep hkeep
        · rw [List.mem_singleton] at h1
          subst h1
          exact HX2.out.keep hkeep
    have hN9 := hN8.onlyP HA8.out hO9
    have hb9 := hb8.trans hO9.1
    have hTr : Trn rb g (some g2) w2 (w8.setCell ⟨rb, 3, none⟩ (.slice (some ⟨g2, 0, none⟩) (m + 1) cap2)) := by
      have hsz8 := hb8.size
      refine ⟨hb9, fun b hb hr hgb => ?_, ?_⟩
      · rw [Below.heap_setCell _ _ _ _ hr]
        have h1 := HGR.out.block b (by show b < (w2.heap.push _).size; simp; omega) (fun e => hgb (by rw [← HG1.out]; exact e.symm))
        exact h1.trans (Below.heap_alloc w2 _ b hb)
      · rcases HAT.out with h1 | h1
        · exact Or.inl (by rw [← HG1.out, h1])
        · exact Or.inr ⟨g2, rfl, by omega⟩
    have FIN := Lib.hid (FINQ.out g2 cap2 _ hA9 hN9 hb9 (Trn.trans (Trn.of HO2.out) hTr))
    have c3f : (w8.setCell ⟨rb, 3, none⟩ (.slice (some ⟨g2, 0, none⟩) (m + 1) cap2)).cell? ⟨rb, 3, none⟩ = some (.slice (some ⟨g2, 0, none⟩) (m + 1) cap2) := hA9.cell 3 rfl
    clear hN9 hN8 hkeep hO9 hA9 hb8 hb9 hbA hTr c3 c3e f3e b0 b1 b2 b3 HA8 HO3 HGR HAT hi0 hz0 hz1 hz2
    have hw1 : IntKind.i64.wrap (((m : Int) + 1) - 1) = (m : Int) := by rw [IntKind.wrap_i64]; omega
    go_wp2_with fail
    go_ret
    exact FIN.out
end Go.Proofs.YtkhklndmbfbnoaaGreatDoor

/- The document's parser: a node too many. -/
namespace Go.Proofs.YtkhklndmbfbnoaaGreatDoor
open Go.ChangeShapes Go.WideShapes Go.ChangeAt Go.RowKit Go.Joins Go.Deep
set_option linter.unusedVariables false

set_option maxHeartbeats 1600000 in
theorem rfails_raw (a : Nat) (er : Int) (rb : Nat) (x0 x1 x2 x3 x4 : Value) (w : World) (hA1 : At w rb #[x0, x1, x2, x3, x4, .int .i64 0, .int .i64 0] 81) : Calls Tryz.prog 35 #[.pointer (some ⟨rb, 0, none⟩), .int .i64 er, .int .i64 (a : Nat)] w fun e w' => e = .returned (.tuple #[]) ∧ At w' rb #[x0, x1, x2, x3, x4, .int .i64 (a : Nat), .int .i64 er] 81 ∧ Onl rb w w' := by
  have hO := ((Onl.refl rb w).set 6 (.int .i64 er)).set 5 (.int .i64 (a : Nat))
  have c6 : w.cell? ⟨rb, 6, none⟩ = some (.int .i64 0) := hA1.cell 6 rfl
  have c5 : w.cell? ⟨rb, 5, none⟩ = some (.int .i64 0) := hA1.cell 5 rfl
  have f6 := At.free hA1 6
  have f5 := At.free hA1 5
  have hA2 : At (w.setCell ⟨rb, 6, none⟩ (.int .i64 er)) rb #[x0, x1, x2, x3, x4, .int .i64 0, .int .i64 er] 81 := At.set hA1 6 _ (by simp)
  have hA3 : At ((w.setCell ⟨rb, 6, none⟩ (.int .i64 er)).setCell ⟨rb, 5, none⟩ (.int .i64 (a : Nat))) rb #[x0, x1, x2, x3, x4, .int .i64 (a : Nat), .int .i64 er] 81 := At.set hA2 5 _ (by simp)
  have d5 : (w.setCell ⟨rb, 6, none⟩ (.int .i64 er)).cell? ⟨rb, 5, none⟩ = some (.int .i64 0) := hA2.cell 5 rfl
  have g5 := At.free hA2 5
  have HA3 := Lib.hid hA3
  have HO := Lib.hid hO
  clear hA1 hA2 hA3 hO
  go_enter Tryz.func35, Tryz.ntmps35
  go_wp2_with fail
  go_end0
  exact ⟨rfl, HA3.out, HO.out⟩
set_option maxRecDepth 100000 in
set_option maxHeartbeats 3200000 in
theorem radd_full {c : Ctx} {fd : Value} {W : List (Tx × Nat)} {en rb B : Nat} {g : Option Nat} {s : RS} (x : NX) (w : World) (h : PdAt c fd W en w rb g B s) (hx : PsOK c.F w (rb + 1) x) (hg : s.bad = none) (hf : 300 ≤ s.t.length) : Calls Tryz.prog 33 #[.pointer (some ⟨rb, 0, none⟩), ndV x] w (RQ c fd W en rb g B (nodeR W x.x s) w) := by
  have hnr : nodeR W x.x s = (0, failR W (W.getD (s.k - 1) ([], 0)).2 2 s) := by unfold nodeR; rw [hg]; dsimp only; rw [if_pos hf]
  rw [hnr]
  have hInv := h.inv.fail (a := (W.getD (s.k - 1) ([], 0)).2) (e := 2) (by decide)
  have hti := h.inv.2.1 hg
  have hki := h.inv.1
  have hb1 := boxT w (.cells #[.int .i64 x.x.op, txV x.x.name, .int .i64 x.x.n, .slice x.q x.x.ps.length x.c] 83)
  have h1 := h.grow hb1
  have hO1 := h.onl hb1
  have hx1 := hx.below hb1
  have hBox1 := At.new w #[.int .i64 x.x.op, txV x.x.name, .int .i64 x.x.n, .slice x.q x.x.ps.length x.c] 83
  have c6 : (w.alloc (.cells #[.int .i64 x.x.op, txV x.x.name, .int .i64 x.x.n, .slice x.q x.x.ps.length x.c] 83)).cell? ⟨rb, 6, none⟩ = some (.int .i64 0) := by have := h1.err; rw [hg] at this; exact this
  have hlt := h.lt
  obtain ⟨⟨k, nv, X, hA, n1, n2, n3, n4, n5⟩, ki, kb, kba, kt, kr, ksh, khe, kmo, kwo⟩ := h1
  obtain ⟨n6, rfl⟩ := n3 hg
  have hm : X.length = 300 := by rw [← List.length_map (f := NX.x), n6]; omega
  obtain ⟨q, cc, rfl⟩ : ∃ q cc, nv = .slice q 300 cc := by
    rcases n2.1.2 with ⟨rfl, h0⟩ | ⟨gg, cap, cur, rfl, _⟩
    · omega
    · exact ⟨_, cap, by rw [← hm]⟩
  have HG1 := Lib.hid n1
  generalize hwB : w.alloc (.cells #[.int .i64 x.x.op, txV x.x.name, .int .i64 x.x.n, .slice x.q x.x.ps.length x.c] 83) = wB at *
  have hA1 : At wB rb #[fd, .int .i64 (en : Nat), .int .i64 (s.k : Nat), .slice q 300 cc, .int .i64 (s.ar : Nat), .int .i64 0, .int .i64 0] 81 := by simpa [pdC, hg] using hA
  obtain ⟨G, cap, hfd, hat⟩ : ∃ G cap, fd = .slice (some ⟨G, 0, none⟩) W.length cap ∧ wB.cell? ⟨G, (s.k - 1) * 2 + 1, none⟩ = some (.int .i64 ((W.getD (s.k - 1) ([], 0)).2 : Nat)) := by
    obtain ⟨q, cap, hfd, hWl, hT⟩ := id kt
    obtain ⟨G, rfl, hG, _, hc⟩ := hT (by omega)
    exact ⟨G, cap, hfd, (kb.cell (p := ⟨G, (s.k - 1) * 2 + 1, none⟩) hG).trans (hc (s.k - 1) (by omega)).2⟩
  have c0 : wB.cell? ⟨rb, 0, none⟩ = some (.slice (some ⟨G, 0, none⟩) W.length cap) := by rw [← hfd]; exact hA1.cell 0 rfl
  have c2 : wB.cell? ⟨rb, 2, none⟩ = some (.int .i64 (s.k : Nat)) := hA1.cell 2 rfl
  have c3a : wB.cell? ⟨rb, 3, none⟩ = some (.slice q 300 cc) := hA1.cell 3 rfl
  have cF := rfails_raw (W.getD (s.k - 1) ([], 0)).2 2 rb fd (.int .i64 (en : Nat)) (.int .i64 (s.k : Nat)) (.slice q 300 cc) (.int .i64 (s.ar : Nat)) wB.drew (At.drew hA1)
  obtain ⟨k1, hk1⟩ : ∃ k1, k1 = s.k - 1 := ⟨_, rfl⟩
  rw [← hk1] at hat cF ⊢ hInv
  have hWL : W.length ≤ 1000000 := by obtain ⟨_, _, _, h, _⟩ := id kt; exact h
  have e1 : IntKind.i64.wrap ((s.k : Int) - 1) = (k1 : Int) := by rw [IntKind.wrap_i64]; omega
  have g1 : (k1 : Int) < (W.length : Int) := by omega
  have hsb : ∀ av, (failR W av 2 s).bad = some (av, 2) := fun av => by unfold failR; rw [hg]
  have hsk : ∀ av, (failR W av 2 s).ar = s.ar := fun av => rfl
  generalize (W.getD k1 ([], 0)).2 = av at *
  have HS := Lib.hid (And.intro (hsb av) (hsk av))
  have HR := Lib.hid (show ∀ (g2 cap2 : Nat) (w2 w9 : World), Onl rb wB w2 → At w9 rb ((#[fd, .int .i64 (en : Nat), .int .i64 (s.k : Nat), .slice q 300 cc, .int .i64 (s.ar : Nat), .int .i64 (av : Nat), .int .i64 2] : Array Value).set! 3 (.slice (some ⟨g2, 0, none⟩) (300 + 1) cap2)) 81 → NRow c.F w9 (rb + 1) (.slice (some ⟨g2, 0, none⟩) (300 + 1) cap2) (X ++ [x]) → Below rb w2 w9 → Trn rb g (some g2) w w9 → RQ c fd W en rb g B (0, failR W av 2 s) w (.returned (.int .i64 (300 : Nat))) w9 from fun g2 cap2 w2 w9 o2 a1 a2 a3 a4 => ⟨some g2, 300, rfl, fun hb => absurd hb fail_bad, ⟨⟨s.k, _, X ++ [x], by
      have e : pdC fd en s.k (failR W av 2 s) (.slice (some ⟨g2, 0, none⟩) (300 + 1) cap2) = (#[fd, .int .i64 (en : Nat), .int .i64 (s.k : Nat), .slice q 300 cc, .int .i64 (s.ar : Nat), .int .i64 (av : Nat), .int .i64 2] : Array Value).set! 3 (.slice (some ⟨g2, 0, none⟩) (300 + 1) cap2) := by
        unfold pdC
        rw [hsb av]
        rfl
      rw [e]
      exact a1, rfl, a2, fun hb => absurd hb fail_bad, by rw [List.length_append, hm]; show 300 + 1 ≤ 301; omega, n5⟩, hInv, (kb.trans (o2.1.mono kba)).trans (a3.mono kba), kba, kt, kr, ksh, fun b h => Nat.lt_of_lt_of_le (Nat.lt_of_lt_of_le (khe b h) o2.1.size) a3.size, kmo, kwo⟩, a4⟩)
  have u300 : (300 : Int) ≤ ((300 : Nat) : Int) := by omega
  have HWB := Lib.hid hwB
  have HN := Lib.hid n2
  have HX := Lib.hid hx1
  have HBX := Lib.hid hBox1
  have HA := Lib.hid hA
  have HM := Lib.hid hm
  have HO1 := Lib.hid hO1
  generalize s.k = kk at *
  generalize s.ar = aa at *
  clear h hb1 hO1 hA hA1 n2 hx hx1 hBox1 hInv n3 n4 n5 n6 hm hf hnr hg ki kb kba kt kr ksh khe kmo kwo n1 hwB hti hki hsb hsk HS hk1 hWL
  unfold ndV
  go_enter Tryz.func33, Tryz.ntmps33
  go_upto_region 1 with (fail)
  rw [HWB.out]
  go_wp2_with fail
  go_still_tail 13, (by kernel_rfl)
  change wpList _ _ _ _ _ wB.drew
  go_wp2_with fail
  refine cF.mono ?_
  rintro e w2 ⟨rfl, hA2, hOd⟩
  have hOB : Onl rb wB w2 := ⟨(Below.refl rb wB).drew.trans hOd.1, hOd.2⟩
  have n22 := HN.out.onlyP HA.out hOB
  have hx2 := HX.out.keep fun b cs hb => hOB.at hb (at_other hb HA.out (by decide))
  have hBox2 := hOB.at HBX.out (show w.heap.size ≠ rb by omega)
  have hXl := HM.out
  have hO2 := HO1.out.trans hOB
  have FINQ := Lib.hid (fun g2 cap2 w9 => HR.out g2 cap2 w2 w9 hOB)
  clear cF HX HBX HM HO1 HN HA c0 c2 c3a c6 hat
  have b0 := hBox2.cell 0 rfl
  have b1 := hBox2.cell 1 rfl
  have b2 := hBox2.cell 2 rfl
  have b3 := hBox2.cell 3 rfl
  have c3 : w2.cell? ⟨rb, 3, none⟩ = some (.slice q 300 cc) := hA2.cell 3 rfl
  have hown := (n22.1.alloc (.cells #[.int .i64 x.x.op, txV x.x.name, .int .i64 x.x.n, .slice x.q x.x.ps.length x.c] 83)).drew
  rw [hXl] at hown
  obtain ⟨i0, hi0, hz0, hz1, hz2⟩ := info_parts Tryz.infoNode
  have hm1 : 300 + 1 ≤ maxLen := by unfold maxLen; omega
  have hm2 : (300 + 1) * 56 ≤ 140737488355328 := by omega
  have hNR : (Value.slice q 300 cc).ownBlock ≠ some rb := fun e => by
    obtain ⟨cs, hc⟩ := row_typed n22 e
    exact absurd (at_type hc hA2) (by decide)
  have HA2 := Lib.hid hA2
  have HN2 := Lib.hid n22
  have HX2 := Lib.hid hx2
  have HO2 := Lib.hid hO2
  have HXL := Lib.hid hXl
  have HOW := Lib.hid hown
  have hltr2 : rb < w2.heap.size := hA2.lt
  clear hA2 n22 hx2 hBox2 hXl hO2 hown hOB hOd
  go_wp2_with fail
  go_region_law
    ((refine step_append_lies _ (by rfl) _ _ _ (by rfl) (rb + 1) 83 i0 _ 4 56 Tryz.underlying36 hi0 hz0 hz1 hz2 rfl (by omega) (.slice q 300 cc) 300 (X.flatMap ndC) (by rfl) HOW.out ⟨w2.heap.size, 0, none⟩ 1 1 [.int .i64 x.x.op, txV x.x.name, .int .i64 x.x.n, .slice x.q x.x.ps.length x.c] (by rfl) (by rfl) (World.news_of_block (cs := #[.int .i64 x.x.op, txV x.x.name, .int .i64 x.x.n, .slice x.q x.x.ps.length x.c]) (t := 83) (fr := (0, 0)) (heap_alloc_new w2 _)) (by simp [Value.oneCell', txV]) (by omega) hm1 hm2 (by simp; omega) (w2.heap.size + 1) (by simp) ?_; intro g2 cap2 w8 hown3 hgrow hat hlt3
      have hA8 := At.grownT (At.drew (At.alloc HA2.out (.cells #[.int .i64 x.x.op, txV x.x.name, .int .i64 x.x.n, .slice x.q x.x.ps.length x.c] 83))) hgrow hNR
      have c3e : w8.cell? ⟨rb, 3, none⟩ = some (.slice q 300 cc) := hA8.cell 3 rfl
      have f3e : w8.frozen? ⟨rb, 3, none⟩ = false := At.free hA8 3
      have HA8 := Lib.hid hA8
      have HO3 := Lib.hid hown3
      have HGR := Lib.hid hgrow
      have HAT := Lib.hid hat
      clear hA8 hown3 hgrow hat))
  all_goals
    have hbA := ((Below.refl rb w2).alloc (Nat.le_of_lt hltr2) (.cells #[.int .i64 x.x.op, txV x.x.name, .int .i64 x.x.n, .slice x.q x.x.ps.length x.c] 83)).drew
    have hb8 : Below rb w2 w8 := hbA.grown HGR.out (Nat.le_trans (Nat.le_of_lt hltr2) hbA.size) (fun k hk => Nat.le_of_succ_le (own_geT HOW.out hk))
    have hA9 := At.set HA8.out 3 (.slice (some ⟨g2, 0, none⟩) (300 + 1) cap2) (by simp)
    have hO9 := (Onl.refl rb w8).set 3 (.slice (some ⟨g2, 0, none⟩) (300 + 1) cap2)
    have hkeep : ∀ b cs, At w2 b cs 3 → At w8 b cs 3 := fun b cs hb => At.grownT (At.drew (At.alloc hb (.cells #[.int .i64 x.x.op, txV x.x.name, .int .i64 x.x.n, .slice x.q x.x.ps.length x.c] 83))) HGR.out (fun e => by
      obtain ⟨cs', hc⟩ := row_typed HN2.out e
      exact absurd (at_type hc hb) (by decide))
    have hN8 : NRow c.F w8 (rb + 1) (.slice (some ⟨g2, 0, none⟩) (300 + 1) cap2) (X ++ [x]) := by
      refine ⟨?_, fun y hy => ?_⟩
      · have := HO3.out
        rw [List.length_append, HXL.out, List.flatMap_append]
        simpa [ndC] using this
      · rcases List.mem_append.1 hy with h1 | h1
        · exact (HN2.out.2 y h1).keep hkeep
        · rw [List.mem_singleton] at h1
          subst h1
          exact HX2.out.keep hkeep
    have hN9 := hN8.onlyP HA8.out hO9
    have hb9 := hb8.trans hO9.1
    have hTr : Trn rb g (some g2) w2 (w8.setCell ⟨rb, 3, none⟩ (.slice (some ⟨g2, 0, none⟩) (300 + 1) cap2)) := by
      have hsz8 := hb8.size
      refine ⟨hb9, fun b hb hr hgb => ?_, ?_⟩
      · rw [Below.heap_setCell _ _ _ _ hr]
        have h1 := HGR.out.block b (by show b < (w2.heap.push _).size; simp; omega) (fun e => hgb (by rw [← HG1.out]; exact e.symm))
        exact h1.trans (Below.heap_alloc w2 _ b hb)
      · rcases HAT.out with h1 | h1
        · exact Or.inl (by rw [← HG1.out, h1])
        · exact Or.inr ⟨g2, rfl, by omega⟩
    have FIN := Lib.hid (FINQ.out g2 cap2 _ hA9 hN9 hb9 (Trn.trans (Trn.of HO2.out) hTr))
    have c3f : (w8.setCell ⟨rb, 3, none⟩ (.slice (some ⟨g2, 0, none⟩) (300 + 1) cap2)).cell? ⟨rb, 3, none⟩ = some (.slice (some ⟨g2, 0, none⟩) (300 + 1) cap2) := hA9.cell 3 rfl
    clear hN9 hN8 hkeep hO9 hA9 hb8 hb9 hbA hTr c3 c3e f3e b0 b1 b2 b3 HA8 HO3 HGR HAT hi0 hz0 hz1 hz2
    have hw1 : IntKind.i64.wrap ((((300 : Nat) : Int) + 1) - 1) = ((300 : Nat) : Int) := by rw [IntKind.wrap_i64]; omega
    go_wp2_with fail
    go_ret
    exact FIN.out
theorem radd_any {c : Ctx} {fd : Value} {W : List (Tx × Nat)} {en rb B : Nat} {g : Option Nat} {s : RS} (x : NX) (w : World) (h : PdAt c fd W en w rb g B s) (hx : PsOK c.F w (rb + 1) x) (hg : s.bad = none) (hr : s.t.length ≤ s.k) : Calls Tryz.prog 33 #[.pointer (some ⟨rb, 0, none⟩), ndV x] w (RQ c fd W en rb g B (nodeR W x.x s) w) := by
  by_cases hf : s.t.length < 300
  · exact radd_ok x w h hx hg hf hr
  · exact radd_full x w h hx hg (by omega)
end Go.Proofs.YtkhklndmbfbnoaaGreatDoor
