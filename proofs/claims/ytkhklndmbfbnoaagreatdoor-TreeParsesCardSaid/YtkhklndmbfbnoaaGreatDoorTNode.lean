/- Package tree: a node is made; a reader is left. -/
import Derived.Test.YtkhklndmbfbnoaaGreatDoorTNeedW
import Derived.StillTailTactics
import Derived.Deep.AppendLies
import Derived.Deep.RegionHeld3
namespace Go.Proofs.YtkhklndmbfbnoaaGreatDoor
open Go.ChangeShapes Go.WideShapes Go.ChangeAt Go.RowKit Go.Joins Go.Deep
set_option linter.unusedVariables false

set_option maxRecDepth 100000 in
theorem tadd32 (rb off : Nat) (c : Int) (hc : 0 ≤ c ∧ c ≤ 2000) (w : World) (h4 : w.cell? ⟨rb, off, none⟩ = some (.int .i32 c)) (f4 : w.frozen? ⟨rb, off, none⟩ = false) :
    Calls Tryz.prog 42 #[.pointer (some ⟨rb, off, none⟩), .int .i32 1] w fun e w' => e = .returned (.int .i32 (c + 1)) ∧ w' = w.setCell ⟨rb, off, none⟩ (.int .i32 (c + 1)) := by
  have iw : IntKind.i32.wrap (c + 1) = c + 1 := by simp [IntKind.wrap, IntKind.bits, IntKind.signed]; omega
  have hadd := run_call_add (P := Tryz.prog) Tryz.func73 (by kernel_rfl) (by kernel_rfl) (by kernel_rfl) .i32 (by kernel_rfl) (y := 1) (s := c + 1) h4 f4 (by simp [go_sem, iw])
  go_enter Tryz.func42, Tryz.ntmps42
  go_wp2
  go_ret
  exact ⟨rfl, rfl⟩
theorem Tryz.infoNode : (Tryz.prog.info? 83).map (fun i => (i.zero, i.size, i.bytes)) = some (some (.agg #[.int .i64 0, .string ⟨#[]⟩, .int .i64 0, .slice none 0 0]), 4, 56) := by kernel_rfl
theorem PsOK.below {F : Nat → Prop} {w w' : World} {base : Nat} {x : NX} (h : PsOK F w base x) (hb : Below w.heap.size w w') : PsOK F w' base x := h.keep fun b cs hA => At.below' hb hA
theorem row_typed {F : Nat → Prop} {w : World} {base b : Nat} {nv : Value} {X : List NX} (h : NRow F w base nv X) (hb : nv.ownBlock = some b) : ∃ cs, At w b cs 83 := by
  obtain ⟨_, ⟨rfl, _⟩ | ⟨g, cap, cur, rfl, _, hg, _⟩⟩ := h.1
  · cases hb
  · simp only [Value.ownBlock, Option.some.injEq] at hb
    subst hb
    exact ⟨cur, hg⟩
set_option maxHeartbeats 1600000 in
theorem node_bad {w0 : Ctx} {fd : Value} {W : List (Tx × Nat)} {en rb : Nat} {g : Option Nat} {s : RS} (x : NX) (w : World) (h : RdAt w0 fd W en w rb g s) (hg : s.bad ≠ none) : Calls Tryz.prog 56 #[.pointer (some ⟨rb, 0, none⟩), ndV x] w (RP w0 fd W en rb g (nodeR W x.x s) w) := by
  rw [nodeR_bad _ hg]
  have hb1 := boxT w (.cells #[.int .i64 x.x.op, txV x.x.name, .int .i64 x.x.n, .slice x.q x.x.ps.length x.c] 83)
  have h1 := h.grow hb1
  have hO := Lib.hid (h.onl hb1)
  obtain ⟨md, nv, hA⟩ := h1.cells
  obtain ⟨⟨a0, e0⟩, hae⟩ : ∃ y, s.bad = some y := by
    cases hb : s.bad with
    | none => exact absurd hb hg
    | some y => exact ⟨y, rfl⟩
  rw [rdC_bad hae] at hA
  have he0 : e0 ≠ 0 := h.inv.2.2.2 _ _ hae
  have c10 : (w.alloc (.cells #[.int .i64 x.x.op, txV x.x.name, .int .i64 x.x.n, .slice x.q x.x.ps.length x.c] 83)).cell? ⟨rb, 10, none⟩ = some (.int .i64 e0) := hA.cell 10 rfl
  have t0 : (e0 != 0) = true := by rw [bne_iff_ne]; exact he0
  have H1 := Lib.hid h1
  unfold ndV
  clear h hb1 h1 hA hae he0 hg
  go_enter Tryz.func56, Tryz.ntmps56
  go_wp2_with fail
  go_ret
  exact ⟨g, rfl, H1.out, Trn.of hO.out⟩
set_option maxRecDepth 100000 in
set_option maxHeartbeats 3200000 in
theorem node_full {w0 : Ctx} {fd : Value} {W : List (Tx × Nat)} {en rb : Nat} {g : Option Nat} {s : RS} (x : NX) (w : World) (h : RdAt w0 fd W en w rb g s) (hg : s.bad = none) (hf : 300 ≤ s.t.length) : Calls Tryz.prog 56 #[.pointer (some ⟨rb, 0, none⟩), ndV x] w (RP w0 fd W en rb g (nodeR W x.x s) w) := by
  have hnr : nodeR W x.x s = (0, failR W (W.getD (s.k - 1) ([], 0)).2 2 s) := by unfold nodeR; rw [hg]; dsimp only; rw [if_pos hf]
  rw [hnr]
  have hb1 := boxT w (.cells #[.int .i64 x.x.op, txV x.x.name, .int .i64 x.x.n, .slice x.q x.x.ps.length x.c] 83)
  have h1 := h.grow hb1
  have hO := h.onl hb1
  have hti := h.inv.2.1 hg
  have hki := h.inv.1
  obtain ⟨⟨md, nv, X, hA, n1, n2, n3, n4, n5, n6⟩, ki, kb, kba, kt, kr, ksh, khe⟩ := h1
  have hmd := n6 hg
  have hmd3 : md = 300 := by omega
  obtain ⟨_, _, _, hWL, _⟩ := id kt
  subst hmd3
  have hA0 := hA
  rw [rdC_good hg] at hA
  have c10 : (w.alloc (.cells #[.int .i64 x.x.op, txV x.x.name, .int .i64 x.x.n, .slice x.q x.x.ps.length x.c] 83)).cell? ⟨rb, 10, none⟩ = some (.int .i64 0) := hA.cell 10 rfl
  have cAd := tadd32 rb 4 300 (by omega) (w.alloc (.cells #[.int .i64 x.x.op, txV x.x.name, .int .i64 x.x.n, .slice x.q x.x.ps.length x.c] 83)) (hA.cell 4 rfl) (At.free hA 4)
  have hA2 : At ((w.alloc (.cells #[.int .i64 x.x.op, txV x.x.name, .int .i64 x.x.n, .slice x.q x.x.ps.length x.c] 83)).setCell ⟨rb, 4, none⟩ (.int .i32 (300 + 1))) rb (rdC fd en s 301 nv) 77 := by rw [rdC_good hg]; exact At.set hA 4 _ (by simp [rdF])
  have hO12 := (Onl.refl rb (w.alloc (.cells #[.int .i64 x.x.op, txV x.x.name, .int .i64 x.x.n, .slice x.q x.x.ps.length x.c] 83))).set 4 (.int .i32 (300 + 1))
  have hO2 := hO.set 4 (.int .i32 (300 + 1))
  have kb2 := kb.trans (hO12.1.mono kba)
  have n22 := n2.only hA0 hO12
  obtain ⟨G, cap, hfd, hat⟩ : ∃ G cap, fd = .slice (some ⟨G, 0, none⟩) W.length cap ∧ ((w.alloc (.cells #[.int .i64 x.x.op, txV x.x.name, .int .i64 x.x.n, .slice x.q x.x.ps.length x.c] 83)).setCell ⟨rb, 4, none⟩ (.int .i32 (300 + 1))).cell? ⟨G, (s.k - 1) * 2 + 1, none⟩ = some (.int .i64 ((W.getD (s.k - 1) ([], 0)).2 : Nat)) := by
    obtain ⟨q, cap, hfd, hWl, hT⟩ := id kt
    obtain ⟨G, rfl, hG, _, hc⟩ := hT (by omega)
    exact ⟨G, cap, hfd, (kb2.cell (p := ⟨G, (s.k - 1) * 2 + 1, none⟩) hG).trans (hc (s.k - 1) (by omega)).2⟩
  have cF := fail_from (W.getD (s.k - 1) ([], 0)).2 2 (by decide) (((w.alloc (.cells #[.int .i64 x.x.op, txV x.x.name, .int .i64 x.x.n, .slice x.q x.x.ps.length x.c] 83)).setCell ⟨rb, 4, none⟩ (.int .i32 (300 + 1))).drew) (At.drew hA2) n1 n22 n3 (by omega) ki kb2.drew kba kt kr ksh (fun b h => Nat.lt_of_lt_of_le (khe b h) hO12.1.size) hg
  have c0 : ((w.alloc (.cells #[.int .i64 x.x.op, txV x.x.name, .int .i64 x.x.n, .slice x.q x.x.ps.length x.c] 83)).setCell ⟨rb, 4, none⟩ (.int .i32 (300 + 1))).cell? ⟨rb, 0, none⟩ = some (.slice (some ⟨G, 0, none⟩) W.length cap) := by rw [← hfd]; exact hA2.cell 0 rfl
  have c2 : ((w.alloc (.cells #[.int .i64 x.x.op, txV x.x.name, .int .i64 x.x.n, .slice x.q x.x.ps.length x.c] 83)).setCell ⟨rb, 4, none⟩ (.int .i32 (300 + 1))).cell? ⟨rb, 2, none⟩ = some (.int .i64 (s.k : Nat)) := hA2.cell 2 rfl
  have HO2 := Lib.hid hO2.drew
  obtain ⟨k1, hk1⟩ : ∃ k1, k1 = s.k - 1 := ⟨_, rfl⟩
  rw [← hk1] at hat cF ⊢
  have e1 : IntKind.i64.wrap ((s.k : Int) - 1) = (k1 : Int) := by rw [IntKind.wrap_i64]; omega
  have g1 : (k1 : Int) < (W.length : Int) := by omega
  unfold ndV
  generalize hw2 : (w.alloc (.cells #[.int .i64 x.x.op, txV x.x.name, .int .i64 x.x.n, .slice x.q x.x.ps.length x.c] 83)).setCell ⟨rb, 4, none⟩ (.int .i32 (300 + 1)) = w2 at *
  have HW2 := Lib.hid hw2
  unfold NP at cF
  generalize (W.getD k1 ([], 0)).2 = av at *
  generalize hK : s.k = k at *
  clear h hb1 hO hO2 hA hA0 hA2 hO12 kb2 n22 n2 hw2 hti hki hmd n6 hf hk1 hnr hg hK
  go_enter Tryz.func56, Tryz.ntmps56
  go_wp2_with fail
  refine cAd.mono ?_
  rintro e w3 ⟨rfl, rfl⟩
  go_wp2_with fail
  go_still_tail 13, (by kernel_rfl)
  change wpList _ _ _ _ _ w3.drew
  go_wp2_with fail
  refine cF.mono ?_
  rintro e w4 ⟨rfl, h4, hO4⟩
  go_wp2_with fail
  go_ret
  exact ⟨g, rfl, h4, Trn.of (HO2.out.trans hO4)⟩
theorem at_type {w : World} {b : Nat} {cs cs' : Array Value} {t t' : TypeId} (h : At w b cs t) (h' : At w b cs' t') : t = t' := by
  have h1 := Option.some.inj (h.symm.trans h')
  simp only [Obj.cells.injEq] at h1
  exact h1.2.1
set_option maxRecDepth 100000 in
set_option maxHeartbeats 3200000 in
theorem node_ok {w0 : Ctx} {fd : Value} {W : List (Tx × Nat)} {en rb : Nat} {g : Option Nat} {s : RS} (x : NX) (w : World) (h : RdAt w0 fd W en w rb g s) (hx : PsOK w0.F w (rb + 1) x) (hg : s.bad = none) (hf : s.t.length < 300) (hr : s.t.length ≤ s.k) : Calls Tryz.prog 56 #[.pointer (some ⟨rb, 0, none⟩), ndV x] w (RP w0 fd W en rb g (nodeR W x.x s) w) := by
  have hnr : nodeR W x.x s = ((s.t.length : Int), ⟨s.k, s.ar, s.t ++ [x.x], s.bad⟩) := by unfold nodeR; rw [hg]; dsimp only; rw [if_neg (by omega)]
  have hInv := Inv.node (x := x.x) h.inv (fun _ => hr)
  rw [hnr] at hInv ⊢
  have hb1 := boxT w (.cells #[.int .i64 x.x.op, txV x.x.name, .int .i64 x.x.n, .slice x.q x.x.ps.length x.c] 83)
  have h1 := h.grow hb1
  have hO := h.onl hb1
  have hx1 := hx.below hb1
  have hBox := At.new w #[.int .i64 x.x.op, txV x.x.name, .int .i64 x.x.n, .slice x.q x.x.ps.length x.c] 83
  have hltr := h.lt
  obtain ⟨⟨md, nv, X, hA, n1, n2, n3, n4, n5, n6⟩, ki, kb, kba, kt, kr, ksh, khe⟩ := h1
  obtain rfl := n6 hg
  have hXl : X.length = s.t.length := by rw [← n3, List.length_map]
  have hA0 := hA
  rw [rdC_good hg] at hA
  have c10 : (w.alloc (.cells #[.int .i64 x.x.op, txV x.x.name, .int .i64 x.x.n, .slice x.q x.x.ps.length x.c] 83)).cell? ⟨rb, 10, none⟩ = some (.int .i64 0) := hA.cell 10 rfl
  have cAd := tadd32 rb 4 (s.t.length : Nat) (by omega) (w.alloc (.cells #[.int .i64 x.x.op, txV x.x.name, .int .i64 x.x.n, .slice x.q x.x.ps.length x.c] 83)) (hA.cell 4 rfl) (At.free hA 4)
  have hA2 : At ((w.alloc (.cells #[.int .i64 x.x.op, txV x.x.name, .int .i64 x.x.n, .slice x.q x.x.ps.length x.c] 83)).setCell ⟨rb, 4, none⟩ (.int .i32 ((s.t.length : Nat) + 1))) rb (rdC fd en s ((s.t.length : Nat) + 1) nv) 77 := by rw [rdC_good hg]; exact At.set hA 4 _ (by simp [rdF])
  have hO12 := (Onl.refl rb (w.alloc (.cells #[.int .i64 x.x.op, txV x.x.name, .int .i64 x.x.n, .slice x.q x.x.ps.length x.c] 83))).set 4 (.int .i32 ((s.t.length : Nat) + 1))
  have hO2 := hO.set 4 (.int .i32 ((s.t.length : Nat) + 1))
  have kb2 := kb.trans (hO12.1.mono kba)
  have khe2 := fun b h => Nat.lt_of_lt_of_le (khe b h) hO12.1.size
  clear khe
  have n22 := n2.only hA0 hO12
  have hBox2 := hO12.at hBox (show w.heap.size ≠ rb by omega)
  have hx2 := hx1.keep fun b cs hb => hO12.at hb (at_other hb hA (by decide))
  generalize hw2 : (w.alloc (.cells #[.int .i64 x.x.op, txV x.x.name, .int .i64 x.x.n, .slice x.q x.x.ps.length x.c] 83)).setCell ⟨rb, 4, none⟩ (.int .i32 ((s.t.length : Nat) + 1)) = w2 at *
  have HW2 := Lib.hid hw2
  generalize hm : s.t.length = m at *
  obtain ⟨q, cc, rfl⟩ : ∃ q cc, nv = .slice q m cc := by
    rcases n22.1.2 with ⟨rfl, h0⟩ | ⟨gg, cap, cur, rfl, _⟩
    · exact ⟨none, 0, by rw [← hXl, h0]⟩
    · exact ⟨_, cap, by rw [← hXl]⟩
  have b0 := hBox2.cell 0 rfl
  have b1 := hBox2.cell 1 rfl
  have b2 := hBox2.cell 2 rfl
  have b3 := hBox2.cell 3 rfl
  have c5 : w2.cell? ⟨rb, 5, none⟩ = some (.slice q m cc) := hA2.cell 5 rfl
  have hown := (n22.1.alloc (.cells #[.int .i64 x.x.op, txV x.x.name, .int .i64 x.x.n, .slice x.q x.x.ps.length x.c] 83)).drew
  rw [hXl] at hown
  obtain ⟨i0, hi0, hz0, hz1, hz2⟩ := info_parts Tryz.infoNode
  have hm1 : m + 1 ≤ maxLen := by unfold maxLen; omega
  have hm2 : (m + 1) * 56 ≤ 140737488355328 := by omega
  have hm3 : m < 300 := by omega
  have hNR : (Value.slice q m cc).ownBlock ≠ some rb := fun e => by
    obtain ⟨cs, hc⟩ := row_typed n22 e
    exact absurd (at_type hc hA2) (by decide)
  have HA2 := Lib.hid hA2
  have HN2 := Lib.hid n22
  have HX2 := Lib.hid hx2
  have HO2 := Lib.hid hO2
  have HKB := Lib.hid kb2
  have HN3 := Lib.hid n3
  have HXL := Lib.hid hXl
  have HM := Lib.hid hm
  have HINV := Lib.hid hInv
  have HG := Lib.hid hg
  have HOW := Lib.hid hown
  have hltr2 : rb < w2.heap.size := hA2.lt
  clear h hb1 hO hO2 hA hA0 hA2 hO12 kb2 n22 n2 hw2 hx hx1 hx2 hBox hBox2 hInv n3 hXl n6 hf hnr hg ki hr hown kb hm
  unfold ndV
  go_enter Tryz.func56, Tryz.ntmps56
  go_wp2_with fail
  refine cAd.mono ?_
  rintro e w3 ⟨rfl, rfl⟩
  clear cAd c10
  have t301 : ((m : Int) + 1 ≤ 300) := by omega
  go_wp2_with fail
  have c5d : w3.drew.cell? ⟨rb, 5, none⟩ = some (.slice q m cc) := c5
  go_region_law
    ((refine step_append_lies _ (by rfl) _ _ _ (by rfl) (rb + 1) 83 i0 _ 4 56 Tryz.underlying36 hi0 hz0 hz1 hz2 rfl (by omega) (.slice q m cc) m (X.flatMap ndC) (by rfl) HOW.out ⟨w3.heap.size, 0, none⟩ 1 1 [.int .i64 x.x.op, txV x.x.name, .int .i64 x.x.n, .slice x.q x.x.ps.length x.c] (by rfl) (by rfl) (World.news_of_block (cs := #[.int .i64 x.x.op, txV x.x.name, .int .i64 x.x.n, .slice x.q x.x.ps.length x.c]) (t := 83) (fr := (0, 0)) (heap_alloc_new w3 _)) (by simp [Value.oneCell', txV]) (by omega) hm1 hm2 (by simp; omega) (w3.heap.size + 1) (by simp) ?_; intro g2 cap2 w8 hown3 hgrow hat hlt3
      have hA8 := At.grownT (At.drew (At.alloc HA2.out (.cells #[.int .i64 x.x.op, txV x.x.name, .int .i64 x.x.n, .slice x.q x.x.ps.length x.c] 83))) hgrow hNR
      have c5e : w8.cell? ⟨rb, 5, none⟩ = some (.slice q m cc) := hA8.cell 5 rfl
      have f5e : w8.frozen? ⟨rb, 5, none⟩ = false := At.free hA8 5
      have HA8 := Lib.hid hA8
      have HO3 := Lib.hid hown3
      have HGR := Lib.hid hgrow
      have HAT := Lib.hid hat
      clear hA8 hown3 hgrow hat))
  all_goals
    have hbA := ((Below.refl rb w3).alloc (Nat.le_of_lt hltr2) (.cells #[.int .i64 x.x.op, txV x.x.name, .int .i64 x.x.n, .slice x.q x.x.ps.length x.c] 83)).drew
    have hb8 : Below rb w3 w8 := hbA.grown HGR.out (Nat.le_trans (Nat.le_of_lt hltr2) hbA.size) (fun k hk => Nat.le_of_succ_le (own_geT HOW.out hk))
    have hA9 := At.set HA8.out 5 (.slice (some ⟨g2, 0, none⟩) (m + 1) cap2) (by simp [rdC])
    have hO9 := (Onl.refl rb w8).set 5 (.slice (some ⟨g2, 0, none⟩) (m + 1) cap2)
    have hkeep : ∀ b cs, At w3 b cs 3 → At w8 b cs 3 := fun b cs hb => At.grownT (At.drew (At.alloc hb (.cells #[.int .i64 x.x.op, txV x.x.name, .int .i64 x.x.n, .slice x.q x.x.ps.length x.c] 83))) HGR.out (fun e => by
      obtain ⟨cs', hc⟩ := row_typed HN2.out e
      exact absurd (at_type hc hb) (by decide))
    have hN8 : NRow w0.F w8 (rb + 1) (.slice (some ⟨g2, 0, none⟩) (m + 1) cap2) (X ++ [x]) := by
      refine ⟨?_, fun y hy => ?_⟩
      · have := HO3.out
        rw [List.length_append, HXL.out, List.flatMap_append]
        simpa [ndC] using this
      · rcases List.mem_append.1 hy with h1 | h1
        · exact (HN2.out.2 y h1).keep hkeep
        · rw [List.mem_singleton] at h1
          subst h1
          exact HX2.out.keep hkeep
    have hN9 := hN8.only HA8.out hO9
    have hb9 := hb8.trans hO9.1
    have hsz8 := hb8.size
    have hTr : Trn rb g (some g2) w3 (w8.setCell ⟨rb, 5, none⟩ (.slice (some ⟨g2, 0, none⟩) (m + 1) cap2)) := by
      refine ⟨hb9, fun b hb hr hgb => ?_, ?_⟩
      · rw [Below.heap_setCell _ _ _ _ hr]
        have h1 := HGR.out.block b (by show b < (w3.heap.push _).size; simp; omega) (fun e => hgb (by rw [← n1]; exact e.symm))
        exact h1.trans (Below.heap_alloc w3 _ b hb)
      · rcases HAT.out with h1 | h1
        · exact Or.inl (by rw [← n1, h1])
        · exact Or.inr ⟨g2, rfl, by omega⟩
    have fin : RP w0 fd W en rb g ((m : Int), ⟨s.k, s.ar, s.t ++ [x.x], s.bad⟩) w (.returned (.int .i64 (m : Nat))) (w8.setCell ⟨rb, 5, none⟩ (.slice (some ⟨g2, 0, none⟩) (m + 1) cap2)) :=
      ⟨some g2, rfl, ⟨⟨(m : Int) + 1, _, X ++ [x], hA9, rfl, hN9, by rw [List.map_append, HN3.out]; rfl, by omega, by omega, fun _ => by rw [List.length_append, HM.out]; rfl⟩, HINV.out, HKB.out.trans (hb9.mono kba), kba, kt, kr, ksh, fun b h => Nat.lt_of_lt_of_le (khe2 b h) hb9.size⟩, (Trn.of HO2.out).trans hTr⟩
    have FIN := Lib.hid fin
    have c5f := hA9.cell 5 rfl
    clear fin hTr hN9 hN8 hkeep hO9 hA9 hb8 hb9 hbA hsz8 c5 c5d c5e f5e b0 b1 b2 b3 HA8 HO3 HGR HAT hi0 hz0 hz1 hz2
    go_wp2_with fail
    go_ret
    exact FIN.out
theorem node_any {w0 : Ctx} {fd : Value} {W : List (Tx × Nat)} {en rb : Nat} {g : Option Nat} {s : RS} (x : NX) (w : World) (h : RdAt w0 fd W en w rb g s) (hx : PsOK w0.F w (rb + 1) x) (hr : s.bad = none → s.t.length ≤ s.k) : Calls Tryz.prog 56 #[.pointer (some ⟨rb, 0, none⟩), ndV x] w (RP w0 fd W en rb g (nodeR W x.x s) w) := by
  by_cases hg : s.bad = none
  · by_cases hf : s.t.length < 300
    · exact node_ok x w h hx hg hf (hr hg)
    · exact node_full x w h hg (by omega)
  · exact node_bad x w h hg
set_option maxHeartbeats 800000 in
theorem leave_deferred {w0 : Ctx} {fd : Value} {W : List (Tx × Nat)} {en rb : Nat} {g : Option Nat} {s : RS} (h1 : 1 ≤ s.ar) (u : FrameMode) (w : World) (h : RdAt w0 fd W en w rb g s) : CallsD Tryz.prog 81 #[.pointer (some ⟨rb, 0, none⟩)] u w fun e u' w' => u' = u ∧ NP w0 fd W en rb g (.tuple #[]) (leaveR s) w e w' := by
  obtain ⟨md, nv, hA⟩ := h.cells
  have c3 : w.cell? ⟨rb, 3, none⟩ = some (.int .i64 (s.ar : Nat)) := hA.cell 3 rfl
  have f3 := At.free hA 3
  have hr := h.room
  have fin : RdAt w0 fd W en (w.setCell ⟨rb, 3, none⟩ (.int .i64 ((s.ar - 1 : Nat) : Int))) rb g (leaveR s) := h.next h.inv rfl (fun h => h) (by show s.ar - 1 ≤ 30; omega) ((Onl.refl rb w).set 3 _) (fun md nv hA => At.set hA 3 (.int .i64 (((s.ar - 1 : Nat)) : Int)) (by simp [rdC]))
  have e1 : ((s.ar - 1 : Nat) : Int) = (s.ar : Int) - 1 := by omega
  rw [e1] at fin
  have FIN := Lib.hid fin
  have HO := Lib.hid ((Onl.refl rb w).set 3 (.int .i64 ((s.ar : Int) - 1)))
  clear fin hA h e1
  generalize s.ar = k at *
  go_enter_d Tryz.func81, Tryz.ntmps81
  go_wp2
  go_end0
  exact ⟨rfl, FIN.out, HO.out⟩
end Go.Proofs.YtkhklndmbfbnoaaGreatDoor
