/- The document's Store, where something goes wrong. -/
import Derived.Test.YtnhbaigagphpmaaKRReach
import Derived.Test.YtnhbaigagphpmaaKSpoil
import Derived.Test.YtnhbaigagphpmaaKDat
import Derived.StillTailTactics
namespace Go.Proofs.Ytnhbaigagphpmaa
open Go.ChangeShapes Go.WideShapes Go.ChangeAt Go.RowKit Go.Joins Go.Deep
set_option linter.unusedVariables false

def RStorePost (D : List (Int × List BY)) (bad : Int) (len : Nat) (w : World) (e : Ending) (w' : World) : Prop :=
  ∃ q cap x, e = .returned (.tuple #[.slice q len cap, .int .i64 bad]) ∧ IsMem w' q len x ∧ datM x = D ∧ Below w.heap.size w w'
set_option maxRecDepth 100000 in
set_option maxHeartbeats 3200000 in
theorem rStore_bad (big : Bool) (pp k : Int) (q : Option Addr) (len cap : Nat) (m : List BK) (p s : SC) (hp : mayA pp) (hk : 1 ≤ k ∧ k ≤ 7) (hH : hasM m p = true) (v : Int) (hR : reachM m p (sizN pp k) = v) (hv : v ≠ 0) (w : World) (hx : IsMem w q len m) :
    Calls Try.prog 25 #[.agg #[.bool big, .int .i64 pp], .slice q len cap, scV p, .int .i64 k, scV s] w (RStorePost (datM m) v len w) := by
  have cR := fun w hx => rReach_any big pp k hp hk q len cap m p (InM.of hH) (InM.off hH) w hx
  rw [hR] at cR
  clear hH hR hp hk
  obtain ⟨p0, p1, p2, p3⟩ := p
  obtain ⟨q0, q1, q2, q3⟩ := s
  rw [scV_eq, scV_eq] at *
  try dsimp only at *
  have dA := At.alloc (At.alloc (At.new w #[.bool big, .int .i64 pp] 38) (.cells #[.bool p0, .int .i64 p1, .int .i64 p2, .int .i64 p3] 33)) (.cells #[.bool q0, .int .i64 q1, .int .i64 q2, .int .i64 q3] 33)
  have dP := At.alloc (At.new2 w (.cells #[.bool big, .int .i64 pp] 38) #[.bool p0, .int .i64 p1, .int .i64 p2, .int .i64 p3] 33) (.cells #[.bool q0, .int .i64 q1, .int .i64 q2, .int .i64 q3] 33)
  have hb0 := below_box3 w (.cells #[.bool big, .int .i64 pp] 38) (.cells #[.bool p0, .int .i64 p1, .int .i64 p2, .int .i64 p3] 33) (.cells #[.bool q0, .int .i64 q1, .int .i64 q2, .int .i64 q3] 33)
  have cRR := cR _ (hx.below hb0)
  have HX := Lib.hid hx
  clear hx cR
  have tv : (v == 0) = false := by rw [beq_eq_false_iff_ne]; exact hv
  have tv2 : (v != 0) = true := by rw [bne_iff_ne]; exact hv
  clear hv
  go_enter Try.func25, Try.ntmps25
  go_wp2_with fail
  refine cRR.mono ?_
  rintro e w4 ⟨rfl, hb2⟩
  replace hb0 := hb0.trans (hb2.mono hb0.size)
  clear hb2 cRR dA dP
  go_wp2_with fail
  refine (copyBlocks_any q len cap m w4 (HX.out.below hb0)).mono ?_
  rintro e w5 ⟨qx, cx, x, rfl, hxm, hdat, _, hb2⟩
  have fin : RStorePost (datM m) v len w (.returned (.tuple #[.slice qx len cx, .int .i64 v])) w5 := ⟨qx, cx, x, rfl, hxm, hdat, hb0.trans (hb2.mono hb0.size)⟩
  clear hxm hdat hb0 hb2
  go_wp2_with fail
  go_ret2
  exact fin
end Go.Proofs.Ytnhbaigagphpmaa

/- The document's Store, where nothing goes wrong, and whole. -/
namespace Go.Proofs.Ytnhbaigagphpmaa
open Go.ChangeShapes Go.WideShapes Go.ChangeAt Go.RowKit Go.Joins Go.Deep
set_option linter.unusedVariables false

theorem ext_getD {a b : List BY} (hl : a.length = b.length) (h : ∀ i, i < a.length → a.getD i default = b.getD i default) : a = b := by
  refine List.ext_getElem hl fun i h1 h2 => ?_
  have := h i h1
  simpa [List.getD, h1, h2] using this
theorem putAt_0 (ys xs : List BY) (o : Nat) : putAt ys o (xs.take 0) = ys := by simp [putAt]
theorem putAt_step {ys xs : List BY} {o j : Nat} (h : o + xs.length ≤ ys.length) (hj : j < xs.length) : (putAt ys o (xs.take j)).set (o + j) (xs.getD j default) = putAt ys o (xs.take (j + 1)) := by
  have l1 : (xs.take j).length = j := by rw [List.length_take]; omega
  have l2 : (xs.take (j + 1)).length = j + 1 := by rw [List.length_take]; omega
  have m1 := putAt_len (ys := ys) (xs := xs.take j) (o := o) (by omega)
  have m2 := putAt_len (ys := ys) (xs := xs.take (j + 1)) (o := o) (by omega)
  refine ext_getD (by rw [List.length_set, m1, m2]) fun i hi => ?_
  rw [List.length_set, m1] at hi
  rw [putAt_get (by omega), l2]
  by_cases e : i = o + j
  · subst e
    rw [if_pos (by omega)]
    simp [List.getD, hi, m1]
  · have : ((putAt ys o (xs.take j)).set (o + j) (xs.getD j default)).getD i default = (putAt ys o (xs.take j)).getD i default := by
      simp only [List.getD_eq_getElem?_getD]
      rw [List.getElem?_set_ne (by omega)]
    rw [this, putAt_get (by omega), l1]
    by_cases e2 : o ≤ i ∧ i < o + j
    · rw [if_pos e2, if_pos (by omega)]
      simp only [List.getD_eq_getElem?_getD, List.getElem?_take]
      rw [if_pos (by omega), if_pos (by omega)]
    · rw [if_neg e2, if_neg (by omega)]
theorem at_ne {w : World} {B g : Nat} {cs cs' : Array Value} {t t' : TypeId} (h : At w B cs t) (h' : At w g cs' t') (ht : t ≠ t') : B ≠ g := by
  rintro rfl
  have h1 := Option.some.inj (h.symm.trans h')
  simp only [Obj.cells.injEq] at h1
  exact ht h1.2.1
/-- one block's bytes written over: it is memory still -/
theorem splice_isMem {w w' : World} {base B j g : Nat} {x : List BK} {ys : List BY} (hB : B ≠ g) (hK : KRow w B x) (hO : Owned w base x.length x) (hle : ∀ i, i < x.length → (x.getD i default).ys.length ≤ 1000) (hlen : x.length ≤ 1000) (hj : j < x.length) (hne : 0 < (x.getD j default).ys.length) (hg : (x.getD j default).q = some ⟨g, 0, none⟩) (hl : ys.length = (x.getD j default).ys.length) (hr : BRow w' g ys) (hOn : Only g w w') :
    IsMem w' (some ⟨B, 0, none⟩) x.length (x.set j ⟨(x.getD j default).st, (x.getD j default).q, (x.getD j default).c, ys⟩) := by
  have hK' : KRow w' B x := by
    obtain ⟨cs, h1, h2⟩ := hK
    exact ⟨cs, hOn.at h1 hB, h2⟩
  refine ⟨hlen, by simp, fun _ => ⟨B, 0, rfl, hK'.lt, fun i hi => ?_⟩⟩
  have hc := hK'.cells i hi
  have ho := hO.1 i hi
  rw [Nat.zero_add]
  by_cases e : i = j
  · subst e
    rw [set_self hj]
    refine ⟨hc.1, by dsimp only; rw [hl]; exact hc.2, ?_, by dsimp only; rw [hl]; exact ho.1, ho.2.1⟩
    dsimp only
    rw [hg]
    exact hr.isBys rfl (by rw [hl]; exact hle i hi)
  · rw [set_other e]
    refine ⟨hc.1, hc.2, ?_, ho.1, ho.2.1⟩
    rcases Nat.eq_zero_or_pos (x.getD i default).ys.length with h0 | h0
    · exact ⟨hle i hi, rfl, fun h => by omega⟩
    · obtain ⟨g', hg', hge, hr'⟩ := ho.2.2 h0
      have hne2 : g' ≠ g := by
        rcases Nat.lt_or_ge i j with hlt | hge2
        · have := hO.2 i j hlt hj h0 hne
          rw [hg, hg'] at this
          simp only [blkQ] at this
          omega
        · have := hO.2 j i (by omega) hi hne h0
          rw [hg, hg'] at this
          simp only [blkQ] at this
          omega
      obtain ⟨cs, hA, hR⟩ := hr'
      have hr2 : BRow w' g' (x.getD i default).ys := ⟨cs, hOn.at hA hne2, hR⟩
      rw [hg']
      exact hr2.isBys rfl (hle i hi)
def RelRs (n o g : Nat) (ys0 xs : List BY) (w0 : World) (v : Value) (wr : World) : Prop := ∃ j : Nat, j ≤ n ∧ v = .int .i64 (j : Nat) ∧ BRow wr g (putAt ys0 o (xs.take j)) ∧ Only g w0 wr
set_option maxRecDepth 100000 in
set_option maxHeartbeats 3200000 in
theorem rStore_ok (big : Bool) (pp k : Int) (q : Option Addr) (len cap : Nat) (m : List BK) (p s : SC) (hp : mayA pp) (hs : mayS k s = true) (hH : hasM m p = true) (hR : reachM m p (sizN pp k) = 0) (D : List (Int × List BY)) (hD : datM (stoM m p (putL big (sizN pp k) s)) = D) (w : World) (hx : IsMem w q len m) :
    Calls Try.prog 25 #[.agg #[.bool big, .int .i64 pp], .slice q len cap, scV p, .int .i64 k, scV s] w (RStorePost D 0 len w) := by
  have hkk := mayS_kind hs
  have cR := fun w hx => rReach_any big pp k hp hkk q len cap m p (InM.of hH) (InM.off hH) w hx
  rw [hR] at cR
  have cPut := fun w => rPut_any big pp k hp s hs w
  have hn := siz_cases hp hkk
  have hMM : mayM m = true := by unfold hasM at hH; simp only [Bool.and_eq_true] at hH; exact hH.1
  have hlen1 := hx.1
  have hle : ∀ i, i < len → (m.getD i default).ys.length ≤ 1000 := fun i hi => by
    have := (mayK_len (mayM_at hMM i (by rw [hx.2.1]; exact hi))).1
    omega
  have hlen0 : 0 < len := by have := (mayM_len hMM).1; have := hx.2.1; omega
  have hpl := putL_len big (sizN pp k) s
  have hr := reach_0 hR
  have ho := InM.off hH
  obtain ⟨j, hj, hjl⟩ := InM.of hH
  have hmlen := hx.2.1
  have hjl2 : j < len := by rw [← hx.2.1]; exact hjl
  obtain ⟨o, hoo⟩ : ∃ o : Nat, p.o = (o : Nat) := ⟨p.o.toNat, by omega⟩
  unfold stoM at hD
  rw [atM_eq hj] at hr hD
  rw [hoo, hj, Int.toNat_natCast, Int.toNat_natCast] at hD
  rw [hoo] at hr
  generalize putL big (sizN pp k) s = xs at *
  generalize sizN pp k = n at *
  have hn4 : n ≤ 4 := by omega
  have hn1 : 1 ≤ n := by omega
  have hr2 : o + n ≤ (m.getD j default).ys.length := by have := hr.2.1; omega
  have HLE := Lib.hid hle
  have HRR := Lib.hid hr2
  have HDD := Lib.hid hD
  have HPL := Lib.hid hpl
  have HML := Lib.hid hmlen
  have HCR := Lib.hid cR
  have hjl3 : (j : Int) < (len : Int) := by omega
  have ho0 : (0 : Int) ≤ (o : Int) := by omega
  have HX := Lib.hid hx
  clear hp hs hn hpl hkk hMM hr ho hr2 hD hmlen hjl hx hR hH hle cR
  obtain ⟨p0, p1, p2, p3⟩ := p
  obtain ⟨s0, s1, s2, s3⟩ := s
  try dsimp only at hj hoo
  subst hj hoo
  unfold RowPost at cPut
  simp only [scV_eq] at *
  try dsimp only at *
  have dA := At.alloc (At.alloc (At.new w #[.bool big, .int .i64 pp] 38) (.cells #[.bool p0, .int .i64 p1, .int .i64 (j : Nat), .int .i64 (o : Nat)] 33)) (.cells #[.bool s0, .int .i64 s1, .int .i64 s2, .int .i64 s3] 33)
  have dP := At.alloc (At.new2 w (.cells #[.bool big, .int .i64 pp] 38) #[.bool p0, .int .i64 p1, .int .i64 (j : Nat), .int .i64 (o : Nat)] 33) (.cells #[.bool s0, .int .i64 s1, .int .i64 s2, .int .i64 s3] 33)
  have dS := At.new3 w (.cells #[.bool big, .int .i64 pp] 38) (.cells #[.bool p0, .int .i64 p1, .int .i64 (j : Nat), .int .i64 (o : Nat)] 33) #[.bool s0, .int .i64 s1, .int .i64 s2, .int .i64 s3] 33
  have hb0 := below_box3 w (.cells #[.bool big, .int .i64 pp] 38) (.cells #[.bool p0, .int .i64 p1, .int .i64 (j : Nat), .int .i64 (o : Nat)] 33) (.cells #[.bool s0, .int .i64 s1, .int .i64 s2, .int .i64 s3] 33)
  have hsz : w.heap.size + 2 < (((w.alloc (.cells #[.bool big, .int .i64 pp] 38)).alloc (.cells #[.bool p0, .int .i64 p1, .int .i64 (j : Nat), .int .i64 (o : Nat)] 33)).alloc (.cells #[.bool s0, .int .i64 s1, .int .i64 s2, .int .i64 s3] 33)).heap.size := by simp
  have cRR := HCR.out _ (HX.out.below hb0)
  clear HCR
  generalize hW3 : ((w.alloc (.cells #[.bool big, .int .i64 pp] 38)).alloc (.cells #[.bool p0, .int .i64 p1, .int .i64 (j : Nat), .int .i64 (o : Nat)] 33)).alloc (.cells #[.bool s0, .int .i64 s1, .int .i64 s2, .int .i64 s3] 33) = W3 at *
  have HW3 := Lib.hid hW3
  clear hW3
  go_enter Try.func25, Try.ntmps25
  go_upto_region 1 with (fail)
  rw [HW3.out]
  have a0 := dA.cell 0 rfl
  have a1 := dA.cell 1 rfl
  have x0 := dP.cell 0 rfl
  have x1 := dP.cell 1 rfl
  have x2 := dP.cell 2 rfl
  have x3 := dP.cell 3 rfl
  go_wp2_with fail
  refine cRR.mono ?_
  rintro e w4 ⟨rfl, hb2⟩
  replace dA := At.below' hb2 dA
  replace dP := At.below' hb2 dP
  replace dS := At.below' hb2 dS
  replace hb0 := hb0.trans (hb2.mono hb0.size)
  have hsz4 := hb2.size
  clear hb2 cRR a0 a1 x0 x1 x2 x3
  go_wp2_with fail
  refine (copyBlocks_own q len cap m w4 (HX.out.below hb0)).mono ?_
  rintro e w5 ⟨qx, cx, x, rfl, hxm, hdat, hcx, hOw, hk, hb2⟩
  obtain ⟨B, rfl, hBge, hKR⟩ : ∃ B, qx = some ⟨B, 0, none⟩ ∧ w4.heap.size ≤ B ∧ KRow w5 B x := by
    rcases hk with h | h
    · omega
    · exact h
  have hxl := hxm.2.1
  replace dA := At.below' hb2 dA
  replace dP := At.below' hb2 dP
  replace dS := At.below' hb2 dS
  replace hb0 := hb0.trans (hb2.mono hb0.size)
  clear hb2 hk hxm
  have a0 : w5.cell? ⟨w.heap.size, 0, none⟩ = some (.bool big) := dA.cell 0 rfl
  have a1 : w5.cell? ⟨w.heap.size, 1, none⟩ = some (.int .i64 pp) := dA.cell 1 rfl
  have z0 : w5.cell? ⟨w.heap.size + 2, 0, none⟩ = some (.bool s0) := dS.cell 0 rfl
  have z1 : w5.cell? ⟨w.heap.size + 2, 1, none⟩ = some (.int .i64 s1) := dS.cell 1 rfl
  have z2 : w5.cell? ⟨w.heap.size + 2, 2, none⟩ = some (.int .i64 s2) := dS.cell 2 rfl
  have z3 : w5.cell? ⟨w.heap.size + 2, 3, none⟩ = some (.int .i64 s3) := dS.cell 3 rfl
  have HXL := Lib.hid hxl
  clear hxl
  go_wp2_with fail
  refine (cPut w5).mono ?_
  rintro e w6 ⟨PB, rfl, hPB, dPB, hb2⟩
  replace dP := At.below' hb2 dP
  have hOw6 : Owned w6 w4.heap.size x.length x := ⟨fun i hi => (hOw.1 i (by rw [← HXL.out]; exact hi)).below hb2 fun h0 => ((hOw.1 i (by rw [← HXL.out]; exact hi)).lt h0).1, fun i k a b c d => hOw.2 i k a (by rw [← HXL.out]; exact b) c d⟩
  have hKR6 := hKR.below hb2 hKR.lt
  replace hb0 := hb0.trans (hb2.mono hb0.size)
  have hdj := datM_get hdat j (by rw [HML.out]; exact hjl2)
  have hys : (x.getD j default).ys = (m.getD j default).ys := congrArg Prod.snd hdj
  have hrr := HRR.out
  rw [← hys] at hrr
  have hLe : ∀ i, i < x.length → (x.getD i default).ys.length ≤ 1000 := fun i hi => by
    rw [show (x.getD i default).ys = (m.getD i default).ys from congrArg Prod.snd (datM_get hdat i (by rw [HML.out, ← HXL.out]; exact hi))]
    exact HLE.out i (by rw [← HXL.out]; exact hi)
  have hOB := hOw6.1 j (by rw [HXL.out]; exact hjl2)
  obtain ⟨g, hgq, hgB, hrow⟩ := hOB.2.2 (by omega)
  have hgP : g ≠ PB := by
    obtain ⟨g2, hg2, hg2B, hrow2⟩ := (hOw.1 j hjl2).2.2 (by omega)
    rw [hgq] at hg2
    simp only [Option.some.injEq, Addr.mk.injEq] at hg2
    have := hrow2.lt
    omega
  have hgBB : B ≠ g := by
    obtain ⟨cs, h1, _⟩ := hKR6
    obtain ⟨cs2, h2, _⟩ := hrow
    exact at_ne h1 h2 (by decide)
  have hgA : w.heap.size + 1 ≠ g := by omega
  have hcap := hOB.1
  have hLej := hLe j (by rw [HXL.out]; exact hjl2)
  have hfin := fun (w' : World) (ys' : List BY) hl hr hO => splice_isMem (w' := w') (ys := ys') hgBB hKR6 hOw6 hLe (by rw [HXL.out]; exact hlen1) (j := j) (by rw [HXL.out]; exact hjl2) (by omega) hgq hl hr hO
  have hdset := datM_set hdat j (u := ⟨(x.getD j default).st, (x.getD j default).q, (x.getD j default).c, putAt (x.getD j default).ys o xs⟩) (v := ⟨(m.getD j default).st, (m.getD j default).q, (m.getD j default).c, putAt (m.getD j default).ys o xs⟩) (by unfold datK; rw [hys]; exact congrArg (fun z : Int × List BY => (z.1, putAt (m.getD j default).ys o xs)) hdj)
  rw [HDD.out] at hdset
  have hrow0 := hrow
  rw [← putAt_0 (x.getD j default).ys xs o] at hrow0
  have HFIN := Lib.hid hfin
  have HDS := Lib.hid hdset
  have HKR := Lib.hid hKR6
  have HB0 := Lib.hid hb0
  have hBlt := hKR6.lt
  have hkc : ∀ wr, Only g w6 wr → wr.cell? ⟨B, j * 2 + 1, none⟩ = some (.slice (x.getD j default).q (x.getD j default).ys.length (x.getD j default).c) := fun wr hO => by
    obtain ⟨cs, h1, h2⟩ := hKR6
    exact (KRow.cells (w := wr) ⟨cs, hO.at h1 hgBB, h2⟩ j (by rw [HXL.out]; exact hjl2)).2
  obtain ⟨xj, hxj⟩ : ∃ xj, xj = x.getD j default := ⟨_, rfl⟩
  rw [← hxj] at hrr hcap hgq hrow hrow0 hkc HFIN HDS hLej
  obtain ⟨s', xq, xc, ys⟩ := xj
  dsimp only at hrr hcap hgq hrow hrow0 hkc HFIN HDS hLej
  subst hgq
  have hpl2 := putAt_len (ys := ys) (xs := xs) (o := o) (by rw [HPL.out]; exact hrr)
  have HP2 := Lib.hid hpl2
  have hst := fun (t : Nat) (wr : World) (h : BRow wr g (putAt ys o (xs.take t))) (ht : t < n) => h.store (o + t) (by rw [putAt_len (by rw [List.length_take, HPL.out]; omega)]; omega) (xs.getD t default)
  have hstep := fun (t : Nat) (ht : t < n) => putAt_step (ys := ys) (xs := xs) (o := o) (j := t) (by rw [HPL.out]; exact hrr) (by rw [HPL.out]; exact ht)
  have HST := Lib.hid hst
  have HSTEP := Lib.hid hstep
  generalize hLy : ys.length = Ly at *
  have HLY := Lib.hid hLy
  have HPB := Lib.hid dPB
  have HP := Lib.hid dP
  have HK1 := Lib.hid hkc
  clear hb2 hOw hOw6 hKR hKR6 hdat hdj hys hOB hLe hfin hdset hrow hpl2 hst hstep hxj hb0 dA dS dP dPB hkc a0 a1 z0 z1 z2 z3 hLy cPut
  go_wp2
  go_loopw [14] (fun v wr => RelRs n o g ys xs w6 v wr) (fun v _ => n - (intOf v).toNat)
  case atStart => exact ⟨0, by omega, rfl, hrow0, Only.refl _ _⟩
  case round =>
    obtain ⟨t, ht, rfl, hrt, hO⟩ := hrel
    by_cases hlt : t < n
    · obtain ⟨w2, hw2⟩ : ∃ w2, w2 = wr.drew := ⟨_, rfl⟩
      obtain ⟨v0, v1, v2, v3, v4, st, hr2⟩ := HST.out t w2 (by rw [hw2]; exact hrt) hlt
      rw [HSTEP.out t hlt] at hr2
      have HR2 := Lib.hid hr2
      have hO2 : Only g w6 w2 := by rw [hw2]; exact hO.drew
      have HO2 := Lib.hid (((((hO2.set ((o + t) * 5) (.int .i64 (xs.getD t default).st)).set ((o + t) * 5 + 1) (.int .i64 (xs.getD t default).n)).set ((o + t) * 5 + 2) (.int .i64 (xs.getD t default).b)).set ((o + t) * 5 + 3) (.int .i64 (xs.getD t default).o)).set ((o + t) * 5 + 4) (.int .i64 (xs.getD t default).i))
      have dP2 := hO.at HP.out hgA
      have dPB2 := hO.at HPB.out hgP.symm
      have hget := flat_get xs t (by rw [HPL.out]; exact hlt)
      have b0 : wr.cell? ⟨PB, t * 5, none⟩ = some (.int .i64 (xs.getD t default).st) := dPB2.cell (t * 5) (by simp only [byC, List.getElem?_toArray]; exact hget 0 (by decide))
      have b1 : wr.cell? ⟨PB, t * 5 + 1, none⟩ = some (.int .i64 (xs.getD t default).n) := dPB2.cell (t * 5 + 1) (by simp only [byC, List.getElem?_toArray]; exact hget 1 (by decide))
      have b2 : wr.cell? ⟨PB, t * 5 + 2, none⟩ = some (.int .i64 (xs.getD t default).b) := dPB2.cell (t * 5 + 2) (by simp only [byC, List.getElem?_toArray]; exact hget 2 (by decide))
      have b3 : wr.cell? ⟨PB, t * 5 + 3, none⟩ = some (.int .i64 (xs.getD t default).o) := dPB2.cell (t * 5 + 3) (by simp only [byC, List.getElem?_toArray]; exact hget 3 (by decide))
      have b4 : wr.cell? ⟨PB, t * 5 + 4, none⟩ = some (.int .i64 (xs.getD t default).i) := dPB2.cell (t * 5 + 4) (by simp only [byC, List.getElem?_toArray]; exact hget 4 (by decide))
      have k1 := HK1.out wr hO
      have p2' := dP2.cell 2 rfl
      have p3' := dP2.cell 3 rfl
      have t3 : (t : Int) < (n : Int) := by omega
      have w1 : IntKind.i64.wrap ((o : Int) + (t : Int)) = ((o + t : Nat) : Int) := by rw [IntKind.wrap_i64]; omega
      have i1 : ((o + t : Nat) : Int) < (Ly : Int) := by omega
      have i2 : (0 : Int) ≤ ((o + t : Nat) : Int) := by omega
      have i4 : o + t < Ly := by omega
      have i5 : o + t < xc := by omega
      obtain ⟨st0, st1, st2, st3, st4⟩ := st
      obtain ⟨u0, f0⟩ := st0
      obtain ⟨u1, f1⟩ := st1
      obtain ⟨u2, f2⟩ := st2
      obtain ⟨u3, f3⟩ := st3
      obtain ⟨u4, f4⟩ := st4
      generalize xs.getD t default = y at *
      generalize hot : o + t = ot at *
      have HOT := Lib.hid hot
      have HW2 := Lib.hid hw2
      clear hr2 hrt hO dP2 dPB2 hget hrow0 hot hO2 hw2
      go_wp2_with fail
      go_still_tail 15, (by kernel_rfl)
      change wpList _ _ _ _ _ wr.drew
      rw [← HW2.out]
      go_wp2
      go_roundw
      case rel => exact ⟨t + 1, by omega, by go_num, HR2.out, HO2.out⟩
      case measure => simp [intOf]; omega
    · obtain rfl : t = n := by omega
      have hr2 : BRow wr g (putAt ys o xs) := by
        have := hrt
        rwa [List.take_of_length_le (by rw [HPL.out]; exact Nat.le_refl _)] at this
      have hX := HFIN.out wr (putAt ys o xs) (by rw [HP2.out]) hr2 hO
      have fin : RStorePost D 0 len w (.returned (.tuple #[.slice (some ⟨B, 0, none⟩) len cx, .int .i64 0])) wr := ⟨_, cx, _, rfl, by rw [HXL.out] at hX; exact hX, HDS.out, HB0.out.trans (hO.1.mono (by omega))⟩
      clear hr2 hX hrt hO hrow0
      go_wp2
      go_ret2
      exact fin
theorem rStore_any (big : Bool) (pp k : Int) (q : Option Addr) (len cap : Nat) (m : List BK) (p s : SC) (hp : mayA pp) (hs : mayS k s = true) (hH : hasM m p = true) (w : World) (hx : IsMem w q len m) :
    Calls Try.prog 25 #[.agg #[.bool big, .int .i64 pp], .slice q len cap, scV p, .int .i64 k, scV s] w (RStorePost (storeD big pp k m p s) (reachM m p (sizN pp k)) len w) := by
  unfold storeD
  by_cases hR : reachM m p (sizN pp k) = 0
  · rw [if_neg (by simpa using hR), hR]
    exact rStore_ok big pp k q len cap m p s hp hs hH hR _ rfl w hx
  · rw [if_pos hR]
    exact rStore_bad big pp k q len cap m p s hp (mayS_kind hs) hH _ rfl hR w hx
end Go.Proofs.Ytnhbaigagphpmaa
