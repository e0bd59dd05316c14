/- Package mem: Store. -/
import Derived.Test.YtnhbaigagphpmaaKSplice
namespace Go.Proofs.Ytnhbaigagphpmaa
open Go.ChangeShapes Go.WideShapes Go.ChangeAt Go.RowKit Go.Joins Go.Deep
set_option linter.unusedVariables false

def StoreNo (w : World) (e : Ending) (w' : World) : Prop := e = .returned (.tuple #[.slice none 0 0, .int .i64 0, .int .i64 1]) ∧ Below w.heap.size w w'
/-- memory that is the call's own, and what goes wrong -/
def StorePost (D : List (Int × List BY)) (bad : Int) (len : Nat) (w : World) (e : Ending) (w' : World) : Prop :=
  ∃ B cap x, e = .returned (.tuple #[.slice (some ⟨B, 0, none⟩) len cap, .int .i64 bad, .int .i64 0]) ∧ OwnMem w' w.heap.size B x ∧ datM x = D ∧ x.length = len ∧ len ≤ cap ∧ Below w.heap.size w w'
/-- memory in which bytes lie at a pointer -/
def stoM (m : List BK) (p : SC) (xs : List BY) : List BK := m.set p.b.toNat ⟨(atM m p).st, (atM m p).q, (atM m p).c, putAt (atM m p).ys p.o.toNat xs⟩
def storeD (big : Bool) (pp k : Int) (m : List BK) (p s : SC) : List (Int × List BY) :=
  if reachM m p (sizN pp k) ≠ 0 then datM m else datM (stoM m p (putL big (sizN pp k) s))
theorem datM_set {x m : List BK} (h : datM x = datM m) (i : Nat) {u v : BK} (hu : datK u = datK v) : datM (x.set i u) = datM (m.set i v) := by
  unfold datM at *
  rw [List.map_set, List.map_set, h, hu]
theorem datM_len {x m : List BK} (h : datM x = datM m) : x.length = m.length := by
  have := congrArg List.length h
  simpa [datM] using this
theorem datM_get {x m : List BK} (h : datM x = datM m) (i : Nat) (hi : i < m.length) : datK (x.getD i default) = datK (m.getD i default) := by
  have hl := datM_len h
  have h1 : (datM x)[i]? = (datM m)[i]? := by rw [h]
  unfold datM at h1
  rw [List.getElem?_map, List.getElem?_map, List.getElem?_eq_getElem (by omega), List.getElem?_eq_getElem hi] at h1
  simp only [Option.map_some, Option.some.injEq] at h1
  simpa [List.getD, hi, hl] using h1
/-- one block's bytes written over: the memory is the call's own still -/
theorem OwnMem.splice {w w' : World} {base B j g : Nat} {x : List BK} {ys : List BY} (h : OwnMem w base B x) (hj : j < x.length) (hne : 0 < (x.getD j default).ys.length) (hg : (x.getD j default).q = some ⟨g, 0, none⟩) (hl : ys.length = (x.getD j default).ys.length) (hr : BRow w' g ys) (hO : Only g w w') :
    OwnMem w' base B (x.set j ⟨(x.getD j default).st, (x.getD j default).q, (x.getD j default).c, ys⟩) := by
  obtain ⟨a, b, c, d⟩ := h
  have hgj := (c.1 j hj).lt hne
  rw [hg] at hgj
  simp only [blkQ] at hgj
  have hBg : B ≠ g := by omega
  have gle : ∀ i, i < x.length → ((x.set j ⟨(x.getD j default).st, (x.getD j default).q, (x.getD j default).c, ys⟩).getD i default).ys.length = (x.getD i default).ys.length ∧ ((x.set j ⟨(x.getD j default).st, (x.getD j default).q, (x.getD j default).c, ys⟩).getD i default).q = (x.getD i default).q ∧ ((x.set j ⟨(x.getD j default).st, (x.getD j default).q, (x.getD j default).c, ys⟩).getD i default).c = (x.getD i default).c ∧ ((x.set j ⟨(x.getD j default).st, (x.getD j default).q, (x.getD j default).c, ys⟩).getD i default).st = (x.getD i default).st := by
    intro i hi
    by_cases e : i = j
    · subst e
      rw [set_self hj]
      exact ⟨hl, rfl, rfl, rfl⟩
    · rw [set_other e]
      exact ⟨rfl, rfl, rfl, rfl⟩
  refine ⟨a, ?_, ⟨fun i hi => ?_, fun i k hik hk hi0 hk0 => ?_⟩, fun i hi => ?_⟩
  · obtain ⟨cs, h1, h2, h3⟩ := b
    refine ⟨cs, hO.at h1 hBg, by simpa using h2, fun i hi => ?_⟩
    have hi' : i < x.length := by simpa using hi
    have hh := gle i hi'
    rw [hh.1, hh.2.1, hh.2.2.1, hh.2.2.2]
    exact h3 i hi'
  · have hi' : i < x.length := by simpa using hi
    by_cases e : i = j
    · subst e
      rw [set_self hj]
      have h1 := c.1 i hj
      refine ⟨by dsimp only; rw [hl]; exact h1.1, h1.2.1, fun h0 => ⟨g, hg, by omega, hr⟩⟩
    · rw [set_other e]
      obtain ⟨p1, p2, p3⟩ := c.1 i hi'
      refine ⟨p1, p2, fun h0 => ?_⟩
      obtain ⟨g', hg', hge, cs, hA, hB⟩ := p3 h0
      have hne2 : g' ≠ g := by
        rcases Nat.lt_or_ge i j with hlt | hge2
        · have := c.2 i j hlt hj h0 hne
          rw [hg, hg'] at this
          simp only [blkQ] at this
          omega
        · have := c.2 j i (by omega) hi' hne h0
          rw [hg, hg'] at this
          simp only [blkQ] at this
          omega
      exact ⟨g', hg', hge, cs, hO.at hA hne2, hB⟩
  · have hi' : i < x.length := by simp at hk; omega
    have hk' : k < x.length := by simpa using hk
    rw [(gle i hi').1] at hi0
    rw [(gle k hk').1] at hk0
    rw [(gle i hi').2.1, (gle k hk').2.1]
    exact c.2 i k hik hk' hi0 hk0
  · have hi' : i < x.length := by simpa using hi
    rw [(gle i hi').1]
    exact d i hi'
set_option maxRecDepth 100000 in
set_option maxHeartbeats 3200000 in
theorem Store_no1 (big : Bool) (pp k : Int) (q : Option Addr) (len cap : Nat) (m : List BK) (p s : SC) (h : ¬ (mayA pp ∧ mayS k s = true)) (w : World) (hx : IsMem w q len m) :
    Calls Try.prog 22 #[.agg #[.bool big, .int .i64 pp], .slice q len cap, scV p, .int .i64 k, scV s] w (StoreNo w) := by
  have cPut := fun w => Put_no big pp k s h w
  clear h
  obtain ⟨p0, p1, p2, p3⟩ := p
  obtain ⟨s0, s1, s2, s3⟩ := s
  simp only [scV_eq] at *
  try dsimp only at *
  have dA := At.alloc (At.alloc (At.new w #[.bool big, .int .i64 pp] 38) (.cells #[.bool p0, .int .i64 p1, .int .i64 p2, .int .i64 p3] 33)) (.cells #[.bool s0, .int .i64 s1, .int .i64 s2, .int .i64 s3] 33)
  have dP := At.alloc (At.new2 w (.cells #[.bool big, .int .i64 pp] 38) #[.bool p0, .int .i64 p1, .int .i64 p2, .int .i64 p3] 33) (.cells #[.bool s0, .int .i64 s1, .int .i64 s2, .int .i64 s3] 33)
  have dS := At.new3 w (.cells #[.bool big, .int .i64 pp] 38) (.cells #[.bool p0, .int .i64 p1, .int .i64 p2, .int .i64 p3] 33) #[.bool s0, .int .i64 s1, .int .i64 s2, .int .i64 s3] 33
  have hb0 := below_box3 w (.cells #[.bool big, .int .i64 pp] 38) (.cells #[.bool p0, .int .i64 p1, .int .i64 p2, .int .i64 p3] 33) (.cells #[.bool s0, .int .i64 s1, .int .i64 s2, .int .i64 s3] 33)
  have cT := fun w => take_any q len cap w
  have HX := Lib.hid hx
  clear hx
  go_enter Try.func22, Try.ntmps22
  go_wp2_with fail
  refine (cT _).mono ?_
  rintro e w1 ⟨rb, rfl, hge, hM, hb2⟩
  replace dA := At.below' hb2 dA
  replace dP := At.below' hb2 dP
  replace dS := At.below' hb2 dS
  have hrb : w.heap.size + 2 < rb := by have := hge; simp at this; omega
  replace hb0 := hb0.trans (hb2.mono hb0.size)
  clear hb2 hge cT
  have a0 : w1.cell? ⟨w.heap.size, 0, none⟩ = some (.bool big) := dA.cell 0 rfl
  have a1 : w1.cell? ⟨w.heap.size, 1, none⟩ = some (.int .i64 pp) := dA.cell 1 rfl
  have z0 : w1.cell? ⟨w.heap.size + 2, 0, none⟩ = some (.bool s0) := dS.cell 0 rfl
  have z1 : w1.cell? ⟨w.heap.size + 2, 1, none⟩ = some (.int .i64 s1) := dS.cell 1 rfl
  have z2 : w1.cell? ⟨w.heap.size + 2, 2, none⟩ = some (.int .i64 s2) := dS.cell 2 rfl
  have z3 : w1.cell? ⟨w.heap.size + 2, 3, none⟩ = some (.int .i64 s3) := dS.cell 3 rfl
  go_wp2_with fail
  refine (cPut _).mono ?_
  rintro e w2 ⟨rfl, hb2⟩
  replace dP := At.below' hb2 dP
  replace hM : MemNew w2 rb (.slice q len cap) := At.below' hb2 hM
  replace hb0 := hb0.trans (hb2.mono hb0.size)
  clear dA dS a0 a1 z0 z1 z2 z3 cPut
  go_wp2
  go_ret3
  exact ⟨rfl, hb0⟩
set_option maxRecDepth 100000 in
set_option maxHeartbeats 3200000 in
theorem Store_no2 (big : Bool) (pp k : Int) (q : Option Addr) (len cap : Nat) (m : List BK) (p s : SC) (hp : mayA pp) (hs : mayS k s = true) (hH : hasM m p = false) (w : World) (hx : IsMem w q len m) :
    Calls Try.prog 22 #[.agg #[.bool big, .int .i64 pp], .slice q len cap, scV p, .int .i64 k, scV s] w (StoreNo w) := by
  have cPut := fun w => Put_any big pp k hp s hs w
  generalize putL big (sizN pp k) s = xs at *
  generalize sizN pp k = n at *
  clear hp hs
  obtain ⟨p0, p1, p2, p3⟩ := p
  obtain ⟨s0, s1, s2, s3⟩ := s
  simp only [scV_eq] at *
  try dsimp only at *
  have dA := At.alloc (At.alloc (At.new w #[.bool big, .int .i64 pp] 38) (.cells #[.bool p0, .int .i64 p1, .int .i64 p2, .int .i64 p3] 33)) (.cells #[.bool s0, .int .i64 s1, .int .i64 s2, .int .i64 s3] 33)
  have dP := At.alloc (At.new2 w (.cells #[.bool big, .int .i64 pp] 38) #[.bool p0, .int .i64 p1, .int .i64 p2, .int .i64 p3] 33) (.cells #[.bool s0, .int .i64 s1, .int .i64 s2, .int .i64 s3] 33)
  have dS := At.new3 w (.cells #[.bool big, .int .i64 pp] 38) (.cells #[.bool p0, .int .i64 p1, .int .i64 p2, .int .i64 p3] 33) #[.bool s0, .int .i64 s1, .int .i64 s2, .int .i64 s3] 33
  have hb0 := below_box3 w (.cells #[.bool big, .int .i64 pp] 38) (.cells #[.bool p0, .int .i64 p1, .int .i64 p2, .int .i64 p3] 33) (.cells #[.bool s0, .int .i64 s1, .int .i64 s2, .int .i64 s3] 33)
  have cT := fun w => take_any q len cap w
  have HX := Lib.hid hx
  clear hx
  go_enter Try.func22, Try.ntmps22
  go_wp2_with fail
  refine (cT _).mono ?_
  rintro e w1 ⟨rb, rfl, hge, hM, hb2⟩
  replace dA := At.below' hb2 dA
  replace dP := At.below' hb2 dP
  replace dS := At.below' hb2 dS
  have hrb : w.heap.size + 2 < rb := by have := hge; simp at this; omega
  replace hb0 := hb0.trans (hb2.mono hb0.size)
  clear hb2 hge cT
  have a0 : w1.cell? ⟨w.heap.size, 0, none⟩ = some (.bool big) := dA.cell 0 rfl
  have a1 : w1.cell? ⟨w.heap.size, 1, none⟩ = some (.int .i64 pp) := dA.cell 1 rfl
  have z0 : w1.cell? ⟨w.heap.size + 2, 0, none⟩ = some (.bool s0) := dS.cell 0 rfl
  have z1 : w1.cell? ⟨w.heap.size + 2, 1, none⟩ = some (.int .i64 s1) := dS.cell 1 rfl
  have z2 : w1.cell? ⟨w.heap.size + 2, 2, none⟩ = some (.int .i64 s2) := dS.cell 2 rfl
  have z3 : w1.cell? ⟨w.heap.size + 2, 3, none⟩ = some (.int .i64 s3) := dS.cell 3 rfl
  go_wp2_with fail
  refine (cPut _).mono ?_
  rintro e w2 ⟨PB, rfl, hPge, hPB, hb2⟩
  have hPrb : PB ≠ rb := by have := At.lt hM; omega
  replace dP := At.below' hb2 dP
  replace hM : MemNew w2 rb (.slice q len cap) := At.below' hb2 hM
  replace hb0 := hb0.trans (hb2.mono hb0.size)
  clear dA dS a0 a1 z0 z1 z2 z3 cPut
  clear hb2 hPB
  have hlt := At.lt hM
  have hcH := hasM_first rb q len cap m ⟨p0, p1, p2, p3⟩ w w2 HX.out hb0 (by omega) hM
  unfold HasMPost at hcH
  rw [hH] at hcH
  rw [scV_eq] at hcH
  have x0 : w2.cell? ⟨w.heap.size + 1, 0, none⟩ = some (.bool p0) := dP.cell 0 rfl
  have x1 : w2.cell? ⟨w.heap.size + 1, 1, none⟩ = some (.int .i64 p1) := dP.cell 1 rfl
  have x2 : w2.cell? ⟨w.heap.size + 1, 2, none⟩ = some (.int .i64 p2) := dP.cell 2 rfl
  have x3 : w2.cell? ⟨w.heap.size + 1, 3, none⟩ = some (.int .i64 p3) := dP.cell 3 rfl
  go_wp2_with fail
  refine hcH.mono ?_
  rintro e w3 ⟨rfl, hd, hO⟩
  replace dP := hO.at dP (by omega)
  replace hb0 := hb0.trans (hO.1.mono (by omega))
  clear hcH hO hM x0 x1 x2 x3
  clear hd
  go_wp2
  go_ret3
  exact ⟨rfl, hb0⟩
set_option maxRecDepth 100000 in
set_option maxHeartbeats 3200000 in
theorem Store_bad (big : Bool) (pp k : Int) (q : Option Addr) (len cap : Nat) (m : List BK) (p s : SC) (hp : mayA pp) (hs : mayS k s = true) (hH : hasM m p = true) (v : Int) (hR : reachM m p (sizN pp k) = v) (hv : v ≠ 0) (w : World) (hx : IsMem w q len m) :
    Calls Try.prog 22 #[.agg #[.bool big, .int .i64 pp], .slice q len cap, scV p, .int .i64 k, scV s] w (StorePost (datM m) v len w) := by
  have cPut := fun w => Put_any big pp k hp s hs w
  have hkk := mayS_kind hs
  have hn := siz_cases hp hkk
  have HI := Lib.hid (InM.of hH)
  have HO := Lib.hid (InM.off hH)
  have hMM : mayM m = true := by unfold hasM at hH; simp only [Bool.and_eq_true] at hH; exact hH.1
  have HMM := Lib.hid hMM
  have HLE := Lib.hid (fun i (hi : i < len) => show (m.getD i default).ys.length ≤ 1000 by
    have := (mayK_len (mayM_at hMM i (by rw [hx.2.1]; exact hi))).1
    omega)
  have hlen0 : 0 < len := by have := (mayM_len hMM).1; have := hx.2.1; omega
  have hpl := putL_len big (sizN pp k) s
  generalize putL big (sizN pp k) s = xs at *
  generalize sizN pp k = n at *
  have HN := Lib.hid hn
  have HPL := Lib.hid hpl
  clear hp hs hn hpl hkk hMM
  obtain ⟨p0, p1, p2, p3⟩ := p
  obtain ⟨s0, s1, s2, s3⟩ := s
  simp only [scV_eq] at *
  try dsimp only at *
  have dA := At.alloc (At.alloc (At.new w #[.bool big, .int .i64 pp] 38) (.cells #[.bool p0, .int .i64 p1, .int .i64 p2, .int .i64 p3] 33)) (.cells #[.bool s0, .int .i64 s1, .int .i64 s2, .int .i64 s3] 33)
  have dP := At.alloc (At.new2 w (.cells #[.bool big, .int .i64 pp] 38) #[.bool p0, .int .i64 p1, .int .i64 p2, .int .i64 p3] 33) (.cells #[.bool s0, .int .i64 s1, .int .i64 s2, .int .i64 s3] 33)
  have dS := At.new3 w (.cells #[.bool big, .int .i64 pp] 38) (.cells #[.bool p0, .int .i64 p1, .int .i64 p2, .int .i64 p3] 33) #[.bool s0, .int .i64 s1, .int .i64 s2, .int .i64 s3] 33
  have hb0 := below_box3 w (.cells #[.bool big, .int .i64 pp] 38) (.cells #[.bool p0, .int .i64 p1, .int .i64 p2, .int .i64 p3] 33) (.cells #[.bool s0, .int .i64 s1, .int .i64 s2, .int .i64 s3] 33)
  have cT := fun w => take_any q len cap w
  have HX := Lib.hid hx
  clear hx
  go_enter Try.func22, Try.ntmps22
  go_wp2_with fail
  refine (cT _).mono ?_
  rintro e w1 ⟨rb, rfl, hge, hM, hb2⟩
  replace dA := At.below' hb2 dA
  replace dP := At.below' hb2 dP
  replace dS := At.below' hb2 dS
  have hrb : w.heap.size + 2 < rb := by have := hge; simp at this; omega
  replace hb0 := hb0.trans (hb2.mono hb0.size)
  clear hb2 hge cT
  have a0 : w1.cell? ⟨w.heap.size, 0, none⟩ = some (.bool big) := dA.cell 0 rfl
  have a1 : w1.cell? ⟨w.heap.size, 1, none⟩ = some (.int .i64 pp) := dA.cell 1 rfl
  have z0 : w1.cell? ⟨w.heap.size + 2, 0, none⟩ = some (.bool s0) := dS.cell 0 rfl
  have z1 : w1.cell? ⟨w.heap.size + 2, 1, none⟩ = some (.int .i64 s1) := dS.cell 1 rfl
  have z2 : w1.cell? ⟨w.heap.size + 2, 2, none⟩ = some (.int .i64 s2) := dS.cell 2 rfl
  have z3 : w1.cell? ⟨w.heap.size + 2, 3, none⟩ = some (.int .i64 s3) := dS.cell 3 rfl
  go_wp2_with fail
  refine (cPut _).mono ?_
  rintro e w2 ⟨PB, rfl, hPge, hPB, hb2⟩
  have hPrb : PB ≠ rb := by have := At.lt hM; omega
  replace dP := At.below' hb2 dP
  replace hM : MemNew w2 rb (.slice q len cap) := At.below' hb2 hM
  replace hb0 := hb0.trans (hb2.mono hb0.size)
  clear dA dS a0 a1 z0 z1 z2 z3 cPut
  have hPne : PB ≠ rb := hPrb
  have hlt := At.lt hM
  have hcH := hasM_first rb q len cap m ⟨p0, p1, p2, p3⟩ w w2 HX.out hb0 (by omega) hM
  unfold HasMPost at hcH
  rw [hH] at hcH
  rw [scV_eq] at hcH
  have x0 : w2.cell? ⟨w.heap.size + 1, 0, none⟩ = some (.bool p0) := dP.cell 0 rfl
  have x1 : w2.cell? ⟨w.heap.size + 1, 1, none⟩ = some (.int .i64 p1) := dP.cell 1 rfl
  have x2 : w2.cell? ⟨w.heap.size + 1, 2, none⟩ = some (.int .i64 p2) := dP.cell 2 rfl
  have x3 : w2.cell? ⟨w.heap.size + 1, 3, none⟩ = some (.int .i64 p3) := dP.cell 3 rfl
  go_wp2_with fail
  refine hcH.mono ?_
  rintro e w3 ⟨rfl, hd, hO⟩
  replace dP := hO.at dP (by omega)
  replace hPB := hO.at hPB (by omega)
  replace hb0 := hb0.trans (hO.1.mono (by omega))
  clear hcH hO hM x0 x1 x2 x3
  have hd2 := hd (HMM.out)
  have hlt3 := hd2.lt
  clear hd hlt
  have cC := copy_any rb q len cap m hlen0 HLE.out w3 (HX.out.below hb0) hd2
  go_wp2_with fail
  refine cC.mono ?_
  rintro e w4 ⟨B, capB, x, rfl, hown, hdat, hxl, hcapB, hb4⟩
  replace dP := At.below' hb4 dP
  replace hPB := At.below' hb4 hPB
  have hd4 := MemDone.below hd2 hb4 hlt3
  have hge3 := hb0.size
  replace hb0 := hb0.trans (hb4.mono hb0.size)
  clear cC
  have cR := reach_any rb q len cap m ⟨p0, p1, p2, p3⟩ n HN.out HI.out HO.out w4 (HX.out.below hb0) hd4
  rw [scV_eq] at cR
  rw [hR] at cR
  have x0 : w4.cell? ⟨w.heap.size + 1, 0, none⟩ = some (.bool p0) := dP.cell 0 rfl
  have x1 : w4.cell? ⟨w.heap.size + 1, 1, none⟩ = some (.int .i64 p1) := dP.cell 1 rfl
  have x2 : w4.cell? ⟨w.heap.size + 1, 2, none⟩ = some (.int .i64 p2) := dP.cell 2 rfl
  have x3 : w4.cell? ⟨w.heap.size + 1, 3, none⟩ = some (.int .i64 p3) := dP.cell 3 rfl
  go_wp2_with fail
  refine cR.mono ?_
  rintro e w5 ⟨rfl, hb5⟩
  replace dP := At.below' hb5 dP
  replace hPB := At.below' hb5 hPB
  have hown5 := hown.below hb5
  replace hb0 := hb0.trans (hb5.mono hb0.size)
  clear cR x0 x1 x2 x3 hown
  have tv : (v == 0) = false := by rw [beq_eq_false_iff_ne]; exact hv
  have fin : StorePost (datM m) v len w (.returned (.tuple #[.slice (some ⟨B, 0, none⟩) len capB, .int .i64 v, .int .i64 0])) w5 := ⟨B, capB, x, rfl, ⟨Nat.le_trans hge3 hown5.1, hown5.2⟩, hdat, hxl, hcapB, hb0⟩
  clear hown5 hR hv dP hPB hb4 hb5 hd2 hd4 hdat hxl hcapB hH
  go_wp2
  go_ret3
  exact fin
theorem Try.byteSize : (Try.prog.info? 67).map (·.size) = some 5 := by kernel_rfl
set_option maxRecDepth 100000 in
set_option maxHeartbeats 3200000 in
theorem Store_ok (big : Bool) (pp k : Int) (q : Option Addr) (len cap : Nat) (m : List BK) (p s : SC) (hp : mayA pp) (hs : mayS k s = true) (hH : hasM m p = true) (hR : reachM m p (sizN pp k) = 0) (D : List (Int × List BY)) (hD : datM (stoM m p (putL big (sizN pp k) s)) = D) (w : World) (hx : IsMem w q len m) :
    Calls Try.prog 22 #[.agg #[.bool big, .int .i64 pp], .slice q len cap, scV p, .int .i64 k, scV s] w (StorePost D 0 len w) := by
  have cPut := fun w => Put_any big pp k hp s hs w
  have hkk := mayS_kind hs
  have hn := siz_cases hp hkk
  have HI := Lib.hid (InM.of hH)
  have HO := Lib.hid (InM.off hH)
  have hMM : mayM m = true := by unfold hasM at hH; simp only [Bool.and_eq_true] at hH; exact hH.1
  have HMM := Lib.hid hMM
  have HLE := Lib.hid (fun i (hi : i < len) => show (m.getD i default).ys.length ≤ 1000 by
    have := (mayK_len (mayM_at hMM i (by rw [hx.2.1]; exact hi))).1
    omega)
  have hlen0 : 0 < len := by have := (mayM_len hMM).1; have := hx.2.1; omega
  have hpl := putL_len big (sizN pp k) s
  have hr := reach_0 hR
  have ho := InM.off hH
  obtain ⟨j, hj, hjl⟩ := InM.of hH
  have hjl2 : j < len := by rw [← hx.2.1]; exact hjl
  obtain ⟨o, hoo⟩ : ∃ o : Nat, p.o = (o : Nat) := ⟨p.o.toNat, by omega⟩
  unfold stoM at hD
  rw [atM_eq hj] at hr hD
  rw [hoo, hj, Int.toNat_natCast, Int.toNat_natCast] at hD
  rw [hoo] at hr
  have hmlen := hx.2.1
  generalize putL big (sizN pp k) s = xs at *
  generalize sizN pp k = n at *
  have hn4 : n ≤ 4 := by omega
  have hn1 : 1 ≤ n := by omega
  have hxf := flatY_len xs
  rw [hpl] at hxf
  have HXF := Lib.hid hxf
  have hr2 : o + n ≤ (m.getD j default).ys.length := by have := hr.2.1; omega
  have HRR := Lib.hid hr2
  have HDD := Lib.hid hD
  have HPL := Lib.hid hpl
  have HN := Lib.hid hn
  have hjl3 : (j : Int) < (len : Int) := by omega
  have ho0 : (0 : Int) ≤ (o : Int) := by omega
  have HML := Lib.hid hmlen
  have HJ := Lib.hid hj
  have HOO := Lib.hid hoo
  clear hp hs hn hpl hkk hMM hr ho hxf hr2 hD hmlen hjl hj hoo
  obtain ⟨p0, p1, p2, p3⟩ := p
  obtain ⟨s0, s1, s2, s3⟩ := s
  simp only [scV_eq] at *
  try dsimp only at *
  have dA := At.alloc (At.alloc (At.new w #[.bool big, .int .i64 pp] 38) (.cells #[.bool p0, .int .i64 p1, .int .i64 p2, .int .i64 p3] 33)) (.cells #[.bool s0, .int .i64 s1, .int .i64 s2, .int .i64 s3] 33)
  have dP := At.alloc (At.new2 w (.cells #[.bool big, .int .i64 pp] 38) #[.bool p0, .int .i64 p1, .int .i64 p2, .int .i64 p3] 33) (.cells #[.bool s0, .int .i64 s1, .int .i64 s2, .int .i64 s3] 33)
  have dS := At.new3 w (.cells #[.bool big, .int .i64 pp] 38) (.cells #[.bool p0, .int .i64 p1, .int .i64 p2, .int .i64 p3] 33) #[.bool s0, .int .i64 s1, .int .i64 s2, .int .i64 s3] 33
  have hb0 := below_box3 w (.cells #[.bool big, .int .i64 pp] 38) (.cells #[.bool p0, .int .i64 p1, .int .i64 p2, .int .i64 p3] 33) (.cells #[.bool s0, .int .i64 s1, .int .i64 s2, .int .i64 s3] 33)
  have cT := fun w => take_any q len cap w
  have HX := Lib.hid hx
  clear hx
  go_enter Try.func22, Try.ntmps22
  go_wp2_with fail
  refine (cT _).mono ?_
  rintro e w1 ⟨rb, rfl, hge, hM, hb2⟩
  replace dA := At.below' hb2 dA
  replace dP := At.below' hb2 dP
  replace dS := At.below' hb2 dS
  have hrb : w.heap.size + 2 < rb := by have := hge; simp at this; omega
  replace hb0 := hb0.trans (hb2.mono hb0.size)
  clear hb2 hge cT
  have a0 : w1.cell? ⟨w.heap.size, 0, none⟩ = some (.bool big) := dA.cell 0 rfl
  have a1 : w1.cell? ⟨w.heap.size, 1, none⟩ = some (.int .i64 pp) := dA.cell 1 rfl
  have z0 : w1.cell? ⟨w.heap.size + 2, 0, none⟩ = some (.bool s0) := dS.cell 0 rfl
  have z1 : w1.cell? ⟨w.heap.size + 2, 1, none⟩ = some (.int .i64 s1) := dS.cell 1 rfl
  have z2 : w1.cell? ⟨w.heap.size + 2, 2, none⟩ = some (.int .i64 s2) := dS.cell 2 rfl
  have z3 : w1.cell? ⟨w.heap.size + 2, 3, none⟩ = some (.int .i64 s3) := dS.cell 3 rfl
  go_wp2_with fail
  refine (cPut _).mono ?_
  rintro e w2 ⟨PB, rfl, hPge, hPB, hb2⟩
  have hPrb : PB ≠ rb := by have := At.lt hM; omega
  replace dP := At.below' hb2 dP
  replace hM : MemNew w2 rb (.slice q len cap) := At.below' hb2 hM
  replace hb0 := hb0.trans (hb2.mono hb0.size)
  clear dA dS a0 a1 z0 z1 z2 z3 cPut
  have hPne : PB ≠ rb := hPrb
  have hlt := At.lt hM
  have hcH := hasM_first rb q len cap m ⟨p0, p1, p2, p3⟩ w w2 HX.out hb0 (by omega) hM
  unfold HasMPost at hcH
  rw [hH] at hcH
  rw [scV_eq] at hcH
  have x0 : w2.cell? ⟨w.heap.size + 1, 0, none⟩ = some (.bool p0) := dP.cell 0 rfl
  have x1 : w2.cell? ⟨w.heap.size + 1, 1, none⟩ = some (.int .i64 p1) := dP.cell 1 rfl
  have x2 : w2.cell? ⟨w.heap.size + 1, 2, none⟩ = some (.int .i64 p2) := dP.cell 2 rfl
  have x3 : w2.cell? ⟨w.heap.size + 1, 3, none⟩ = some (.int .i64 p3) := dP.cell 3 rfl
  go_wp2_with fail
  refine hcH.mono ?_
  rintro e w3 ⟨rfl, hd, hO⟩
  replace dP := hO.at dP (by omega)
  replace hPB := hO.at hPB (by omega)
  replace hb0 := hb0.trans (hO.1.mono (by omega))
  clear hcH hO hM x0 x1 x2 x3
  have hd2 := hd (HMM.out)
  have hlt3 := hd2.lt
  clear hd hlt
  have cC := copy_any rb q len cap m hlen0 HLE.out w3 (HX.out.below hb0) hd2
  go_wp2_with fail
  refine cC.mono ?_
  rintro e w4 ⟨B, capB, x, rfl, hown, hdat, hxl, hcapB, hb4⟩
  replace dP := At.below' hb4 dP
  replace hPB := At.below' hb4 hPB
  have hd4 := MemDone.below hd2 hb4 hlt3
  have hge3 := hb0.size
  replace hb0 := hb0.trans (hb4.mono hb0.size)
  clear cC
  have cR := reach_any rb q len cap m ⟨p0, p1, p2, p3⟩ n HN.out HI.out HO.out w4 (HX.out.below hb0) hd4
  rw [scV_eq] at cR
  rw [hR] at cR
  have x0 : w4.cell? ⟨w.heap.size + 1, 0, none⟩ = some (.bool p0) := dP.cell 0 rfl
  have x1 : w4.cell? ⟨w.heap.size + 1, 1, none⟩ = some (.int .i64 p1) := dP.cell 1 rfl
  have x2 : w4.cell? ⟨w.heap.size + 1, 2, none⟩ = some (.int .i64 p2) := dP.cell 2 rfl
  have x3 : w4.cell? ⟨w.heap.size + 1, 3, none⟩ = some (.int .i64 p3) := dP.cell 3 rfl
  go_wp2_with fail
  refine cR.mono ?_
  rintro e w5 ⟨rfl, hb5⟩
  replace dP := At.below' hb5 dP
  replace hPB := At.below' hb5 hPB
  have hown5 := hown.below hb5
  replace hb0 := hb0.trans (hb5.mono hb0.size)
  clear cR x0 x1 x2 x3 hown
  have hj := HJ.out
  have hoo := HOO.out
  try dsimp only at hj hoo
  clear HJ HOO
  subst hj hoo
  have hdj := datM_get hdat j (by rw [HML.out]; exact hjl2)
  have hys : (x.getD j default).ys = (m.getD j default).ys := congrArg Prod.snd hdj
  have hrr := HRR.out
  rw [← hys] at hrr
  have hOB := hown5.2.2.1.1 j (by rw [hxl]; exact hjl2)
  have hLe := hown5.2.2.2 j (by rw [hxl]; exact hjl2)
  obtain ⟨g, hgq, hgB, hrow⟩ := hOB.2.2 (by omega)
  have hrow0 := hrow
  obtain ⟨cs, hcs, hcsz, hcget⟩ := hrow
  have hk := (hown5.2.1).cells j (by rw [hxl]; exact hjl2)
  have hfin := fun (w' : World) (ys' : List BY) hl hr hO => OwnMem.splice (w' := w') (ys := ys') hown5 (j := j) (g := g) (by rw [hxl]; exact hjl2) (by omega) hgq hl hr hO
  have hspl := fun (w' : World) h => BRow.splice (w' := w') (g := g) (o := o) (xs := xs) hcsz hcget (by rw [HPL.out]; exact hrr) h
  have hdset := datM_set hdat j (u := ⟨(x.getD j default).st, (x.getD j default).q, (x.getD j default).c, putAt (x.getD j default).ys o xs⟩) (v := ⟨(m.getD j default).st, (m.getD j default).q, (m.getD j default).c, putAt (m.getD j default).ys o xs⟩) (by unfold datK; rw [hys]; exact congrArg (fun z : Int × List BY => (z.1, putAt (m.getD j default).ys o xs)) hdj)
  rw [HDD.out] at hdset
  have hpl2 := putAt_len (ys := (x.getD j default).ys) (xs := xs) (o := o) (by rw [HPL.out]; exact hrr)
  have hsrc := fun i => byC_get xs i
  have hsc : ∀ i u, (flatY xs)[i]? = some u → w5.drew.cell? ((⟨PB, 0, none⟩ : Addr).add i) = some u := fun i u hu => by rw [Addr.add_lit, Nat.zero_add]; exact hPB.drew.cell i (by simp only [byC, List.getElem?_toArray]; exact hu)
  have hone := flatY_one xs
  have hcap := hOB.1
  have hfit : o * 5 + (flatY xs).length ≤ cs.size := by rw [HXF.out]; omega
  obtain ⟨xj, hxj⟩ : ∃ xj, xj = x.getD j default := ⟨_, rfl⟩
  rw [← hxj] at hrr hk hfin hspl hdset hpl2 hcap hgq hLe
  obtain ⟨s', xq, xc, ys⟩ := xj
  dsimp only at hrr hk hfin hspl hdset hpl2 hcap hgq hLe
  subst hgq
  generalize hLy : ys.length = Ly at *
  have hHcs : w5.drew.heap[g]? = some (.cells cs 67 (0, 0)) := hcs
  have hmin : n = Nat.min n (Ly - o) := (Nat.min_eq_left (by omega)).symm
  obtain ⟨hk0, hk1⟩ := hk
  have k7 : ¬ xc = o := by omega
  have k8 : o < xc := by omega
  have k9 : (o : Int) ≤ (Ly : Int) := by omega
  have k10 : o ≤ Ly := by omega
  have k11 : Ly ≤ xc := hcap
  have hgB2 : B < w5.heap.size := hown5.2.1.lt
  have HF := Lib.hid hfin
  have HS := Lib.hid hspl
  have HDS := Lib.hid hdset
  have HP2 := Lib.hid hpl2
  have HSC := Lib.hid hsc
  have HONE := Lib.hid hone
  have HFIT := Lib.hid hfit
  have HCS := Lib.hid hHcs
  have HMIN := Lib.hid hmin
  have HXL := Lib.hid hxl
  have HOWN := Lib.hid hown5.1
  have y2 : w5.cell? ⟨w.heap.size + 1, 2, none⟩ = some (.int .i64 (j : Nat)) := dP.cell 2 rfl
  have y3 : w5.cell? ⟨w.heap.size + 1, 3, none⟩ = some (.int .i64 (o : Nat)) := dP.cell 3 rfl
  clear hdj hys hOB hrow0 hcs hcsz hcget hfin hspl hdset hpl2 hsrc hsc hone hfit hHcs hmin hdat hxl hown5 hR hH hxj hPB dP hb4 hb5 hd2 hd4
  go_wp2_with fail
  go_region_law ((refine step_copy_row (by rfl) _ _ 24 24 (by rfl) 67 Try.underlying24 5 Try.byteSize g (o * 5) (Ly - o) (xc - o) ⟨PB, 0, none⟩ n n n (by rfl) (by rfl) cs 67 HCS.out (flatY xs) HMIN.out HXF.out HSC.out HFIT.out HONE.out ?_; intro w6 hA6 hO6))
  all_goals
    have hO7 := (Only.refl g w5).drew.trans hO6
    have hX := HF.out w6 (putAt ys o xs) HP2.out (HS.out w6 hA6) hO7
    have fin : StorePost D 0 len w (.returned (.tuple #[.slice (some ⟨B, 0, none⟩) len capB, .int .i64 0, .int .i64 0])) w6 := ⟨B, capB, _, rfl, ⟨Nat.le_trans hge3 HOWN.out, hX.2⟩, HDS.out, by rw [List.length_set]; exact HXL.out, hcapB, hb0.trans (hO7.1.mono (by have := HOWN.out; omega))⟩
    clear hO7 hX hA6 hO6 y2 y3 hk0 hk1 hLy
    go_wp2
    go_ret3
    exact fin
theorem Store_yes (big : Bool) (pp k : Int) (q : Option Addr) (len cap : Nat) (m : List BK) (p s : SC) (hp : mayA pp) (hs : mayS k s = true) (hH : hasM m p = true) (w : World) (hx : IsMem w q len m) :
    Calls Try.prog 22 #[.agg #[.bool big, .int .i64 pp], .slice q len cap, scV p, .int .i64 k, scV s] w (StorePost (storeD big pp k m p s) (reachM m p (sizN pp k)) len w) := by
  unfold storeD
  by_cases hR : reachM m p (sizN pp k) = 0
  · rw [if_neg (by simpa using hR), hR]
    exact Store_ok big pp k q len cap m p s hp hs hH hR _ rfl w hx
  · rw [if_pos hR]
    exact Store_bad big pp k q len cap m p s hp hs hH _ rfl hR w hx
theorem Store_no (big : Bool) (pp k : Int) (q : Option Addr) (len cap : Nat) (m : List BK) (p s : SC) (h : ¬ (mayA pp ∧ mayS k s = true ∧ hasM m p = true)) (w : World) (hx : IsMem w q len m) :
    Calls Try.prog 22 #[.agg #[.bool big, .int .i64 pp], .slice q len cap, scV p, .int .i64 k, scV s] w (StoreNo w) := by
  by_cases h1 : mayA pp ∧ mayS k s = true
  · cases hH : hasM m p
    · exact Store_no2 big pp k q len cap m p s h1.1 h1.2 hH w hx
    · exact absurd ⟨h1.1, h1.2, hH⟩ h
  · exact Store_no1 big pp k q len cap m p s h1 w hx
end Go.Proofs.Ytnhbaigagphpmaa
