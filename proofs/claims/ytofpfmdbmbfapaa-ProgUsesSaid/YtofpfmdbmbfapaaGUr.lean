/- The document on programs: Uses. -/
import Derived.Test.YtofpfmdbmbfapaaGRd
import Derived.Test.YtofpfmdbmbfapaaGW
import Derived.Test.YtofpfmdbmbfapaaGMm
namespace Go.Proofs.Ytofpfmdbmbfapaa
open Go.ChangeShapes Go.WideShapes Go.ChangeAt Go.RowKit Go.Joins Go.Deep
set_option linter.unusedVariables false

theorem usB_congr {l l' : List EX} (hl : Ahead l) (hl' : Ahead l') : ∀ (n : Nat) (u v : List Bool), u.length = l.length → v.length = l'.length → n ≤ l.length → n ≤ l'.length → (∀ j, j < n → l.getD j default = l'.getD j default) → (∀ j, u.getD j false = v.getD j false) → ∀ j, (usB l n u).getD j false = (usB l' n v).getD j false := by
  intro n
  induction n with
  | zero => intro u v _ _ _ _ _ h j; exact h j
  | succ n ih =>
    intro u v hu hv hn hn' he h j
    unfold usB
    refine ih _ _ (by rw [marks_len]; exact hu) (by rw [marks_len]; exact hv) (by omega) (by omega) (fun j hj => he j (by omega)) (fun j => ?_) j
    rw [marks_get _ _ _ _ (part_lt hl hu (by omega)), marks_get _ _ _ _ (part_lt hl' hv (by omega)), h j, h n, he n (by omega)]
theorem placesT_congr {u v : List Bool} (h : ∀ j, u.getD j false = v.getD j false) (n : Nat) : placesT u n = placesT v n := by
  unfold placesT
  congr 1
  refine List.filter_congr fun j _ => ?_
  rw [h j]
theorem placesT_more {u : List Bool} {n : Nat} (h : ∀ j, n ≤ j → u.getD j false = false) : ∀ k, placesT u (n + k) = placesT u n := by
  intro k
  induction k with
  | zero => rfl
  | succ k ih => rw [← Nat.add_assoc, placesT_succ, ih, h (n + k) (by omega)]; simp
theorem uses_doc {l : List EX} (hl : Ahead l) {e : Nat} (he : e < l.length) : placesL (usB l (e + 1) ((List.replicate l.length false).set e true)) = usesL (l.take (e + 1)) := by
  have hlen : (l.take (e + 1)).length = e + 1 := by rw [List.length_take]; omega
  have hc : ∀ j, (usB l (e + 1) ((List.replicate l.length false).set e true)).getD j false = (usesU (l.take (e + 1))).getD j false := by
    unfold usesU
    rw [hlen]
    refine usB_congr hl (hl.take _) (e + 1) _ _ (by simp) (by simp [hlen]) (by omega) (by rw [hlen]; exact Nat.le_refl _) (fun j hj => (getD_take hj).symm) (fun j => ?_)
    rw [getD_set, getD_set]
    simp only [List.length_replicate]
    by_cases hj : e = j
    · rw [if_pos ⟨hj, he⟩, if_pos ⟨by omega, by omega⟩]
    · rw [if_neg (fun h => hj h.1), if_neg (fun h => hj (by have := h.1; omega))]
      simp only [List.getD_eq_getElem?_getD, List.getElem?_replicate]
      split <;> split <;> rfl
  have hul : (usesU (l.take (e + 1))).length = e + 1 := by rw [usesU_len, hlen]
  unfold usesL
  rw [← placesT_all, ← placesT_all, placesT_congr hc, usB_len, hul]
  simp only [List.length_set, List.length_replicate]
  obtain ⟨k, hk⟩ : ∃ k, l.length = e + 1 + k := ⟨l.length - (e + 1), by omega⟩
  rw [hk]
  exact placesT_more (fun j hj => by rw [List.getD_eq_getElem?_getD, List.getElem?_eq_none (by omega)]; rfl) k
theorem form_op {P : PX} (h : formB P = true) {i : Nat} {x : EX} (hx : P.exs[i]? = some x) : 1 ≤ x.op ∧ x.op ≤ 22 := by
  have h2 : isExprB P x (i : Nat) = true := by
    simp only [formB, Bool.and_eq_true] at h
    have h2 := List.all_eq_true.1 h.1.1.2 i (by simp; exact (List.getElem?_eq_some_iff.1 hx).1)
    have he : exAt P (i : Nat) = x := by simp [exAt, List.getD_eq_getElem?_getD, hx]
    rw [he] at h2
    exact h2
  rw [← rExpr_eq] at h2
  unfold rExprB at h2
  cases hu : upTo x.op 1 22
  · rw [hu] at h2; simp at h2
  · simpa [upTo] using hu
theorem parts_many {x : EX} (h : 1 ≤ x.op ∧ x.op ≤ 22) : (manyN x.op = 0 ∧ partsL x = []) ∨ (manyN x.op = 1 ∧ partsL x = [x.a]) ∨ (manyN x.op = 2 ∧ partsL x = [x.a, x.b]) := by
  by_cases h0 : x.op = 1 ∨ x.op = 2
  · left
    refine ⟨by unfold manyN; rw [if_pos h0], ?_⟩
    unfold partsL
    rw [if_neg (by simp [hasTwoB]; omega), if_neg (by simp [hasOneB]; omega)]
  · by_cases h1 : 3 ≤ x.op ∧ x.op ≤ 7
    · right; left
      refine ⟨by unfold manyN; rw [if_neg h0, if_pos (by simp [upTo, h1])], ?_⟩
      unfold partsL
      rw [if_neg (by simp [hasTwoB]; omega), if_pos (by simp [hasOneB]; omega)]
    · right; right
      refine ⟨by unfold manyN; rw [if_neg h0, if_neg (by simp [upTo]; omega)], ?_⟩
      unfold partsL
      rw [if_pos (by simp [hasTwoB]; omega)]
theorem marks_false : ∀ (l : List Int) (u : List Bool), (∀ p ∈ l, 0 ≤ p ∧ p.toNat < u.length) → marks false l u = u := by
  intro l
  induction l with
  | nil => intro u _; rfl
  | cons p r ih =>
    intro u hp
    unfold marks
    have h := hp p (by simp)
    have e : u.set p.toNat (u.getD p.toNat false || false) = u := by
      rw [Bool.or_false]
      refine List.ext_getElem? fun j => ?_
      rw [List.getElem?_set]
      split
      · next hj => rw [if_pos h.2, ← hj, List.getD_eq_getElem?_getD, List.getElem?_eq_getElem h.2]; rfl
      · rfl
    rw [e]
    exact ih u (fun q hq => hp q (by simp [hq]))
def RUsesP (P : PX) (e0 : Nat) (w : World) (e : Ending) (w' : World) : Prop := ∃ v, e = .returned v ∧ IsIs w' v (usesL (P.exs.take (e0 + 1))) ∧ Below w.heap.size w w'
def Rel1r (w1 : World) (ub : Nat) (l : List EX) (nx : Nat) (U : List Bool) (v : Value) (wr : World) : Prop :=
  ∃ (k : Nat) (u : List Bool), k ≤ nx ∧ v = .int .i64 ((k : Int) - 1) ∧ u.length = nx ∧ usB l k u = U ∧ At wr ub (boolA u) 4 ∧ Below ub w1 wr
set_option maxRecDepth 100000 in
set_option maxHeartbeats 6400000 in
theorem rUses_any (P : PX) (v1 v2 v3 v4 v5 : Value) (e0 : Nat) (hF : formB P = true) (h120 : P.exs.length ≤ 120) (hlt : e0 < P.exs.length) (w : World) (h : IsPr w v1 v2 v3 v4 v5 P) : Calls Try.prog 10 #[.agg #[.bool P.big, .int .i64 P.ptr, v1, v2, v3, v4, v5], .int .i64 (e0 : Nat)] w (RUsesP P e0 w) := by
  have hb0 := below_box1 w (.cells #[.bool P.big, .int .i64 P.ptr, v1, v2, v3, v4, v5] 33)
  have hA := At.new w #[.bool P.big, .int .i64 P.ptr, v1, v2, v3, v4, v5] 33
  obtain ⟨w1, hw1⟩ : ∃ w1, w.alloc (.cells #[.bool P.big, .int .i64 P.ptr, v1, v2, v3, v4, v5] 33) = w1 := ⟨_, rfl⟩
  rw [hw1] at hb0 hA
  have hE := (h.below hb0).2.2.1
  have hah := form_ahead hF
  obtain ⟨q1, k1, rfl, _⟩ := id h.1
  obtain ⟨q2, k2, rfl, _⟩ := id h.2.1
  obtain ⟨q4, k4, rfl, _⟩ := id h.2.2.2.1
  obtain ⟨q5, k5, rfl, _⟩ := id h.2.2.2.2
  obtain ⟨q3, k3, rfl, hl3, hk3, hc3⟩ := hE
  obtain ⟨eb, eo, rfl, heb, hec⟩ := hc3 (by omega)
  have a4 : w1.cell? ⟨w.heap.size, 4, none⟩ = some (.slice (some ⟨eb, eo, none⟩) P.exs.length k3) := hA.cell 4 rfl
  have hlt1 := hA.lt
  have hud := uses_doc hah hlt
  have hop := fun (i : Nat) (x : EX) (hx : P.exs[i]? = some x) => form_op hF hx
  obtain ⟨nx, hnx⟩ : ∃ nx, nx = P.exs.length := ⟨_, rfl⟩
  rw [← hnx] at a4 hl3 hk3 hlt h120 hud
  have HNX := Lib.hid hnx
  have HEC := Lib.hid hec
  have HAH := Lib.hid hah
  have HOP := Lib.hid hop
  have HB0 := Lib.hid hb0
  have m1 := fun w => mkBool nx (by omega) w
  have hat := At.new w1 (boolA (List.replicate nx false)) 4
  have hx0 := hat.cell e0 (boolA_get (show (List.replicate nx false)[e0]? = some false by rw [List.getElem?_replicate, if_pos hlt]))
  have hf0 := At.free hat e0
  have hne1 : ¬ w.heap.size = w1.heap.size := by omega
  have he3 : (e0 : Int) < (nx : Int) := by omega
  rw [← hnx] at hw1 ⊢
  have cM := fun op w => many_any op w
  obtain ⟨U, hU⟩ : ∃ U, U = usB P.exs (e0 + 1) ((List.replicate nx false).set e0 true) := ⟨_, rfl⟩
  rw [← hU] at hud
  have HUD := Lib.hid hud
  have HU := Lib.hid hU
  clear h hA hb0 hc3 hah hec hnx hop hud hU hF
  go_enter Try.func10, Try.ntmps10
  go_upto_region 3 with (fail)
  clear hw1
  have hA1 : At (w1.alloc (.cells ((boolA (List.replicate nx false)).setIfInBounds e0 (.bool true)) 4)) w1.heap.size (boolA ((List.replicate nx false).set e0 true)) 4 := by
    rw [← boolA_set, Array.set!_eq_setIfInBounds]
    exact At.new _ _ _
  have hb1 := below_box1 w1 (.cells ((boolA (List.replicate nx false)).setIfInBounds e0 (.bool true)) 4)
  obtain ⟨w2, hw2⟩ : ∃ w2, w1.alloc (.cells ((boolA (List.replicate nx false)).setIfInBounds e0 (.bool true)) 4) = w2 := ⟨_, rfl⟩
  rw [hw2] at hA1 hb1
  rw [hw2]
  have H1 : Hid (Rel1r w1 w1.heap.size P.exs nx U (.int .i64 (e0 : Nat)) w2) := Lib.hid ⟨e0 + 1, _, by omega, by rw [show (((e0 + 1 : Nat) : Int) - 1) = (e0 : Int) by omega], by simp, HU.out.symm, hA1, hb1⟩
  clear hw2 hat hx0 hf0 hA1 hb1
  go_wp2
  go_loopw [6] (fun v wr => Rel1r w1 w1.heap.size P.exs nx U v wr) (fun v _ => (intOf v + 1).toNat)
  case atStart => exact H1.out
  case round =>
    obtain ⟨k, u, hk, rfl, hul, hus, hAu, hbr⟩ := hrel
    obtain ⟨wo, hwo⟩ : ∃ wo, wo = wr := ⟨_, rfl⟩
    subst hwo
    cases k with
    | zero =>
      have hus : u = U := hus
      rw [show ((0 : Nat) : Int) - 1 = -1 from rfl]
      have HUU := Lib.hid (And.intro hul hus)
      have HA := Lib.hid hAu
      have HB := Lib.hid hbr
      clear hul hus hAu hbr
      go_wp2
      go_loopw [7, 8] (fun v7 v wr3 => Rel3 w wo u nx v7 v wr3) (fun _ v _ => nx - (intOf v).toNat)
      case atStart => exact ⟨0, Nat.zero_le _, rfl, RowZ.nil _ _, Below.refl _ _⟩
      case round =>
        obtain ⟨wr3, hwr3⟩ : ∃ w', w' = wr := ⟨_, rfl⟩
        subst hwr3
        obtain ⟨i, hi, rfl, hR, hb3⟩ := hrel
        by_cases hlt : i < nx
        · have hj3 : (i : Int) < (nx : Int) := by omega
          obtain ⟨b, hbi⟩ : ∃ b, u[i]? = some b := ⟨_, List.getElem?_eq_getElem (by rw [HUU.out.1]; exact hlt)⟩
          have hbd : u.getD i false = b := by rw [List.getD_eq_getElem?_getD, hbi]; rfl
          have cU := (At.below' hb3 HA.out).cell i (boolA_get hbi)
          obtain ⟨q3, cc, rfl⟩ := hR.form
          have hsucc := placesT_succ u i
          rw [hbd] at hsucc
          have HSU := Lib.hid hsucc
          clear hsucc hbi hbd
          cases b
          · have HR := Lib.hid hR
            clear hR
            go_wp2_with fail
            go_roundw
            case rel => exact ⟨i + 1, by omega, by go_num, by rw [HSU.out]; simpa using HR.out, hb3⟩
            case measure => simp [intOf]; omega
          · obtain ⟨i0, hi0, hz0, hz1, hz2⟩ := info_parts gInt
            have hlen := placesT_len u i
            obtain ⟨m, hm⟩ : ∃ m, m = (placesT u i).length := ⟨_, rfl⟩
            unfold RowZ at hR
            rw [← hm] at hR hlen ⊢
            have hown := hR.alloc (.cells #[.int .i64 (i : Nat)] 3)
            have hbd := hb3.alloc hb3.size (.cells #[.int .i64 (i : Nat)] 3)
            have hm1 : m + 1 ≤ maxLen := by unfold maxLen; omega
            have hm2 : (m + 1) * 8 ≤ 140737488355328 := by omega
            have hsz3 := hb3.size
            have HM := Lib.hid hm
            clear hm hR
            go_wp2_with ((at_builtin; refine wpList_append_lies _ rfl _ _ 23 rfl wo.heap.size 3 i0 _ 1 8 Try.underlying23 hi0 hz0 hz1 hz2 rfl (by decide) (.slice q3 m cc) m ((placesT u i).map fun x => Value.int .i64 x) rfl hown ⟨wr3.heap.size, 0, none⟩ 1 1 [.int .i64 (i : Nat)] rfl rfl (World.news_of_block (cs := #[.int .i64 (i : Nat)]) (t := 3) (fr := (0, 0)) (heap_alloc_new wr3 _)) (by simp [Value.oneCell']) (by omega) hm1 hm2 (by simp; omega) (wr3.heap.size + 1) (by simp) ?_; intro g2 cap2 w3 hown3 hgrow hat hlt3))
            have hR3 : RowZ wo.heap.size (placesT u (i + 1)) (.slice (some ⟨g2, 0, none⟩) (m + 1) cap2) w3 := by
              unfold RowZ
              rw [HSU.out]
              simp only [if_true, List.length_append, List.map_append, List.length_cons, List.length_nil, List.map_cons, List.map_nil]
              rw [← HM.out]
              exact hown3
            have hb4 := hbd.grown hgrow (by simp; omega) (fun j hj => own_geG hown hj)
            clear hown3 hgrow hat hlt3 hown hbd hi0 hz0 hz1 hz2
            go_wp2_with fail
            go_roundw
            case rel => exact ⟨i + 1, by omega, by go_num, hR3, hb4⟩
            case measure => simp [intOf]; omega
        · obtain rfl : i = nx := by omega
          have hpl : placesT u i = usesL (P.exs.take (e0 + 1)) := by rw [← HUD.out, ← HUU.out.2, ← placesT_all, HUU.out.1]
          have hll : (placesT u i).length ≤ i := placesT_len _ _
          have FIN : Hid (RUsesP P e0 w (.returned u7) wr3) := Lib.hid ⟨_, rfl, by rw [← hpl]; exact hR.is (by unfold maxLen; omega), HB0.out.trans ((HB.out.trans (hb3.mono HB.out.size)).mono HB0.out.size)⟩
          obtain ⟨q3, cc, rfl⟩ := hR.form
          clear hR hpl hll
          go_wp2_with fail
          go_ret
          exact FIN.out
    | succ i =>
      rw [show ((i + 1 : Nat) : Int) - 1 = (i : Int) by omega]
      have hin : (i : Int) < (nx : Int) := by omega
      have ei : IntKind.i64.wrap ((i : Int) - 1) = (i : Int) - 1 := by rw [IntKind.wrap_i64]; omega
      obtain ⟨x, hx⟩ : ∃ x, P.exs[i]? = some x := ⟨_, List.getElem?_eq_getElem (by rw [← HNX.out]; omega)⟩
      have hbq : Below w1.heap.size w1 wo := hbr
      obtain ⟨c0, c1, c2, c3, c4⟩ := (QE.below _ _ _ _ _ hbq (HEC.out i x hx)).cells
      have d4 := cell_below a4 hbq
      have hxd : P.exs.getD i default = x := by rw [List.getD_eq_getElem?_getD, hx]; rfl
      have hpar := HAH.out i x hx
      obtain ⟨bi, hbi⟩ : ∃ bi, u[i]? = some bi := ⟨_, List.getElem?_eq_getElem (by rw [hul]; omega)⟩
      have hbd : u.getD i false = bi := by rw [List.getD_eq_getElem?_getD, hbi]; rfl
      have husx : usB P.exs i (marks bi (partsL x) u) = U := by
        have : usB P.exs (i + 1) u = usB P.exs i (marks (u.getD i false) (partsL (P.exs.getD i default)) u) := rfl
        rw [this, hbd, hxd] at hus
        exact hus
      have y1 := hAu.cell i (boolA_get hbi)
      have hpm := parts_many (HOP.out i x hx)
      have hno : bi = false → marks bi (partsL x) u = u := fun hb => by rw [hb]; exact marks_false _ _ (fun p hp => by have := hpar p hp; rw [hul]; omega)
      obtain ⟨xo, xk, xn, xa, xb⟩ := x
      dsimp only at c0 c1 c2 c3 c4 hpm
      have cMx := fun w => cM xo w
      have HBR := Lib.hid hbr
      have HAU := Lib.hid hAu
      have HUL := Lib.hid hul
      have HBI := Lib.hid hbi
      have hneu : ¬ w.heap.size = w1.heap.size := hne1
      have NXT : Hid (∀ (w' : World) (u' : List Bool), marks bi (partsL ⟨xo, xk, xn, xa, xb⟩) u = u' → At w' w1.heap.size (boolA u') 4 → Below w1.heap.size w1 w' → ∀ v, v = .int .i64 ((i : Int) - 1) → Rel1r w1 w1.heap.size P.exs nx U v w') := Lib.hid fun w' u' hm ha hb v hv => ⟨i, u', by omega, hv, by rw [← hm, marks_len, hul], by rw [← hm]; exact husx, ha, hb⟩
      clear hx hxd hus husx hbr hAu hul hbd hbi hbq
      cases bi
      · have hm := hno rfl
        have FIN := Lib.hid (NXT.out wo u hm HAU.out HBR.out)
        clear hno hpm hm c1 c2 c3 c4
        go_wp2_with fail
        go_roundw
        case rel => exact FIN.out _ (by go_num)
        case measure => simp [intOf]
      · clear hno
        rcases hpm with ⟨hm0, hp0⟩ | ⟨hm1, hp1⟩ | ⟨hm2, hp2⟩
        · rw [hm0] at cMx
          have FIN := Lib.hid (NXT.out wo u (by rw [hp0]; rfl) HAU.out HBR.out)
          clear hm0 hp0 c1 c2 c3 c4
          go_wp2_with (go_at_call 29; refine (cMx _).mono ?_; rintro e' w' ⟨rfl, rfl⟩)
          go_roundw
          case rel => exact FIN.out _ (by go_num)
          case measure => simp [intOf]
        · rw [hm1] at cMx
          have hpa := hpar xa (by rw [hp1]; simp)
          obtain ⟨ia, rfl⟩ : ∃ ia : Nat, xa = (ia : Int) := ⟨xa.toNat, by omega⟩
          have hia : ia < nx := by omega
          have hia2 : (ia : Int) < (nx : Int) := by omega
          have hane : ¬ ia = i := by omega
          obtain ⟨ba, hba⟩ : ∃ ba, u[ia]? = some ba := ⟨_, List.getElem?_eq_getElem (by rw [HUL.out]; exact hia)⟩
          have y2 := HAU.out.cell ia (boolA_get hba)
          have y3 := At.free HAU.out ia
          have A2 : At (wo.setCell ⟨w1.heap.size, ia, none⟩ (.bool true)) w1.heap.size (boolA (u.set ia true)) 4 := by rw [← boolA_set]; exact At.set HAU.out ia _ (by rw [boolA_size, HUL.out]; exact hia)
          have B2 := HBR.out.setCell (p := ⟨w1.heap.size, ia, none⟩) (Nat.le_refl _) (.bool true)
          have FIN := Lib.hid (NXT.out _ (u.set ia true) (by rw [hp1]; simp [marks]) A2 B2)
          clear hm1 hp1 A2 B2 hba c1 c2 c4 hpar
          go_wp2_with (go_at_call 29; refine (cMx _).mono ?_; rintro e' w' ⟨rfl, rfl⟩)
          go_roundw
          case rel => exact FIN.out _ (by go_num)
          case measure => simp [intOf]
        · rw [hm2] at cMx
          have hpa := hpar xa (by rw [hp2]; simp)
          have hpb := hpar xb (by rw [hp2]; simp)
          obtain ⟨ia, rfl⟩ : ∃ ia : Nat, xa = (ia : Int) := ⟨xa.toNat, by omega⟩
          obtain ⟨ib, rfl⟩ : ∃ ib : Nat, xb = (ib : Int) := ⟨xb.toNat, by omega⟩
          have hia : ia < nx := by omega
          have hia2 : (ia : Int) < (nx : Int) := by omega
          have hib : ib < nx := by omega
          have hib2 : (ib : Int) < (nx : Int) := by omega
          have hane : ¬ ia = i := by omega
          have hbne : ¬ ib = i := by omega
          obtain ⟨ba, hba⟩ : ∃ ba, u[ia]? = some ba := ⟨_, List.getElem?_eq_getElem (by rw [HUL.out]; exact hia)⟩
          have y2 := HAU.out.cell ia (boolA_get hba)
          have y3 := At.free HAU.out ia
          have A2 : At (wo.setCell ⟨w1.heap.size, ia, none⟩ (.bool true)) w1.heap.size (boolA (u.set ia true)) 4 := by rw [← boolA_set]; exact At.set HAU.out ia _ (by rw [boolA_size, HUL.out]; exact hia)
          have B2 := HBR.out.setCell (p := ⟨w1.heap.size, ia, none⟩) (Nat.le_refl _) (.bool true)
          obtain ⟨bb, hbb⟩ : ∃ bb, (u.set ia true)[ib]? = some bb := ⟨_, List.getElem?_eq_getElem (by rw [List.length_set, HUL.out]; exact hib)⟩
          have y4 := A2.cell ib (boolA_get hbb)
          have y5 := At.free A2 ib
          have A3 : At ((wo.setCell ⟨w1.heap.size, ia, none⟩ (.bool true)).setCell ⟨w1.heap.size, ib, none⟩ (.bool true)) w1.heap.size (boolA ((u.set ia true).set ib true)) 4 := by rw [← boolA_set]; exact At.set A2 ib _ (by rw [boolA_size, List.length_set, HUL.out]; exact hib)
          have B3 := B2.setCell (p := ⟨w1.heap.size, ib, none⟩) (Nat.le_refl _) (.bool true)
          have FIN := Lib.hid (NXT.out _ ((u.set ia true).set ib true) (by rw [hp2]; simp [marks]) A3 B3)
          have HA2 := Lib.hid A2
          have HB2 := Lib.hid B2
          have HHB2 := B2
          clear hm2 hp2 A2 A3 B2 B3 hba hbb c1 c2 hpar
          go_upto_region 8 with (go_at_call 29; refine (cMx _).mono ?_; rintro e' w' ⟨rfl, rfl⟩)
          have z4 : (wo.setCell ⟨w1.heap.size, ia, none⟩ (.bool true)).cell? ⟨w.heap.size, 4, none⟩ = some (.slice (some ⟨eb, eo, none⟩) nx k3) := cell_below a4 HB2.out
          have z0 : (wo.setCell ⟨w1.heap.size, ia, none⟩ (.bool true)).cell? ⟨eb, eo + i * 5, none⟩ = some (.int .i64 xo) := by
            obtain ⟨x, hx⟩ : ∃ x, P.exs[i]? = some x := ⟨_, List.getElem?_eq_getElem (by rw [← HNX.out]; omega)⟩
            have q := (heap_setCell_lt wo w1.heap.size ia eb (.bool true) (Nat.ne_of_lt heb))
            simp only [World.cell?] at c0 ⊢
            rw [q]; exact c0
          have z1 : (wo.setCell ⟨w1.heap.size, ia, none⟩ (.bool true)).cell? ⟨eb, eo + i * 5 + 4, none⟩ = some (.int .i64 (ib : Int)) := by
            have q := (heap_setCell_lt wo w1.heap.size ia eb (.bool true) (Nat.ne_of_lt heb))
            simp only [World.cell?] at c4 ⊢
            rw [q]; exact c4
          have z2 : (wo.setCell ⟨w1.heap.size, ia, none⟩ (.bool true)).cell? ⟨w1.heap.size, i, none⟩ = some (.bool true) := by
            have q : (u.set ia true)[i]? = some true := by
              rw [List.getElem?_set_ne hane]
              exact HBI.out
            exact HA2.out.cell i (boolA_get q)
          generalize wo.setCell ⟨w1.heap.size, ia, none⟩ (.bool true) = wq at *
          clear c0 c3 c4 d4 y1 y2 y3
          go_wp2_with (go_at_call 29; refine (cMx _).mono ?_; rintro e' w' ⟨rfl, rfl⟩)
          go_roundw
          case rel => exact FIN.out _ (by go_num)
          case measure => simp [intOf]
end Go.Proofs.Ytofpfmdbmbfapaa
