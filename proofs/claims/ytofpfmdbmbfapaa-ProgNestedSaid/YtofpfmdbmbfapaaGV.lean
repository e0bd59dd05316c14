/- Package prog: uses. -/
import Derived.Test.YtofpfmdbmbfapaaGU
namespace Go.Proofs.Ytofpfmdbmbfapaa
open Go.ChangeShapes Go.WideShapes Go.ChangeAt Go.RowKit Go.Joins Go.Deep
set_option linter.unusedVariables false

def UsesP (l : List EX) (w : World) (e : Ending) (w' : World) : Prop := ∃ v, e = .returned v ∧ IsIs w' v (usesL l) ∧ Below w.heap.size w w'
def placesT (u : List Bool) (i : Nat) : List Int := ((List.range i).filter fun i => u.getD i false).map fun (i : Nat) => (i : Int)
theorem placesT_all (u : List Bool) : placesT u u.length = placesL u := rfl
theorem placesT_succ (u : List Bool) (i : Nat) : placesT u (i + 1) = placesT u i ++ (if u.getD i false then [(i : Int)] else []) := by
  unfold placesT
  rw [List.range_succ, List.filter_append, List.map_append]
  simp only [List.filter_cons, List.filter_nil]
  cases u.getD i false <;> rfl
theorem placesT_len (u : List Bool) (i : Nat) : (placesT u i).length ≤ i := by
  unfold placesT
  rw [List.length_map]
  exact Nat.le_trans (List.length_filter_le _ _) (by simp)
def Rel1 (w : World) (l : List EX) (n : Nat) (v : Value) (wr : World) : Prop :=
  ∃ (k : Nat) (u : List Bool), k ≤ n ∧ v = .int .i64 ((k : Int) - 1) ∧ u.length = n ∧ usB l k u = usesU l ∧ At wr w.heap.size (boolA u) 4 ∧ Below w.heap.size w wr
def Rel2 (w : World) (b : Bool) (i : Nat) (ps : List Int) (U : List Bool) (n m B : Nat) (v : Value) (wr : World) : Prop :=
  ∃ (j : Nat) (u : List Bool), j ≤ m ∧ v = .int .i64 (j : Nat) ∧ u.length = n ∧ u.getD i false = b ∧ marks b (ps.drop j) u = U ∧ At wr w.heap.size (boolA u) 4 ∧ Below w.heap.size w wr ∧ (0 < m → At wr B (intA ps) 3)
def Rel3 (w w2 : World) (u : List Bool) (n : Nat) (v7 v : Value) (wr : World) : Prop :=
  ∃ i : Nat, i ≤ n ∧ v = .int .i64 (i : Nat) ∧ RowZ w2.heap.size (placesT u i) v7 wr ∧ Below w2.heap.size w2 wr
theorem parts_len (x : EX) : (partsL x).length ≤ 2 := by
  unfold partsL
  split
  · exact Nat.le_refl _
  · split
    · exact Nat.le_succ _
    · exact Nat.zero_le _
theorem drop_consI {l : List Int} {i : Nat} {x : Int} (h : l[i]? = some x) : l.drop i = x :: l.drop (i + 1) := drop_cons' h
set_option maxRecDepth 100000 in
set_option maxHeartbeats 3200000 in
theorem uses_any (q : Option Addr) (n cap : Nat) (l : List EX) (hn : n = l.length) (h0 : 0 < n) (h120 : n ≤ 120) (hA : Ahead l) (w : World) (h : IsEs w (.slice q n cap) l) :
    Calls Try.prog 28 #[.slice q n cap] w (UsesP l w) := by
  obtain ⟨q', cap', hv, hl, hcap, hc⟩ := h
  obtain ⟨hq, hcc⟩ : q = q' ∧ cap = cap' := by injection hv with a b c; exact ⟨a, c⟩
  subst hq hcc
  rw [← hn] at hl hcap hc
  have m1 := fun w => mkBool n (by omega) w
  have e1 : IntKind.i64.wrap ((n : Int) - 1) = (n : Int) - 1 := by rw [IntKind.wrap_i64]; omega
  have e2 : ((n : Int) - 1) = ((n - 1 : Nat) : Int) := by omega
  have HC := Lib.hid (And.intro hn (And.intro hA hc))
  have hat := At.new w (boolA (List.replicate n false)) 4
  have hx0 := hat.cell (n - 1) (boolA_get (show (List.replicate n false)[n - 1]? = some false by rw [List.getElem?_replicate, if_pos (by omega)]))
  have hf0 := At.free hat (n - 1)
  clear hc hn hA hv
  have e3 : IntKind.i64.wrap ((n : Int) - 1) = ((n - 1 : Nat) : Int) := by rw [e1, e2]
  have g1 : ((n - 1 : Nat) : Int) < (n : Int) := by omega
  clear e1 e2
  go_enter Try.func28, Try.ntmps28
  go_upto_region 3 with (fail)
  have hA1 : At (w.alloc (.cells ((boolA (List.replicate n false)).setIfInBounds (n - 1) (.bool true)) 4)) w.heap.size (boolA ((List.replicate n false).set (n - 1) true)) 4 := by
    rw [← boolA_set, Array.set!_eq_setIfInBounds]
    exact At.new _ _ _
  have hb1 := below_box1 w (.cells ((boolA (List.replicate n false)).setIfInBounds (n - 1) (.bool true)) 4)
  obtain ⟨w1, hw1⟩ : ∃ w1, w.alloc (.cells ((boolA (List.replicate n false)).setIfInBounds (n - 1) (.bool true)) 4) = w1 := ⟨_, rfl⟩
  rw [hw1] at hA1 hb1
  rw [hw1]
  have H1 : Hid (Rel1 w l n (.int .i64 ((n - 1 : Nat) : Int)) w1) := Lib.hid ⟨n, _, Nat.le_refl _, by rw [show ((n - 1 : Nat) : Int) = (n : Int) - 1 by omega], by simp, by rw [HC.out.1]; rfl, hA1, hb1⟩
  clear hw1 hat hx0 hf0 hA1 hb1
  go_wp2
  go_loopw [4] (fun v wr => Rel1 w l n v wr) (fun v _ => (intOf v + 1).toNat)
  case atStart => exact H1.out
  case round =>
    obtain ⟨k, u, hk, rfl, hul, hus, hAu, hbr⟩ := hrel
    cases k with
    | zero =>
      have hus : u = usesU l := hus
      rw [show ((0 : Nat) : Int) - 1 = -1 from rfl]
      have HU := Lib.hid (And.intro hul hus)
      have HA := Lib.hid hAu
      have HB := Lib.hid hbr
      clear hul hus hAu hbr
      obtain ⟨wo, hwo⟩ : ∃ wo, wo = wr := ⟨_, rfl⟩
      subst hwo
      go_wp2
      go_loopw [7, 50] (fun v7 v wr3 => Rel3 w wo u n v7 v wr3) (fun _ v _ => n - (intOf v).toNat)
      case atStart => exact ⟨0, Nat.zero_le _, rfl, RowZ.nil _ _, Below.refl _ _⟩
      case round =>
        obtain ⟨wr3, hwr3⟩ : ∃ w', w' = wr := ⟨_, rfl⟩
        subst hwr3
        obtain ⟨i, hi, rfl, hR, hb3⟩ := hrel
        by_cases hlt : i < n
        · have hj3 : (i : Int) < (n : Int) := by omega
          obtain ⟨b, hbi⟩ : ∃ b, u[i]? = some b := ⟨_, List.getElem?_eq_getElem (by rw [HU.out.1]; exact hlt)⟩
          have hbd : u.getD i false = b := by rw [List.getD_eq_getElem?_getD, hbi]; rfl
          have cU := (At.below' hb3 HA.out).cell i (boolA_get hbi)
          obtain ⟨q3, cc, rfl⟩ := hR.form
          have hsucc := placesT_succ u i
          rw [hbd] at hsucc
          have HSU := Lib.hid hsucc
          clear hsucc hbi hbd
          cases b
          · have HR := Lib.hid hR
            clear hR
            go_wp2_with fail
            go_roundw
            case rel => exact ⟨i + 1, by omega, by go_num, by rw [HSU.out]; simpa using HR.out, hb3⟩
            case measure => simp [intOf]; omega
          · obtain ⟨i0, hi0, hz0, hz1, hz2⟩ := info_parts gInt
            have hlen := placesT_len u i
            obtain ⟨m, hm⟩ : ∃ m, m = (placesT u i).length := ⟨_, rfl⟩
            unfold RowZ at hR
            rw [← hm] at hR hlen ⊢
            have hown := hR.alloc (.cells #[.int .i64 (i : Nat)] 3)
            have hbd := hb3.alloc hb3.size (.cells #[.int .i64 (i : Nat)] 3)
            have hm1 : m + 1 ≤ maxLen := by unfold maxLen; omega
            have hm2 : (m + 1) * 8 ≤ 140737488355328 := by omega
            have hsz3 := hb3.size
            have HM := Lib.hid hm
            clear hm hR
            go_wp2_with ((at_builtin; refine wpList_append_lies _ rfl _ _ 23 rfl wo.heap.size 3 i0 _ 1 8 Try.underlying23 hi0 hz0 hz1 hz2 rfl (by decide) (.slice q3 m cc) m ((placesT u i).map fun x => Value.int .i64 x) rfl hown ⟨wr3.heap.size, 0, none⟩ 1 1 [.int .i64 (i : Nat)] rfl rfl (World.news_of_block (cs := #[.int .i64 (i : Nat)]) (t := 3) (fr := (0, 0)) (heap_alloc_new wr3 _)) (by simp [Value.oneCell']) (by omega) hm1 hm2 (by simp; omega) (wr3.heap.size + 1) (by simp) ?_; intro g2 cap2 w3 hown3 hgrow hat hlt3))
            have hR3 : RowZ wo.heap.size (placesT u (i + 1)) (.slice (some ⟨g2, 0, none⟩) (m + 1) cap2) w3 := by
              unfold RowZ
              rw [HSU.out]
              simp only [if_true, List.length_append, List.map_append, List.length_cons, List.length_nil, List.map_cons, List.map_nil]
              rw [← HM.out]
              exact hown3
            have hb4 := hbd.grown hgrow (by simp; omega) (fun j hj => own_geG hown hj)
            clear hown3 hgrow hat hlt3 hown hbd hi0 hz0 hz1 hz2
            go_wp2_with fail
            go_roundw
            case rel => exact ⟨i + 1, by omega, by go_num, hR3, hb4⟩
            case measure => simp [intOf]; omega
        · obtain rfl : i = n := by omega
          have hpl : placesT u i = usesL l := by rw [← HU.out.1]; unfold usesL; rw [← HU.out.2]; rfl
          rw [hpl] at hR
          have hll : (usesL l).length ≤ i := by rw [← hpl]; exact placesT_len _ _
          have FIN : Hid (UsesP l w (.returned u7) wr3) := Lib.hid ⟨_, rfl, hR.is (by unfold maxLen; omega), HB.out.trans (hb3.mono HB.out.size)⟩
          obtain ⟨q3, cc, rfl⟩ := hR.form
          clear hR hpl hll
          go_wp2_with fail
          go_ret
          exact FIN.out
    | succ i =>
      rw [show ((i + 1 : Nat) : Int) - 1 = (i : Int) by omega]
      have hin : (i : Int) < (n : Int) := by omega
      have ei : IntKind.i64.wrap ((i : Int) - 1) = (i : Int) - 1 := by rw [IntKind.wrap_i64]; omega
      obtain ⟨hnl, hAh, hc⟩ := HC.out
      obtain ⟨b, o, rfl, hbs, hcell⟩ := hc h0
      obtain ⟨x, hx⟩ : ∃ x, l[i]? = some x := ⟨_, List.getElem?_eq_getElem (by rw [← hnl]; omega)⟩
      obtain ⟨c0, c1, c2, c3, c4⟩ := (QE.below _ _ _ _ _ hbr (hcell i x hx)).cells
      have hxd : l.getD i default = x := by rw [List.getD_eq_getElem?_getD, hx]; rfl
      have hpar := hAh i x hx
      obtain ⟨bi, hbi⟩ : ∃ bi, u[i]? = some bi := ⟨_, List.getElem?_eq_getElem (by rw [hul]; omega)⟩
      have hbd : u.getD i false = bi := by rw [List.getD_eq_getElem?_getD, hbi]; rfl
      have husx : usB l i (marks bi (partsL x) u) = usesU l := by
        have : usB l (i + 1) u = usB l i (marks (u.getD i false) (partsL (l.getD i default)) u) := rfl
        rw [this, hbd, hxd] at hus
        exact hus
      have HUS := Lib.hid husx
      have HPAR := Lib.hid hpar
      obtain ⟨xo, xk, xn, xa, xb⟩ := x
      have cP := fun w => parts_any xo xk xn xa xb w
      unfold PartsP at cP
      have HP2 := Lib.hid (parts_len ⟨xo, xk, xn, xa, xb⟩)
      generalize partsL ⟨xo, xk, xn, xa, xb⟩ = ps at *
      have HAU := Lib.hid hAu
      have HBR := Lib.hid hbr
      have HUL := Lib.hid (And.intro hul hbd)
      dsimp only at c0 c1 c2 c3 c4
      clear hcell hc hx hxd hpar husx hus hAu hbr hul hbd hbi hnl hAh
      obtain ⟨wo, hwo⟩ : ∃ wo, wo = wr := ⟨_, rfl⟩
      subst hwo
      obtain ⟨m, hm⟩ : ∃ m, m = ps.length := ⟨_, rfl⟩
      rw [← hm] at cP
      have HPM := Lib.hid hm
      have hm2 : m ≤ 2 := by rw [hm]; exact HP2.out
      clear hm
      go_wp2_with (go_at_call 47; refine (cP _).mono ?_; rintro e w2 ⟨pq, B, rfl, hps, hb2⟩)
      have hA2 := At.below' hb2 HAU.out
      have hB2 := HBR.out.trans (hb2.mono HBR.out.size)
      have HPS : Hid (0 < m → pq = some ⟨B, 0, none⟩ ∧ B ≠ w.heap.size) := Lib.hid fun h => ⟨(hps h).1, by have h1 := (hps h).2.1; have h2 := HAU.out.lt; omega⟩
      have H2 : Hid (Rel2 w bi i ps (marks bi ps u) n m B (.int .i64 0) w2) := Lib.hid ⟨0, u, Nat.zero_le _, rfl, HUL.out.1, HUL.out.2, rfl, hA2, hB2, fun h => (hps h).2.2⟩
      clear hA2 hB2 hb2 c0 c1 c2 c3 c4 hps
      go_loopw [30] (fun v wr2 => Rel2 w bi i ps (marks bi ps u) n m B v wr2) (fun v _ => m - (intOf v).toNat)
      case atStart => exact H2.out
      case round =>
        obtain ⟨j, u2, hj, rfl, hul2, hui2, hmk, hA3, hB3, hP3⟩ := hrel
        by_cases hlt : j < m
        · have hj3 : (j : Int) < (m : Int) := by omega
          obtain ⟨hpq, hBn⟩ := HPS.out (by omega)
          subst hpq
          obtain ⟨p, hp⟩ : ∃ p, ps[j]? = some p := ⟨_, List.getElem?_eq_getElem (by rw [← HPM.out]; exact hlt)⟩
          have cp : wr.cell? ⟨B, j, none⟩ = some (.int .i64 p) := (hP3 (by omega)).cell j (intA_get hp)
          have hpr := HPAR.out p (List.mem_of_getElem? hp)
          obtain ⟨pn, rfl⟩ : ∃ pn : Nat, p = (pn : Int) := ⟨p.toNat, by omega⟩
          have hpn : pn < n := by omega
          have hpn2 : (pn : Int) < (n : Int) := by omega
          obtain ⟨bp, hbp⟩ : ∃ bp, u2[pn]? = some bp := ⟨_, List.getElem?_eq_getElem (by rw [hul2]; exact hpn)⟩
          obtain ⟨bq, hbq⟩ : ∃ bq, u2[i]? = some bq := ⟨_, List.getElem?_eq_getElem (by rw [hul2]; omega)⟩
          have hbq2 : bq = bi := by rw [← hui2, List.getD_eq_getElem?_getD, hbq]; rfl
          subst hbq2
          have hbpd : u2.getD pn false = bp := by rw [List.getD_eq_getElem?_getD, hbp]; rfl
          have d1 := hA3.cell pn (boolA_get hbp)
          have d2 := hA3.cell i (boolA_get hbq)
          have d3 := At.free hA3 pn
          have NX : Hid (∀ v, v = .int .i64 ((j + 1 : Nat) : Int) → Rel2 w bq i ps (marks bq ps u) n m B v (wr.setCell ⟨w.heap.size, pn, none⟩ (.bool (bp || bq)))) := Lib.hid (fun v hv => by
            refine ⟨j + 1, u2.set pn (bp || bq), by omega, hv, by simpa using hul2, ?_, ?_, ?_, hB3.setCell (p := ⟨w.heap.size, pn, none⟩) (Nat.le_refl _) _, fun h => (heap_setCell_lt wr w.heap.size pn B _ hBn).trans (hP3 h)⟩
            · rw [getD_set, if_neg (fun hh => by have := hh.1; omega)]
              exact hui2
            · rw [← hmk, drop_cons' hp]
              have : marks bq ((pn : Int) :: ps.drop (j + 1)) u2 = marks bq (ps.drop (j + 1)) (u2.set (pn : Int).toNat (u2.getD (pn : Int).toNat false || bq)) := rfl
              rw [this, Int.toNat_natCast, hbpd]
            · rw [← boolA_set]
              exact At.set hA3 pn _ (by rw [boolA_size, hul2]; exact hpn))
          clear hP3 hA3 hB3 hmk hbp hbq hbpd hp hpr hul2 hui2
          cases bp
          · go_wp2
            go_roundw
            case rel => exact NX.out _ (by go_num)
            case measure => simp [intOf]; omega
          · go_wp2
            go_roundw
            case rel => exact NX.out _ (by go_num)
            case measure => simp [intOf]; omega
        · obtain rfl : j = m := by omega
          have NX : Hid (Rel1 w l n (.int .i64 ((i : Int) - 1)) wr) := Lib.hid ⟨i, u2, by omega, rfl, hul2, by
            rw [HPM.out, List.drop_length] at hmk
            rw [show u2 = marks bi ps u from hmk]
            exact HUS.out, hA3, hB3⟩
          clear hmk hA3 hB3 hP3
          go_wp2
          go_roundw
          case rel => exact NX.out
          case measure => simp [intOf]
end Go.Proofs.Ytofpfmdbmbfapaa
