/- TreeParses: the statement's walk. -/
import Derived.Test.YtkhklndmbfbnoaaGreatDoorTDeep
import Derived.Test.YtkhklndmbfbnoaaGreatDoorTHeavy
import Derived.Test.YtkhklndmbfbnoaaGreatDoorTWith
import Derived.Deep.CutBlock
namespace Go.Proofs.YtkhklndmbfbnoaaGreatDoor
open Go.ChangeShapes Go.WideShapes Go.ChangeAt Go.RowKit Go.Joins Go.Deep
set_option linter.unusedVariables false

theorem sz_cut (t : ByteArray) (a b : Nat) : (t.extract a b).size ≤ t.size := by rw [ByteArray.size_extract]; omega
theorem lit8 (r : Nat) (h : r < 8) : ∃ u : ByteArray, #[Value.string ⟨#[40]⟩, .string ⟨#[41]⟩, .string ⟨#[59]⟩, .string ⟨#[97]⟩, .string ⟨#[49, 58, 117, 56]⟩, .string ⟨#[123]⟩, .string ⟨#[125]⟩, .string ⟨#[42, 117, 56, 40, 97, 41]⟩][r]? = some (Value.string u) ∧ u.size ≤ 10 := by
  match r, h with
  | 0, _ => exact ⟨_, rfl, by decide⟩
  | 1, _ => exact ⟨_, rfl, by decide⟩
  | 2, _ => exact ⟨_, rfl, by decide⟩
  | 3, _ => exact ⟨_, rfl, by decide⟩
  | 4, _ => exact ⟨_, rfl, by decide⟩
  | 5, _ => exact ⟨_, rfl, by decide⟩
  | 6, _ => exact ⟨_, rfl, by decide⟩
  | 7, _ => exact ⟨_, rfl, by decide⟩
  | n + 8, h => omega
/-- texts of the call's own -/
def OwnT (w : World) (base : Nat) (V : Value) (L : List ByteArray) : Prop := w.ownsRow base 9 1 V L.length (L.map Value.string) ∧ ∀ s ∈ L, s.size ≤ 100000
theorem OwnT.below {w w' : World} {base : Nat} {V : Value} {L : List ByteArray} (h : OwnT w base V L) (hb : Below w.heap.size w w') : OwnT w' base V L := ⟨ownsRow_belowT h.1 hb, h.2⟩
theorem NRow.below9 {F : Nat → Prop} {w w' : World} {base : Nat} {nv : Value} {X : List NX} (h : NRow F w base nv X) (hb : Below w.heap.size w w') : NRow F w' base nv X := ⟨ownsRow_belowT h.1 hb, fun x hx => (h.2 x hx).below hb⟩
theorem OwnT.cell {w : World} {base gv mm cv : Nat} {L : List ByteArray} (h : OwnT w base (.slice (some ⟨gv, 0, none⟩) mm cv) L) {i : Nat} (hi : i < L.length) : w.cell? ⟨gv, i, none⟩ = some (.string (L.getD i ⟨#[]⟩)) ∧ gv < w.heap.size := by
  obtain ⟨hl, ⟨h0, _⟩ | ⟨k, cap, cur, he, hbb, hg, hn, hm, hc, hx⟩⟩ := h.1
  · cases h0
  · cases he
    have h9 : (L.map Value.string)[i]? = some (.string (L.getD i ⟨#[]⟩)) := by rw [List.getElem?_map, List.getD_eq_getElem?_getD, List.getElem?_eq_getElem hi]; rfl
    rw [← hx, List.getElem?_take, if_pos (by omega)] at h9
    refine ⟨At.cell hg i (by simpa using h9), At.lt hg⟩
def RelP1 (w1 : World) (v : Value) (wr : World) : Prop := ∃ i : Nat, i ≤ 6 ∧ v = .int .i64 (i : Nat) ∧ Below w1.heap.size w1 wr
/-- the words, apart from the texts -/
def TokF (w : World) (qW : Option Addr) (Wd : List (Tx × Nat)) (V : Value) : Prop := ∀ j, j < Wd.length → ∃ g, qW = some ⟨g, 0, none⟩ ∧ V.ownBlock ≠ some g ∧ g < w.heap.size ∧ w.cell? ⟨g, j * 2, none⟩ = some (txV (Wd.getD j tk0).1) ∧ w.cell? ⟨g, j * 2 + 1, none⟩ = some (.int .i64 ((Wd.getD j tk0).2 : Nat))
theorem TokF.below {w w' : World} {qW : Option Addr} {Wd : List (Tx × Nat)} {V : Value} (h : TokF w qW Wd V) (hb : Below w.heap.size w w') : TokF w' qW Wd V := fun j hj => by
  obtain ⟨g, a, b, c, d, e⟩ := h j hj
  exact ⟨g, a, b, by have := hb.size; omega, cell_below d hb, cell_below e hb⟩
theorem TokF.push {w w8 : World} {qW : Option Addr} {Wd : List (Tx × Nat)} {V : Value} {k m c : Nat} (h : TokF w qW Wd V) (hg : w.grownBy w8 V.ownBlock) (hat : V.ownBlock = some k ∨ k = w.heap.size) : TokF w8 qW Wd (.slice (some ⟨k, 0, none⟩) m c) := fun j hj => by
  obtain ⟨g, a, b, c1, d, e⟩ := h j hj
  have hblk := hg.block g c1 (fun h => b h.symm)
  refine ⟨g, a, fun h9 => ?_, by have := hg.size; omega, ?_, ?_⟩
  · have h10 : k = g := by simpa [Value.ownBlock] using h9
    subst h10
    rcases hat with h11 | h11
    · exact b h11
    · omega
  · rw [← d]; unfold World.cell?; rw [hblk]
  · rw [← e]; unfold World.cell?; rw [hblk]
def RelP2 (base : Nat) (qW : Option Addr) (Wd : List (Tx × Nat)) (wz : World) (v v4 : Value) (wr : World) : Prop := ∃ (k : Nat) (L : List ByteArray), k ≤ 12 ∧ v = .int .i64 (k : Nat) ∧ OwnT wr base v4 L ∧ L.length ≤ k + 1 ∧ Below base wz wr ∧ TokF wr qW Wd v4 ∧ 0 < L.length
def RelP3 (wz : World) (v : Value) (wr : World) : Prop := ∃ i : Nat, i ≤ 13 ∧ v = .int .i64 (i : Nat) ∧ Below wz.heap.size wz wr
set_option maxRecDepth 1000000 in
set_option maxHeartbeats 6400000 in
theorem treeParses_any (pS pN pT : Option Addr) (lS cS lN cN lT cT : Nat) (zs : List ByteArray) (hlS : lS ≤ 140737488355328) (hlN : lN ≤ 140737488355328) (w0 : World) (hI : InTxts w0 pS lS zs) (hIT : InRs w0 pT lT) (htab : Tab w0) :
    Calls Tryz.prog 3 #[.agg #[.slice pS lS cS, .slice pN lN cN, .slice pT lT cT]] w0 fun e w' => e = .returned (.bool true) ∧ Below w0.heap.size w0 w' := by
  have cP := fun (t : ByteArray) (ht : t.size ≤ 100000) w => parse_any t (by unfold maxLen; omega) w
  have cR := fun (t : ByteArray) (ht : t.size ≤ 100000) w => rparse_any t (by omega) w
  have cM := fun n w => num11_any n w
  unfold PPost at cP cR
  have hb1 : Below w0.heap.size w0 (w0.alloc (.cells #[.slice pS lS cS, .slice pN lN cN, .slice pT lT cT] 28)) := boxT w0 _
  have hA := At.new w0 #[.slice pS lS cS, .slice pN lN cN, .slice pT lT cT] 28
  obtain ⟨w, hw⟩ : ∃ w, w0.alloc (.cells #[.slice pS lS cS, .slice pN lN cN, .slice pT lT cT] 28) = w := ⟨_, rfl⟩
  rw [hw] at hb1 hA
  have cH := heavy11_any pS pN pT lS cS lN cN lT cT zs hlS hlN w (hI.below hb1) (hIT.below hb1)
  unfold Heavy11P at cH
  have HB := Lib.hid (And.intro hb1 (And.intro (htab.below hb1) (hI.below hb1)))
  have d0 : w.cell? ⟨w0.heap.size, 0, none⟩ = some (.slice pS lS cS) := hA.cell 0 rfl
  have d1 : w.cell? ⟨w0.heap.size, 1, none⟩ = some (.slice pN lN cN) := hA.cell 1 rfl
  have d2 : w.cell? ⟨w0.heap.size, 2, none⟩ = some (.slice pT lT cT) := hA.cell 2 rfl
  clear hb1 hI hIT htab
  go_enter Tryz.func3, Tryz.ntmps3
  go_upto_region 1 with (fail)
  clear hw
  generalize hBx : w0.heap.size = B at *
  have HBx := Lib.hid hBx
  have HA := Lib.hid hA
  clear hBx hA
  go_wp2_with fail
  refine cH.mono ?_
  rintro e w1 ⟨hv, rfl, hs, hb1⟩
  clear cH
  cases hv
  case true =>
    have FIN : Hid (Below w0.heap.size w0 w1) := Lib.hid (by have h1 : Below B w0 w := HB.out.1; rw [HBx.out]; exact h1.trans (hb1.mono (by rw [← HBx.out]; exact h1.size)))
    clear hs hb1
    go_wp2_with fail
    go_ret
    exact ⟨rfl, FIN.out⟩
  case false =>
    obtain ⟨hS7, hs7⟩ := hs rfl
    have c0 := cell_below d0 hb1
    have c1 := cell_below d1 hb1
    have HB1 := Lib.hid hb1
    have HS := Lib.hid hs7
    have hA1 := At.below' hb1 HA.out
    clear hs hb1 d0 d1 d2 hs7
    go_wp2_with fail
    go_loopw [3] (fun v wr => RelP1 w1 v wr) (fun v _ => 6 - (intOf v).toNat)
    case atStart => exact ⟨0, by omega, rfl, Below.refl _ _⟩
    case round =>
      obtain ⟨i, hi, rfl, hbr⟩ := hrel
      have e0 := cell_below c0 hbr
      have e1 := cell_below c1 hbr
      by_cases hgo : i < lS ∧ i < 6
      · obtain ⟨hlt, h6⟩ := hgo
        have hj3 : (i : Int) < (lS : Int) := by omega
        have hj4 : (i : Int) < 6 := by omega
        have hb01 : Below w.heap.size w wr := HB1.out.trans (hbr.mono HB1.out.size)
        have hIr := HB.out.2.2.below hb01
        obtain ⟨bS, oS, rfl, hbS, hcS⟩ := hIr.2.2 (by omega)
        obtain ⟨t, ht⟩ : ∃ t, t = zs.getD i bz := ⟨_, rfl⟩
        have htz : t.size ≤ 7000 := by rw [ht]; exact HS.out i
        have HWL := tellW_len t.data.toList
        have s0 := hcS i hlt
        rw [← ht] at s0
        have cW := fun w => rWords_any t (by omega) w
        unfold RWordsPost at cW
        have HBR := Lib.hid (And.intro hbr hb01)
        clear hcS hIr ht hbr hb01
        go_upto_region 7 with (fail)
        have hbz := boxT wr (.cells #[.string t] 9)
        have hown : OwnT (wr.alloc (.cells #[.string t] 9)) wr.heap.size (.slice (some ⟨wr.heap.size, 0, none⟩) 1 1) [t] := ⟨ownsRow_lit wr wr.heap.size 9 1 1 #[.string t] (Nat.le_refl _) rfl (by decide), fun s hs => by obtain rfl := List.mem_singleton.1 hs; omega⟩
        have e0z := cell_below e0 hbz
        have e1z := cell_below e1 hbz
        have s0z := cell_below s0 hbz
        have HE0 := Lib.hid e0
        clear e0 e1 s0
        obtain ⟨wz, hwz⟩ : ∃ wz, wr.alloc (.cells #[.string t] 9) = wz := ⟨_, rfl⟩
        rw [hwz] at hbz hown e0z e1z s0z ⊢
        have hwz0 := hwz
        clear hwz
        have hzlt : wr.heap.size < wz.heap.size := by rw [← hwz0]; show _ < (wr.heap.push _).size; simp
        have HBZ := Lib.hid hbz
        have hBb : B < wr.heap.size := by have := World.block_lt_of_cell? wr _ HE0.out; exact this
        generalize hbase : wr.heap.size = base at *
        have HBASE := Lib.hid hbase
        clear hbz hbase HE0 hwz0
        have hj3 : (i : Int) < (lS : Int) := by omega
        go_wp2_with fail
        refine (cW _).mono ?_
        rintro e w2 ⟨fd, rfl, hT, hb2⟩
        clear cW
        have hpos := tellW_pos t.data.toList
        generalize (tellW t.data.toList).1 = Wd at *
        generalize (tellW t.data.toList).2.1 = wpl at *
        generalize (tellW t.data.toList).2.2 = wer at *
        have hWn : Wd.length ≤ 2001 := HWL
        obtain ⟨qW, capW, rfl, _, hcW⟩ := hT.toks (by omega)
        have hown2 := hown.below hb2
        have e0w := cell_below e0z hb2
        have e1w := cell_below e1z hb2
        have s0w := cell_below s0z hb2
        obtain ⟨nW, hnW⟩ : ∃ nW, nW = Wd.length := ⟨_, rfl⟩
        rw [← hnW] at hcW hWn ⊢
        have HW := Lib.hid (And.intro hnW hpos)
        have HB2 := Lib.hid hb2
        have htl : t.data.toList.length = t.size := len_text t
        have hTF : TokF w2 qW Wd (.slice (some ⟨base, 0, none⟩) 1 1) := fun j hj => by
          obtain ⟨hlen, ⟨h91, h92⟩ | ⟨g9, cap9, cur9, h93, hbb9, _⟩⟩ := hT
          · omega
          · obtain ⟨g, e1, e2, e3, e4⟩ := hcW (by omega)
            obtain ⟨c1, c2⟩ := e4 j (by omega)
            refine ⟨g, e1, fun h => ?_, e2, c1, c2⟩
            have h94 : g = base := by simpa [Value.ownBlock] using h.symm
            have hzs : base < wz.heap.size := by have := HBZ.out.size; have h95 := hzlt; omega
            rw [e1] at h93
            injection h93 with h96
            injection h96 with h96
            injection h96 with h96
            omega
        have HTF := Lib.hid hTF
        clear hTF hcW
        clear hT hown e0z e1z s0z hb2 hnW hpos
        go_wp2_with fail
        go_loopw [8, 4] (fun v v4 wx => RelP2 base qW Wd w2 v v4 wx) (fun v _ _ => 12 - (intOf v).toNat)
        case atStart => exact ⟨0, [t], by omega, rfl, hown2, Nat.le_refl _, Below.refl _ _, HTF.out, by show 0 < 1; decide⟩
        case round =>
          obtain ⟨k, L, hk, rfl, hO, hL, hbk, hTF, hL0⟩ := hrel
          obtain ⟨mm, hmm⟩ : ∃ mm, mm = L.length := ⟨_, rfl⟩
          obtain ⟨gv, cv, rfl⟩ : ∃ gv cv, u4 = .slice (some ⟨gv, 0, none⟩) mm cv := by
            rcases hO.1.2 with ⟨_, h0⟩ | ⟨gg, cap, cur, h9, _⟩
            · omega
            · exact ⟨gg, cap, by rw [h9, hmm]⟩
          have k0 := (hbk.cell (p := ⟨B, 0, none⟩) hBb).trans e0w
          have k1 := (hbk.cell (p := ⟨B, 1, none⟩) hBb).trans e1w
          have ks := (hbk.cell (p := ⟨bS, oS + i, none⟩) hbS).trans s0w
          have HMM := Lib.hid hmm
          by_cases hgo : k < 12 ∧ 0 < nW
          · obtain ⟨hk12, hn0⟩ := hgo
            have hj5 : (k : Int) < 12 := by omega
            have hj6 : (0 : Int) < (nW : Int) := by omega
            have hkm : k * nW ≤ 24012 := by have : k * nW ≤ 12 * 2001 := Nat.mul_le_mul (by omega) (by omega); omega
            have hkm2 : (0 : Int) ≤ (k : Int) * (nW : Int) ∧ (k : Int) * (nW : Int) ≤ 24012 := by
              rw [← Int.natCast_mul]; omega
            have hq1 : (0 : Int) ≤ (k : Int) * (nW : Int) := hkm2.1
            have hq2 : (k : Int) * (nW : Int) ≤ 24012 := hkm2.2
            have cI := fun x hx w => within1_any x hx nW hn0 (by omega) w
            have HK := Lib.hid (And.intro hO (And.intro hL (And.intro hbk (And.intro hTF hL0))))
            clear hO hL hbk hTF hL0 hkm hkm2 hmm hlt h6
            go_wp2_with fail
            refine (cI _ (by constructor <;> omega) _).mono ?_
            rintro e w3 ⟨⟨ja, hja, rfl⟩, rfl⟩
            have haW : ja < Wd.length := by rw [← HW.out.1]; exact hja
            obtain ⟨g, rfl, hgo, hgl, hg1, hg2⟩ := HK.out.2.2.2.1 ja haW
            have hps := HW.out.2 (Wd.getD ja tk0) (by rw [List.getD_eq_getElem?_getD, List.getElem?_eq_getElem haW]; exact List.getElem_mem haW)
            rw [htl] at hps
            generalize hwd : (Wd.getD ja tk0).1 = wd at *
            generalize hwa : (Wd.getD ja tk0).2 = wa at *
            have hj7 : (ja : Int) < (nW : Int) := by omega
            have hwl : (wd.toArray).size = wd.length := List.size_toArray
            clear hwd hwa cI
            obtain ⟨tO, htO⟩ : ∃ tO, tO = wa + wd.length := ⟨_, rfl⟩
            have eT : (wa : Int) + (wd.length : Int) = (tO : Int) := by omega
            have hfT : wa ≤ tO := by omega
            have htS : tO ≤ t.size := by rw [htO]; exact hps.1
            have htS2 : t.size ≤ 2000 := hps.2
            have hwdl : wd.length ≤ 2000 := by omega
            have HWA := Lib.hid (And.intro hgo hgl)
            clear htO hps hgo hgl
            go_upto_region 12 with (fail)
            go_quiet (fail)
            have k0q : (wr.drewN nq).cell? ⟨B, 0, none⟩ = some (.slice (some ⟨bS, oS, none⟩) lS cS) := k0
            have ksq : (wr.drewN nq).cell? ⟨bS, oS + i, none⟩ = some (.string t) := ks
            have hgq : (wr.drewN nq).cell? ⟨g, ja * 2, none⟩ = some (txV wd) := hg1
            have hbq : Below wr.heap.size wr (wr.drewN nq) := Joins.below_draws _ _ _
            have HBQ := Lib.hid hbq
            clear k0 k1 ks hg1 hg2 hbq
            generalize wr.drewN nq = wq at *
            go_upto_block 4 with (fail)
            clear k0q ksq
            go_cut [12] from 52 to 149 (fun v wx => ∃ s : ByteArray, v = .string s ∧ s.size ≤ 100000 ∧ Below wq.heap.size wq wx)
            case first =>
              have hfS : (wa : Int) ≤ (t.size : Int) := by omega
              have htS3 : (tO : Int) ≤ (t.size : Int) := by omega
              have hf0 : (0 : Int) ≤ (wa : Int) := by omega
              have ht0 : (0 : Int) ≤ (tO : Int) := by omega
              have hr : k % 4 = 0 ∨ k % 4 = 1 ∨ k % 4 = 2 ∨ k % 4 = 3 := by omega
              rcases hr with hr | hr | hr | hr
              · have t1 : Int.tmod (k : Int) 4 = 0 := by rw [Int.tmod_eq_emod_of_nonneg (by omega)]; omega
                have t2 : (k : Int) % 4 = 0 := by omega
                clear hr
                go_upto_region 17 with (fail)
                go_quiet (fail)
                go_wp2_with fail
                go_meet
                exact ⟨_, rfl, by have := sz_cut t 0 wa; have := sz_cut t tO t.size; rw [sz_app, sz_app]; show _ + 1 + _ ≤ _; omega, Joins.below_draws _ _ _⟩
              · have t1 : Int.tmod (k : Int) 4 = 1 := by rw [Int.tmod_eq_emod_of_nonneg (by omega)]; omega
                have t2 : (k : Int) % 4 = 1 := by omega
                clear hr
                go_upto_region 19 with (fail)
                go_quiet (fail)
                go_wp2_with fail
                go_meet
                exact ⟨_, rfl, by have := sz_cut t 0 tO; have := sz_cut t tO t.size; rw [sz_app, sz_app, sz_app, sz_app]; show _ + 1 + (wd.toArray).size + 1 + _ ≤ _; omega, Joins.below_draws _ _ _⟩
              · have t1 : Int.tmod (k : Int) 4 = 2 := by rw [Int.tmod_eq_emod_of_nonneg (by omega)]; omega
                have t2 : (k : Int) % 4 = 2 := by omega
                clear hr
                go_upto_region 21 with (fail)
                obtain ⟨r8, hr8⟩ : ∃ r8, r8 = (k + i) % 8 := ⟨_, rfl⟩
                have u1 : Int.tmod ((k : Int) + (i : Int)) 8 = (r8 : Int) := by rw [Int.tmod_eq_emod_of_nonneg (by omega)]; omega
                have u2 : ((k : Int) + (i : Int)) % 8 = (r8 : Int) := by omega
                have h8 : r8 < 8 := by omega
                have h8i : (r8 : Int) < 8 := by omega
                obtain ⟨u, hu, huz⟩ : ∃ u : ByteArray, #[Value.string ⟨#[40]⟩, .string ⟨#[41]⟩, .string ⟨#[59]⟩, .string ⟨#[97]⟩, .string ⟨#[49, 58, 117, 56]⟩, .string ⟨#[123]⟩, .string ⟨#[125]⟩, .string ⟨#[42, 117, 56, 40, 97, 41]⟩][r8]? = some (Value.string u) ∧ u.size ≤ 10 := lit8 r8 h8
                have cA : (wq.alloc (.cells #[.string ⟨#[40]⟩, .string ⟨#[41]⟩, .string ⟨#[59]⟩, .string ⟨#[97]⟩, .string ⟨#[49, 58, 117, 56]⟩, .string ⟨#[123]⟩, .string ⟨#[125]⟩, .string ⟨#[42, 117, 56, 40, 97, 41]⟩] 9)).cell? ⟨wq.heap.size, r8, none⟩ = some (.string u) := (At.new wq _ _).cell r8 hu
                have hbA := boxT wq (.cells #[.string ⟨#[40]⟩, .string ⟨#[41]⟩, .string ⟨#[59]⟩, .string ⟨#[97]⟩, .string ⟨#[49, 58, 117, 56]⟩, .string ⟨#[123]⟩, .string ⟨#[125]⟩, .string ⟨#[42, 117, 56, 40, 97, 41]⟩] 9)
                have hbAd := hbA.drew
                have HBA := Lib.hid (And.intro hbA hbAd)
                clear hr8 hbA hbAd hu
                go_region
                all_goals
                  go_wp2_with fail
                  go_meet
                  exact ⟨_, rfl, by have := sz_cut t 0 wa; have := sz_cut t tO t.size; rw [sz_app, sz_app]; omega, by first | exact HBA.out.1 | exact HBA.out.2⟩
              · have t1 : Int.tmod (k : Int) 4 = 3 := by rw [Int.tmod_eq_emod_of_nonneg (by omega)]; omega
                have t2 : (k : Int) % 4 = 3 := by omega
                clear hr
                go_upto_region 15 with (fail)
                go_wp2_with fail
                go_meet
                exact ⟨_, rfl, by have := sz_cut t 0 tO; omega, Below.refl _ _⟩
            case rest =>
              obtain ⟨sN, rfl, hsN, hbx⟩ := hcut
              have hbrc : Below wr.heap.size wr wc := HBQ.out.trans (hbx.mono HBQ.out.size)
              have hOc := HK.out.1.below hbrc
              have hTc := HK.out.2.2.2.1.below hbrc
              have hr1 := hOc.1
              rw [← HMM.out] at hr1
              have hbs : base ≤ wr.heap.size := by have h9 := HK.out.2.2.1.size; have := HB2.out.size; have := HBZ.out.size; omega
              have hbsc : base ≤ wc.heap.size := by have := hbrc.size; omega
              obtain ⟨i0, hi0, hz0, hz1, hz2⟩ := info_parts info_str
              have hmm13 : mm ≤ 13 := by have := HK.out.2.1; have := HMM.out; omega
              have hm1 : mm + 1 ≤ maxLen := by unfold maxLen; omega
              have hm2 : (mm + 1) * 16 ≤ 140737488355328 := by omega
              have hownP := ownsRow_belowT hr1 (boxT wc (.cells #[.string sN] 9))
              have hszP : base ≤ (wc.alloc (.cells #[.string sN] 9)).heap.size := by show _ ≤ (wc.heap.push _).size; simp; omega
              have hTa := hTc.below (boxT wc (.cells #[.string sN] 9))
              have HC9 := Lib.hid (And.intro hOc.2 (And.intro hTa (And.intro hbrc (And.intro hbs hbsc))))
              clear hOc hTc hTa hbrc hr1 hbx cR
              go_wp2_with (at_builtin; refine wpList_append_lies _ rfl _ _ 22 rfl base 9 i0 _ 1 16 Tryz.underlying22 hi0 hz0 hz1 hz2 rfl (by decide) (.slice (some ⟨gv, 0, none⟩) mm cv) mm (L.map Value.string) rfl hownP ⟨wc.heap.size, 0, none⟩ 1 1 [.string sN] rfl rfl (World.news_of_block (cs := #[.string sN]) (t := 9) (fr := (0, 0)) (heap_alloc_new wc _)) (by simp [Value.oneCell']) (by omega) hm1 hm2 hszP _ rfl ?_; intro k8 cap8 w8 hown3 hgrow hat hlt3)
              have hbg : Below base w2 w8 := by
                have h1 := HK.out.2.2.1
                have h2 : Below base w2 wc := h1.trans (HC9.out.2.2.1.mono HC9.out.2.2.2.1)
                have h3 : Below base w2 (wc.alloc (.cells #[.string sN] 9)) := h2.alloc HC9.out.2.2.2.2 _
                exact h3.grown hgrow (by have := h3.size; have := HB2.out.size; have := HBZ.out.size; omega) (fun j hj => own_geT hownP hj)
              have hO8 : OwnT w8 base (.slice (some ⟨k8, 0, none⟩) (mm + 1) cap8) (L ++ [sN]) := by
                refine ⟨?_, fun s hs => ?_⟩
                · rw [List.length_append, List.map_append, ← HMM.out]; exact hown3
                · rcases List.mem_append.1 hs with h | h
                  · exact HC9.out.1 s h
                  · obtain rfl := List.mem_singleton.1 h; exact hsN
              have H8 := Lib.hid (And.intro hO8 (And.intro hbg (HC9.out.2.1.push (m := mm + 1) (c := cap8) hgrow hat)))
              clear hO8 hbg hown3 hgrow hat hlt3 hownP hszP hi0 hz0 hz1 hz2
              go_wp2_with fail
              go_roundw
              case rel => exact ⟨k + 1, L ++ [sN], by omega, by go_num, H8.out.1, by rw [List.length_append]; have := HK.out.2.1; show _ + 1 ≤ _; omega, H8.out.2.1, H8.out.2.2, by rw [List.length_append]; show 0 < _ + 1; omega⟩
              case measure => simp [intOf]; omega
          · have hgo2 : ¬ (k : Int) < 12 ∨ ¬ (0 : Int) < (nW : Int) := by
              by_cases h12 : k < 12
              · exact Or.inr (fun h => hgo ⟨h12, by omega⟩)
              · exact Or.inl (by omega)
            have hm13 : mm ≤ 13 := by omega
            have H3 := Lib.hid (And.intro hO (And.intro hbk hL))
            clear hO hL hbk hTF hgo hmm k0 k1 ks hL0
            go_upto_block 5 with (fail)
            all_goals
              clear hk
              go_wp2_with fail
              go_loopw [13] (fun v wx => RelP3 wr v wx) (fun v _ => mm - (intOf v).toNat)
              case atStart => exact ⟨0, by omega, rfl, Below.refl _ _⟩
              case round =>
                obtain ⟨q3, hq3, rfl, hbi⟩ := hrel
                by_cases hqm : q3 < mm
                · have hj8 : (q3 : Int) < (mm : Int) := by omega
                  obtain ⟨s3, hs3⟩ : ∃ s3, s3 = L.getD q3 ⟨#[]⟩ := ⟨_, rfl⟩
                  have hqL : q3 < L.length := by rw [← HMM.out]; exact hqm
                  have c1t := ((H3.out.1.below hbi).cell hqL).1
                  rw [← hs3] at c1t
                  have hts : s3.size ≤ 100000 := H3.out.1.2 s3 (by rw [hs3, List.getD_eq_getElem?_getD, List.getElem?_eq_getElem hqL]; exact List.getElem_mem hqL)
                  have HBI := Lib.hid hbi
                  clear hs3 hbi hqL
                  have c1 := cP s3 hts
                  have c2 := cR s3 hts
                  clear hts
                  generalize parseR s3.data.toList = pr at *
                  obtain ⟨pX, pa, pe⟩ := pr
                  dsimp only at c1 c2
                  go_wp2_with fail
                  refine (c1 _).mono ?_
                  rintro e w5 ⟨tv, X, rfl, hR, hX, hb5⟩
                  have c1t2 := cell_below c1t hb5
                  clear c1 c1t
                  go_wp2_with fail
                  refine (c2 _).mono ?_
                  rintro e w6 ⟨tv2, Y, rfl, hR2, hY, hb6⟩
                  have cE := eqNodes_same tv tv2 X Y (hX.trans hY.symm) w6 (hR.nds.below hb6) hR2.nds
                  have H56 := Lib.hid (And.intro (hb5.trans (hb6.mono hb5.size)) (And.intro hR hb6))
                  clear c2 hR hR2 hb5 hb6 hX hY c1t2
                  go_wp2_with (go_at_call 13; (with_reducible refine (cM _ _).mono ?_); rintro e w' ⟨rfl, rfl⟩)
                  refine cE.mono ?_
                  rintro e w7 ⟨rfl, hb7⟩
                  have cN := nodes_sp _ tv X w7 (H56.out.2.1.below9 (H56.out.2.2.trans (hb7.mono H56.out.2.2.size)))
                  have H7 := Lib.hid (H56.out.1.trans (hb7.mono H56.out.1.size))
                  clear cE hb7
                  go_wp2_with fail
                  refine cN.mono ?_
                  rintro e w8 ⟨rfl, hb8⟩
                  have H8 := Lib.hid (HBI.out.trans ((H7.out.trans hb8).mono HBI.out.size))
                  clear cN hb8
                  go_wp2_with fail
                  go_roundw
                  case rel => exact ⟨q3 + 1, by omega, by go_num, H8.out⟩
                  case measure => simp [intOf]; omega
                · have hj8 : ¬ (q3 : Int) < (mm : Int) := by omega
                  have hA9 := ((HBZ.out.trans (HB2.out.mono (Nat.le_of_lt hzlt))).trans H3.out.2.1).trans (hbi.mono (by have := H3.out.2.1.size; have := HB2.out.size; omega))
                  have H9 := Lib.hid (HBR.out.1.trans (hA9.mono (by rw [← HBASE.out]; exact HBR.out.1.size)))
                  clear hbi hA9
                  go_wp2_with fail
                  exact ⟨⟨i + 1, by omega, by go_num, H9.out⟩, by simp [intOf]; omega⟩
      · have e0 := cell_below c0 hbr
        have hwr : Below w.heap.size w wr := HB1.out.trans (hbr.mono HB1.out.size)
        have cW := wakes11_any wr (HB.out.2.1.below hwr)
        have HH := Lib.hid hwr
        clear hwr cP cR cM hbr e1
        by_cases hiL : i < lS
        · have hj3 : (i : Int) < (lS : Int) := by omega
          have hj4 : ¬ (i : Int) < 6 := fun h => hgo ⟨hiL, by omega⟩
          clear hgo
          go_wp2_with fail
          refine cW.mono ?_
          rintro e w2 ⟨rfl, hb2⟩
          have FIN : Hid (Below w0.heap.size w0 w2) := Lib.hid (by have h1 : Below B w0 w := HB.out.1; rw [HBx.out]; exact h1.trans ((HH.out.trans (hb2.mono HH.out.size)).mono (by rw [← HBx.out]; exact h1.size)))
          clear cW hb2
          go_wp2_with fail
          go_ret
          exact ⟨rfl, FIN.out⟩
        · have hj3 : ¬ (i : Int) < (lS : Int) := by omega
          clear hgo
          go_wp2_with fail
          refine cW.mono ?_
          rintro e w2 ⟨rfl, hb2⟩
          have FIN : Hid (Below w0.heap.size w0 w2) := Lib.hid (by have h1 : Below B w0 w := HB.out.1; rw [HBx.out]; exact h1.trans ((HH.out.trans (hb2.mono HH.out.size)).mono (by rw [← HBx.out]; exact h1.size)))
          clear cW hb2
          go_wp2_with fail
          go_ret
          exact ⟨rfl, FIN.out⟩
end Go.Proofs.YtkhklndmbfbnoaaGreatDoor
