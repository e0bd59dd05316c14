/- append onto an own row of whatever comes in, nil or not, at a step of a region that draws. Nothing here speaks of one translation. -/
import Derived.Test.YtnhbaigagphpmaaMem
import Derived.Deep.AppendLies
import Derived.Laws.OwnMore
import Derived.Test.YtnhbaigagphpmaaKS4
namespace Go.Proofs.Ytnhbaigagphpmaa
open Go.ChangeShapes Go.WideShapes Go.ChangeAt Go.RowKit Go.Joins Go.Deep
set_option linter.unusedVariables false

theorem run_append_any {P : Program} (w : World) (t ty : TypeId) (base : Nat) (e : TypeId) (i : TypeInfo) (z : Value) (size bytes : Nat) (ht : P.underlying t = some (.slice e)) (hi : P.info? e = some i) (hz : i.zero = some z)
    (hsize : i.size = size) (hby : i.bytes = bytes) (hzs : z.cells.size = size) (hsz : 0 < size)
    (v : Value) (n : Nat) (xs : List Value) (hown : w.ownsRow base e size v n xs) (hv : v ≠ .slice none 0 0)
    (p : Option Addr) (m c : Nat) (news : List Value) (hy : Yields w size p m c news)
    (h63 : n + m ≤ maxLen) (hbytes : (n + m) * bytes ≤ 140737488355328) (hbase : base ≤ w.heap.size) :
    ∃ v' w', (Builtin.append_ #[t, t] ty #[v, .slice p m c]).run P w = .ok v' w' ∧ w'.ownsRow base e size v' (n + m) (xs ++ news) ∧ w.grownBy w' v.ownBlock ∧ v' ≠ .slice none 0 0 := by
  obtain ⟨hl, h1, ⟨rfl, rfl, rfl⟩ | ⟨ad, rfl, hnews⟩⟩ := hy
  · have hn0 : news = [] := by simpa using hl
    subst hn0
    exact ⟨v, w, run_append_owned_none (P := P) (w := w) base t ty e i size ht hi v n xs hown, by simpa using hown, ⟨rfl, rfl, rfl, Nat.le_refl _, fun _ _ _ => rfl⟩, hv⟩
  · obtain ⟨v', w', hr, h2, h3, h4, h5⟩ := run_append_own_at (P := P) w base t ty e i z size bytes ht hi hz hsize hby hzs hsz v n xs hown ad m c news hl hnews h1 h63 hbytes hbase
    exact ⟨v', w', hr, h2, h3, fun hh => hv (h4.1 hh).1⟩
theorem step_append_any {P : Program} (w : World) {ops : Array Oper} {o : Oper} {a : Act} {K : Act → World → Prop} {Q : Exit → Act → World → Prop} {E : Prop} (hgd : o.guard = none) (s x : Operand) (t : TypeId)
    (ho : o.op = .call { callee := .builtin .append, args := #[s, x], argTypes := #[t, t] })
    (base : Nat) (e : TypeId) (i : TypeInfo) (z : Value) (size bytes : Nat) (ht : P.underlying t = some (.slice e)) (hi : P.info? e = some i) (hz : i.zero = some z)
    (hsize : i.size = size) (hby : i.bytes = bytes) (hzs : z.cells.size = size) (hsz : 0 < size)
    (v : Value) (n : Nat) (xs : List Value) (hs : a.eval s = v) (hown : w.ownsRow base e size v n xs) (hv : v ≠ .slice none 0 0)
    (p : Option Addr) (m c : Nat) (news : List Value) (hx : a.eval x = .slice p m c) (hy : Yields w size p m c news)
    (h63 : n + m ≤ maxLen) (hbytes : (n + m) * bytes ≤ 140737488355328) (hbase : base ≤ w.heap.size)
    (h : ∀ v' w', w'.ownsRow base e size v' (n + m) (xs ++ news) → w.grownBy w' v.ownBlock → v' ≠ .slice none 0 0 → K (a.put o.dst v') w') :
    if Region.wanted o (yielded ops a.tmps) = true then Oper.wp P o a w K Q else E := by
  have hw : Region.wanted o (yielded ops a.tmps) = true := by simp [Region.wanted, hgd]
  rw [if_pos hw]
  obtain ⟨v', w', hr, h2, h3, h4⟩ := run_append_any (P := P) w t o.type base e i z size bytes ht hi hz hsize hby hzs hsz v n xs hown hv p m c news hy h63 hbytes hbase
  unfold Oper.wp execOp
  simp only [ho, resolve, invoke, builtin, Sem.run_bind, Sem.run_pure, Result.andThen_ok, List.map_toArray, List.map_cons, List.map_nil, hs, hx, hr]
  exact h v' w' h2 h3 h4
end Go.Proofs.Ytnhbaigagphpmaa

/- MemStores: its third loop: the kinds. -/
namespace Go.Proofs.Ytnhbaigagphpmaa
open Go.ChangeShapes Go.WideShapes Go.ChangeAt Go.RowKit Go.Joins Go.Deep
set_option linter.unusedVariables false

def StD3 (w : World) (B bm om lm cm i : Nat) (mq : Option Addr) (mc l : Nat) (mm : List BK) (qi : Option Addr) (mi : List BK) (gp np : Nat) (Lp : List SC) (ga ma : Nat) (fa : List (Bool × Int)) (ps : Option Addr) (ls cs : Nat) (ss : List SC) : Prop :=
  w.cell? ⟨B, 0, none⟩ = some (.slice (some ⟨bm, om, none⟩) lm cm) ∧ w.cell? ⟨B, 1, none⟩ = some (.slice ps ls cs) ∧ w.cell? ⟨bm, om + i, none⟩ = some (.slice mq l mc) ∧ IsMem w mq l mm ∧ IsMem w qi l mi ∧ ScRow w gp np Lp ∧ MachAt w ga ma fa ∧ InScs w ps ls cs ss
theorem StD3.below {w w' : World} {B bm om lm cm i : Nat} {mq : Option Addr} {mc l : Nat} {mm : List BK} {qi : Option Addr} {mi : List BK} {gp np : Nat} {Lp : List SC} {ga ma : Nat} {fa : List (Bool × Int)} {ps : Option Addr} {ls cs : Nat} {ss : List SC} (h : StD3 w B bm om lm cm i mq mc l mm qi mi gp np Lp ga ma fa ps ls cs ss) (hb : Below w.heap.size w w') : StD3 w' B bm om lm cm i mq mc l mm qi mi gp np Lp ga ma fa ps ls cs ss := by
  obtain ⟨h1, h2, h3, h4, h5, h6, h7, h8⟩ := h
  exact ⟨cell_below h1 hb, cell_below h2 hb, cell_below h3 hb, h4.below hb, h5.below hb, h6.below hb, h7.below hb, h8.below hb⟩
def VsOut (v11 : Value) (w0 wx : World) : Prop := ∃ gv nv capv Vs, v11 = .slice (some ⟨gv, 0, none⟩) nv capv ∧ nv ≤ 1000 ∧ ScRow wx gv nv Vs ∧ Below w0.heap.size w0 wx
def Fr3 (t : Array Value) (v1 v3 v4 v5 v6 v7 v8 : Value) : Prop := t.size = 180 ∧ sl t 1 = v1 ∧ sl t 3 = v3 ∧ sl t 4 = v4 ∧ sl t 5 = v5 ∧ sl t 6 = v6 ∧ sl t 7 = v7 ∧ sl t 8 = v8
def RelS3 (B i gp np capp k ga ma capa : Nat) (bm om lm cm mc l ci ls cs : Nat) (mq qi ps : Option Addr) (mm mi : List BK) (fa : List (Bool × Int)) (Lp ss : List SC) (w0 : World) (nn : Nat) (a : Act) (wr : World) : Prop :=
  ∃ t kd z, a = ⟨t, []⟩ ∧ Fr3 t (.pointer (some ⟨B, 0, none⟩)) (.slice (some ⟨ga, 0, none⟩) ma capa) (.int .i64 (i : Nat)) (.slice qi l ci) (.bool (mayM mi)) (.slice (some ⟨gp, 0, none⟩) np capp) (.int .i64 (k : Nat)) ∧ sl t 9 = .int .i64 z ∧ z = (kd : Nat) ∧ kd + nn = 8 ∧ Below w0.heap.size w0 wr
set_option maxRecDepth 1000000 in
set_option maxHeartbeats 12800000 in
theorem sloop3 (B i gp np capp k ga ma capa : Nat) (bm om lm cm mc l ci ls cs : Nat) (mq qi ps : Option Addr) (mm mi : List BK) (fa : List (Bool × Int)) (Lp ss : List SC) (w0 : World) (hi : i < lm) (hk : k < np) (hnp : np ≤ 25) (hls : ls ≤ 700) (hma : 4 ≤ ma ∧ ma ≤ 6) (hdat : datM mi = datM mm) (hD : StD3 w0 B bm om lm cm i mq mc l mm qi mi gp np Lp ga ma fa ps ls cs ss)
    (t : Array Value) (hF : Fr3 t (.pointer (some ⟨B, 0, none⟩)) (.slice (some ⟨ga, 0, none⟩) ma capa) (.int .i64 (i : Nat)) (.slice qi l ci) (.bool (mayM mi)) (.slice (some ⟨gp, 0, none⟩) np capp) (.int .i64 (k : Nat))) (fc : sl t 9 = .int .i64 0) (Q : Exit → Act → World → Prop)
    (hQ : ∀ t w', Fr3 t (.pointer (some ⟨B, 0, none⟩)) (.slice (some ⟨ga, 0, none⟩) ma capa) (.int .i64 (i : Nat)) (.slice qi l ci) (.bool (mayM mi)) (.slice (some ⟨gp, 0, none⟩) np capp) (.int .i64 (k : Nat)) → Below w0.heap.size w0 w' → Q (.exit 4) ⟨t, []⟩ w') :
    (Code.loop sBody3).wp Try.prog (NoPanic Q) ⟨t, []⟩ w0 := by
  refine wp_loop_ghost_k (RelS3 B i gp np capp k ga ma capa bm om lm cm mc l ci ls cs mq qi ps mm mi fa Lp ss w0) 8 ⟨t, 0, 0, rfl, hF, fc, rfl, by omega, Below.refl _ _⟩ ?_
  clear hF fc
  intro nn a wr hrel iK iJv hJ hK
  clear t
  obtain ⟨t, kd, z, rfl, ⟨f0, f1, f3, f4, f5, f6, f7, f8⟩, fc, rfl, hjn, hbd⟩ := hrel
  rw [open_180 t f0]
  simp only [f1, f3, f4, f5, f6, f7, f8, fc]
  clear f0 f1 f3 f4 f5 f6 f7 f8 fc
  conv => arg 2; whnf
  by_cases hkd : kd ≤ 7
  · have hk7 : (kd : Int) ≤ 7 := by omega
    obtain ⟨r, hr⟩ : ∃ r, r = (k + kd) % ma := ⟨_, rfl⟩
    have hrm : r < ma := by rw [hr]; exact Nat.mod_lt _ (by omega)
    have er : ((k : Int) + (kd : Int)) % (ma : Int) = (r : Nat) := by rw [hr, Int.natCast_emod, Int.natCast_add]
    have er2 : ((k : Int) + (kd : Int)).tmod (ma : Int) = (r : Nat) := by rw [Int.tmod_eq_emod_of_nonneg (by omega)]; exact er
    have hrm2 : (r : Int) < (ma : Int) := by omega
    have hm0 : ¬ ((ma : Int) = 0) := by omega
    have hm00 : ((ma : Int) == 0) = false := by rw [beq_eq_false_iff_ne]; omega
    have HD := Lib.hid (hD.below hbd)
    have HBD := Lib.hid hbd
    have HDAT := Lib.hid hdat
    obtain ⟨m0, m1⟩ := (hD.below hbd).2.2.2.2.2.2.1.2.2 r hrm
    clear hD hbd hQ hdat
    generalize fa.getD r (false, 0) = mac at *
    obtain ⟨big, pp⟩ := mac
    dsimp only at m0 m1
    have dA := At.new wr #[.bool big, .int .i64 pp] 38
    have hb1 := below_box1 wr (.cells #[.bool big, .int .i64 pp] 38)
    have HA := Lib.hid dA
    replace HD := Lib.hid (HD.out.below hb1)
    replace HBD := Lib.hid (HBD.out.trans (hb1.mono HBD.out.size))
    clear hr dA hb1
    go_upto_region 17 with (fail)
    generalize wr.alloc (.cells #[.bool big, .int .i64 pp] 38) = w9 at *
    generalize wr.heap.size = AX at *
    clear m0 m1 er er2 hrm2 hm0 hm00 hrm
    go_cut [11] from 69 to 81 (fun v11 wx => VsOut v11 w9 wx)
    case first =>
      clear hJ hK
      obtain ⟨r1, hr1⟩ : ∃ r1, r1 = (k + 1) % np := ⟨_, rfl⟩
      have hrp : r1 < np := by rw [hr1]; exact Nat.mod_lt _ (by omega)
      obtain ⟨k1, hk1⟩ : ∃ k1, k1 = k + 1 := ⟨_, rfl⟩
      have e1 : IntKind.i64.wrap ((k : Int) + 1) = (k1 : Int) := by rw [IntKind.wrap_i64]; omega
      have e2 : (k1 : Int).tmod (np : Int) = (r1 : Nat) := by rw [Int.tmod_eq_emod_of_nonneg (by omega), hr1, ← hk1, Int.natCast_emod]
      have hrp2 : (r1 : Int) < (np : Int) := by omega
      have hn0 : ¬ ((np : Int) = 0) := by omega
      have hn00 : ((np : Int) == 0) = false := by rw [beq_eq_false_iff_ne]; omega
      have hn1 : ¬ np = 0 := by omega
      obtain ⟨_, c1, _, _, _, hRow, _, hss⟩ := HD.out
      obtain ⟨s0, s1, s2, s3⟩ := hRow.2 r1 hrp
      generalize Lp.getD r1 default = pt at *
      obtain ⟨q0, q1, q2, q3⟩ := pt
      dsimp only at s0 s1 s2 s3
      have hown0 := ownsRow_lit w9 w9.heap.size 33 4 2 #[.bool false, .int .i64 200, .int .i64 0, .int .i64 0, .bool q0, .int .i64 q1, .int .i64 q2, .int .i64 q3] (Nat.le_refl _) rfl (by decide)
      have hy0 := (hss.below (below_box1 w9 (.cells #[.bool false, .int .i64 200, .int .i64 0, .int .i64 0, .bool q0, .int .i64 q1, .int .i64 q2, .int .i64 q3] 33))).yields
      have HY := Lib.hid (show Yields ((w9.alloc (.cells #[.bool false, .int .i64 200, .int .i64 0, .int .i64 0, .bool q0, .int .i64 q1, .int .i64 q2, .int .i64 q3] 33)).drew) 4 ps ls cs (scCs ss) from hy0)
      have HOW := Lib.hid (hown0.drew)
      have HSL := Lib.hid hss.1
      have c1' := cell_alloc c1 (.cells #[.bool false, .int .i64 200, .int .i64 0, .int .i64 0, .bool q0, .int .i64 q1, .int .i64 q2, .int .i64 q3] 33)
      obtain ⟨i0, hi0, hz0, hz1, hz2⟩ := info_parts Try.infoSc
      have b4 : 0 < 4 := by decide
      have b1 : 2 + ls ≤ maxLen := by unfold maxLen; omega
      have b2 : (2 + ls) * 32 ≤ 140737488355328 := by omega
      have b3 : w9.heap.size ≤ w9.heap.size + 1 := by omega
      clear hRow hss hown0 hy0 hr1 hk1 HD HBD HDAT HA
      go_wp2_with fail
      go_region_law ((refine step_append_any _ (by rfl) _ _ _ (by rfl) w9.heap.size 33 i0 _ 4 32 Try.underlying23 hi0 hz0 hz1 hz2 rfl b4 (.slice (some ⟨w9.heap.size, 0, none⟩) 2 2) 2 _ (by rfl) HOW.out (fun h => by cases h) ps ls cs (scCs ss) (by rfl) HY.out b1 b2 (by simp) ?_; intro v' w4 hown3 hgrow hne))
      all_goals
        have hbF : Below w9.heap.size w9 w4 := (((Below.refl w9.heap.size w9).alloc (Nat.le_refl _) _).drew).grown hgrow (by simp) (fun k hk => by simp [Value.ownBlock] at hk; omega)
        have hown4 : w4.ownsRow w9.heap.size 33 4 v' (2 + ls) (scCs ([⟨false, 200, 0, 0⟩, ⟨q0, q1, q2, q3⟩] ++ ss)) := by simpa [scCs, scL] using hown3
        have hLL : ([⟨false, 200, 0, 0⟩, ⟨q0, q1, q2, q3⟩] ++ ss : List SC).length = 2 + ls := by rw [List.length_append, HSL.out]; rfl
        obtain ⟨gv, capv, rfl, hncap, hge, hlt2, hcells⟩ := ownsRow_row hown4 hne
        have fin : VsOut (.slice (some ⟨gv, 0, none⟩) (2 + ls) capv) w9 w4 := ⟨gv, 2 + ls, capv, _, rfl, by omega, ⟨hlt2, fun k hk => by
          have hh := fun c hc => scCs_get ([⟨false, 200, 0, 0⟩, ⟨q0, q1, q2, q3⟩] ++ ss) k (by rw [hLL]; exact hk) c hc
          exact ⟨hcells _ _ (hh 0 (by decide)), hcells _ _ (hh 1 (by decide)), hcells _ _ (hh 2 (by decide)), hcells _ _ (hh 3 (by decide))⟩⟩, hbF⟩
        have FIN := Lib.hid fin
        clear hown3 hown4 hgrow hne hcells fin hLL e1 e2 c1 c1' s0 s1 s2 s3 hbF
        go_wp2_with fail
        go_meet
        case rel => exact FIN.out
    case rest =>
      obtain ⟨gv, nv, capv, Vs, rfl, hnv, hVs, hbw⟩ := hcut
      have dA2 := At.below' hbw HA.out
      have hD2 := HD.out.below hbw
      have HBD2 := Lib.hid (HBD.out.trans (hbw.mono HBD.out.size))
      have hdat := HDAT.out
      have hD4 : StD wc B bm om lm cm i mq mc l mm qi mi gp np Lp AX big pp gv nv Vs := ⟨hD2.1, hD2.2.2.1, hD2.2.2.2.1, hD2.2.2.2.2.1, hD2.2.2.2.2.2.1, dA2, hVs⟩
      have H4 := Lib.hid hD4
      have HDT := Lib.hid hdat
      clear hD4 hD2 dA2 hVs hbw HD HA HBD HDAT hdat
      go_wp2_with fail
      refine noPanic_mono (sloop4 B i gp np capp k kd AX gv nv capv bm om lm cm mc l ci mq qi mm mi big pp Lp Vs (.slice (some ⟨ga, 0, none⟩) ma capa) wc hi hk hkd hnv HDT.out H4.out _ ⟨rfl, rfl, rfl, rfl, rfl, rfl, rfl, rfl, rfl, rfl, rfl⟩ rfl _ ?_)
      intro t2 wB hF hbB
      obtain ⟨f0, f1, f3, f4, f5, f6, f7, f8, f9, f10, f11⟩ := hF
      rw [open_180 t2 f0]
      simp only [f1, f3, f4, f5, f6, f7, f8, f9, f10, f11]
      clear f0 f1 f3 f4 f5 f6 f7 f8 f9 f10 f11
      have b9 := HBD2.out.trans (hbB.mono HBD2.out.size)
      clear hbB HBD2 H4
      go_wp2_with fail
      refine Handed.intro (nn - 1) (by omega) (hJ _ _ _ ⟨_, kd + 1, _, rfl, ⟨rfl, rfl, rfl, rfl, rfl, rfl, rfl, rfl⟩, rfl, (by go_num), by omega, b9⟩)
  · have t7 : decide ((kd : Int) ≤ 7) = false := by simp; omega
    clear hJ hD
    go_wp2_with fail
    exact hQ _ _ ⟨rfl, rfl, rfl, rfl, rfl, rfl, rfl, rfl⟩ hbd
end Go.Proofs.Ytnhbaigagphpmaa
