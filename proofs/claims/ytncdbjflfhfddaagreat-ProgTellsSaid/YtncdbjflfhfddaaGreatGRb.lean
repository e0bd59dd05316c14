/- The document on programs: body. -/
import Derived.Test.YtncdbjflfhfddaaGreatGRb0
import Derived.Test.YtncdbjflfhfddaaGreatGG
namespace Go.Proofs.YtncdbjflfhfddaaGreat
open Go.ChangeShapes Go.WideShapes Go.ChangeAt Go.RowKit Go.Joins Go.Deep
set_option linter.unusedVariables false

def RbP (w0 w : World) (wb ib lb nb : Nat) (P : PX) (v1 v2 v3 v4 v5 : Value) (r : Option RS) (e : Ending) (w' : World) : Prop :=
  ∃ (brk : Bool) (rs : RS) (ret : Int), e = .returned (.int .i64 ret) ∧ RAt w0 w' wb ib lb nb P v1 v2 v3 v4 v5 rs brk ∧ Bq wb ib lb nb w0.heap.size w w' ∧ r = (if brk then none else some rs) ∧ (brk = false → ret = rs.last)
def RbB (w0 w : World) (wb ib lb nb : Nat) (P : PX) (v1 v2 v3 v4 v5 : Value) (rs : RS) (e : Ending) (w' : World) : Prop :=
  ∃ ret : Int, e = .returned (.int .i64 ret) ∧ RAt w0 w' wb ib lb nb P v1 v2 v3 v4 v5 rs true ∧ Bq wb ib lb nb w0.heap.size w w'
def HQR (w0 : World) (wb ib lb nb : Nat) (P : PX) (v1 v2 v3 v4 v5 : Value) (n : Nat) : Prop :=
  ∀ (l : List Int) (vl : Value) (deep : Int) (lo : Bool) (rs : RS) (w : World), deep + n = 6 → 0 ≤ deep → IsIs w0 vl l → RAt w0 w wb ib lb nb P v1 v2 v3 v4 v5 rs false →
    Calls Tryz.prog 52 #[.pointer (some ⟨wb, 0, none⟩), vl, .int .i64 deep, .bool lo, .int .i64 rs.last] w (RbP w0 w wb ib lb nb P v1 v2 v3 v4 v5 (boF P n l deep lo rs))
set_option maxHeartbeats 1600000 in
theorem body_broken (w0 : World) (wb ib lb nb : Nat) (P : PX) (v1 v2 v3 v4 v5 : Value) (hx : RCx w0 wb ib lb nb P v1 v2 v3 v4 v5) (l : List Int) (vl : Value) (deep : Int) (lo : Bool) (last : Int) (rs : RS) (w : World) (hl : IsIs w0 vl l) (hR : RAt w0 w wb ib lb nb P v1 v2 v3 v4 v5 rs true) :
    Calls Tryz.prog 52 #[.pointer (some ⟨wb, 0, none⟩), vl, .int .i64 deep, .bool lo, .int .i64 last] w (RbB w0 w wb ib lb nb P v1 v2 v3 v4 v5 rs) := by
  obtain ⟨q, cap, rfl, hm, hcap, hc⟩ := hl
  unfold maxLen at hm
  generalize l.length = n at *
  have c11 : w.cell? ⟨wb, 11, none⟩ = some (.bool true) := hR.cells.cell 11 rfl
  have f11 := At.free hR.cells 11
  have hS : ∀ b, (w.setCell ⟨wb, 11, none⟩ (.bool b)).cell? ⟨wb, 11, none⟩ = some (.bool b) := fun b => (hR.setBrk hx b).cells.cell 11 rfl
  have FIN1 : Hid (RbB w0 w wb ib lb nb P v1 v2 v3 v4 v5 rs (.returned (.int .i64 last)) w) := Lib.hid ⟨last, rfl, hR, Bq.refl _ _ _ _ _ _⟩
  have FIN2 : Hid (RbB w0 w wb ib lb nb P v1 v2 v3 v4 v5 rs (.returned (.int .i64 last)) (w.setCell ⟨wb, 11, none⟩ (.bool true))) := Lib.hid ⟨last, rfl, hR.setBrk hx true, (Bq.refl _ _ _ _ _ _).set (Or.inl rfl) hx.gw _ _⟩
  have S1 := Lib.hid (hS true)
  clear hc hR hx hS
  by_cases hd : 5 < deep
  · by_cases h0 : n = 0
    · subst h0
      go_enter Tryz.func52, Tryz.ntmps52
      go_wp2
      go_loopw [11, 4] (fun v v4 wr => v = .int .i64 0 ∧ v4 = .int .i64 last ∧ w = wr) (fun v _ _ => 0)
      case atStart => exact ⟨rfl, rfl, rfl⟩
      case round =>
        obtain ⟨rfl, rfl, rfl⟩ := hrel
        go_wp2
        go_ret
        exact FIN1.out
    · have h1 : (0 : Int) < (n : Int) := by omega
      go_enter Tryz.func52, Tryz.ntmps52
      go_wp2
      have S2 := S1.out
      generalize w.setCell ⟨wb, 11, none⟩ (.bool true) = w2 at *
      clear c11 f11
      go_loopw [11, 4] (fun v v4 wr => v = .int .i64 0 ∧ v4 = .int .i64 last ∧ w2 = wr) (fun v _ _ => 0)
      case atStart => exact ⟨rfl, rfl, rfl⟩
      case round =>
        obtain ⟨rfl, rfl, rfl⟩ := hrel
        go_wp2
        go_ret
        exact FIN2.out
  · have hd2 : decide (5 < deep) = false := decide_eq_false hd
    by_cases h0 : n = 0
    · subst h0
      go_enter Tryz.func52, Tryz.ntmps52
      go_wp2
      go_loopw [11, 4] (fun v v4 wr => v = .int .i64 0 ∧ v4 = .int .i64 last ∧ w = wr) (fun v _ _ => 0)
      case atStart => exact ⟨rfl, rfl, rfl⟩
      case round =>
        obtain ⟨rfl, rfl, rfl⟩ := hrel
        go_wp2
        go_ret
        exact FIN1.out
    · have h1 : (0 : Int) < (n : Int) := by omega
      go_enter Tryz.func52, Tryz.ntmps52
      go_wp2
      go_loopw [11, 4] (fun v v4 wr => v = .int .i64 0 ∧ v4 = .int .i64 last ∧ w = wr) (fun v _ _ => 0)
      case atStart => exact ⟨rfl, rfl, rfl⟩
      case round =>
        obtain ⟨rfl, rfl, rfl⟩ := hrel
        go_wp2
        go_ret
        exact FIN1.out
theorem body_zero (w0 : World) (wb ib lb nb : Nat) (P : PX) (v1 v2 v3 v4 v5 : Value) (hx : RCx w0 wb ib lb nb P v1 v2 v3 v4 v5) : HQR w0 wb ib lb nb P v1 v2 v3 v4 v5 0 := by
  intro l vl deep lo rs w hd hd0 hl hR
  obtain rfl : deep = 6 := by omega
  obtain ⟨q, cap, rfl, hm, hcap, hc⟩ := hl
  unfold maxLen at hm
  have c11 : w.cell? ⟨wb, 11, none⟩ = some (.bool false) := hR.cells.cell 11 rfl
  have f11 := At.free hR.cells 11
  have S1 := Lib.hid ((hR.setBrk hx true).cells.cell 11 rfl)
  by_cases h0 : l.length = 0
  · have FIN1 : Hid (RbP w0 w wb ib lb nb P v1 v2 v3 v4 v5 (boF P 0 l 6 lo rs) (.returned (.int .i64 rs.last)) w) := Lib.hid ⟨false, rs, rs.last, rfl, hR, Bq.refl _ _ _ _ _ _, by simp [boF, h0], fun _ => rfl⟩
    rw [h0]
    clear hc hR hx h0 hm hcap
    generalize rs.last = last at *
    go_enter Tryz.func52, Tryz.ntmps52
    go_wp2
    go_loopw [11, 4] (fun v v4 wr => v = .int .i64 0 ∧ v4 = .int .i64 last ∧ w = wr) (fun v _ _ => 0)
    case atStart => exact ⟨rfl, rfl, rfl⟩
    case round =>
      obtain ⟨rfl, rfl, rfl⟩ := hrel
      go_wp2
      go_ret
      exact FIN1.out
  · have FIN2 : Hid (RbP w0 w wb ib lb nb P v1 v2 v3 v4 v5 (boF P 0 l 6 lo rs) (.returned (.int .i64 rs.last)) (w.setCell ⟨wb, 11, none⟩ (.bool true))) := Lib.hid ⟨true, rs, rs.last, rfl, hR.setBrk hx true, (Bq.refl _ _ _ _ _ _).set (Or.inl rfl) hx.gw _ _, by simp [boF, h0], fun h => by cases h⟩
    have h1 : (0 : Int) < (l.length : Int) := by omega
    clear hc hR hx h0
    generalize l.length = n at *
    generalize rs.last = last at *
    go_enter Tryz.func52, Tryz.ntmps52
    go_wp2
    have S2 : (w.setCell ⟨wb, 11, none⟩ (.bool true)).cell? ⟨wb, 11, none⟩ = some (.bool true) := S1.out
    generalize w.setCell ⟨wb, 11, none⟩ (.bool true) = w2 at *
    clear c11 f11
    go_loopw [11, 4] (fun v v4 wr => v = .int .i64 0 ∧ v4 = .int .i64 last ∧ w2 = wr) (fun v _ _ => 0)
    case atStart => exact ⟨rfl, rfl, rfl⟩
    case round =>
      obtain ⟨rfl, rfl, rfl⟩ := hrel
      go_wp2
      go_ret
      exact FIN2.out
theorem boS_yes (P : PX) (rec : List Int → Int → Bool → RS → Option RS) (deep : Int) (lo : Bool) (st : RS) (m : Nat) (h1 : st.last < (m : Int)) (h2 : m < P.sts.length) : boS P rec deep lo (m : Int) st = (newR P (P.sts.getD m default) lo { st with last := (m : Int), seen := st.seen + 1, inner := st.inner.set m deep, loop := st.loop.set m lo }).bind fun st2 => (rec (P.sts.getD m default).body (deep + 1) (lo || ((P.sts.getD m default).op == 6)) st2).bind fun st3 => rec (P.sts.getD m default).els (deep + 1) lo st3 := by
  have e : stAt P (m : Int) = P.sts.getD m default := by simp [stAt]
  unfold boS
  rw [if_pos ⟨h1, by omega⟩, e, Int.toNat_natCast]
  cases newR P (P.sts.getD m default) lo { st with last := (m : Int), seen := st.seen + 1, inner := st.inner.set m deep, loop := st.loop.set m lo } with
  | none => rfl
  | some a =>
    simp only [Option.bind_some]
    cases rec (P.sts.getD m default).body (deep + 1) (lo || ((P.sts.getD m default).op == 6)) a <;> rfl
def RelB (w0 w : World) (wb ib lb nb : Nat) (P : PX) (v1 v2 v3 v4 v5 : Value) (n : Nat) (l : List Int) (deep : Int) (lo : Bool) (R : Option RS) (len : Nat) (va vl : Value) (wr : World) : Prop :=
  ∃ (i : Nat) (rs : RS) (brk : Bool) (last : Int), i ≤ len ∧ va = .int .i64 (i : Nat) ∧ vl = .int .i64 last ∧ RAt w0 wr wb ib lb nb P v1 v2 v3 v4 v5 rs brk ∧ Bq wb ib lb nb w0.heap.size w wr ∧ (brk = false → last = rs.last ∧ goL (boS P (boF P n) deep lo) (l.drop i) rs = R) ∧ (brk = true → R = none)
set_option maxRecDepth 100000 in
set_option maxHeartbeats 12800000 in
theorem body_succ (w0 : World) (wb ib lb nb : Nat) (P : PX) (v1 v2 v3 v4 v5 : Value) (hx : RCx w0 wb ib lb nb P v1 v2 v3 v4 v5) (n : Nat) (IH : HQR w0 wb ib lb nb P v1 v2 v3 v4 v5 n) : HQR w0 wb ib lb nb P v1 v2 v3 v4 v5 (n + 1) := by
  intro l vl deep lo rs w hd hd0' hl hR
  obtain ⟨q, cap, rfl, hm, hcap, hc⟩ := hl
  unfold maxLen at hm
  obtain ⟨len, hlen⟩ : ∃ len, len = l.length := ⟨_, rfl⟩
  rw [← hlen] at hm hcap hc ⊢
  have hd5 : ¬ 5 < deep := by omega
  have hdd : decide (5 < deep) = false := decide_eq_false hd5
  have ew : IntKind.i64.wrap (deep + 1) = deep + 1 := by rw [IntKind.wrap_i64]; omega
  have hrw : boF P (n + 1) l deep lo rs = goL (boS P (boF P n) deep lo) l rs := rfl
  rw [hrw]
  obtain ⟨R, hRR⟩ : ∃ R, goL (boS P (boF P n) deep lo) l rs = R := ⟨_, rfl⟩
  rw [hRR]
  have H0 : RelB w0 w wb ib lb nb P v1 v2 v3 v4 v5 n l deep lo R len (.int .i64 0) (.int .i64 rs.last) w := ⟨0, rs, false, rs.last, Nat.zero_le _, rfl, rfl, hR, Bq.refl _ _ _ _ _ _, fun _ => ⟨rfl, hRR⟩, fun h => by cases h⟩
  have HC := Lib.hid hc
  have HL := Lib.hid hlen
  have HIH := Lib.hid IH
  have HXX := Lib.hid hx
  have HH0 := Lib.hid H0
  have HDD : Hid (deep + 1 + n = 6 ∧ 0 ≤ deep + 1) := Lib.hid (by omega)
  have HBB := Lib.hid (body_broken w0 wb ib lb nb P v1 v2 v3 v4 v5 hx)
  have hd6 : deep ≤ 5 := by omega
  clear hc hlen IH hx H0 hRR hrw hR hd
  generalize rs.last = last0 at *
  go_enter Tryz.func52, Tryz.ntmps52
  go_wp2
  go_loopw [11, 4] (fun va vl wr => RelB w0 w wb ib lb nb P v1 v2 v3 v4 v5 n l deep lo R len va vl wr) (fun va _ _ => len - (intOf va).toNat)
  case atStart => exact HH0.out
  case round =>
    obtain ⟨i, rs, brk, last, hi, rfl, rfl, hA, hbr, hno, hyes⟩ := hrel
    have c11 : wr.cell? ⟨wb, 11, none⟩ = some (.bool brk) := hA.cells.cell 11 rfl
    by_cases hlt : i < len
    rotate_left
    · obtain rfl : i = len := by omega
      have FIN : Hid (RbP w0 w wb ib lb nb P v1 v2 v3 v4 v5 R (.returned (.int .i64 last)) wr) := Lib.hid ⟨brk, rs, last, rfl, hA, hbr, by
        cases brk
        · have := (hno rfl).2
          rw [HL.out, List.drop_length] at this
          rw [← this]; rfl
        · rw [hyes rfl]; rfl, fun h => (hno h).1⟩
      clear hno hyes hA hbr c11
      go_wp2
      go_ret
      exact FIN.out
    have hj3 : (i : Int) < (len : Int) := by omega
    cases brk
    rotate_left
    · have FIN : Hid (RbP w0 w wb ib lb nb P v1 v2 v3 v4 v5 R (.returned (.int .i64 last)) wr) := Lib.hid ⟨true, rs, last, rfl, hA, hbr, by rw [hyes rfl]; rfl, fun h => by cases h⟩
      clear hno hyes hA hbr
      go_wp2
      go_ret
      exact FIN.out
    obtain ⟨hla, hgl⟩ := hno rfl
    subst hla
    clear hno hyes
    obtain ⟨b, o, rfl, hbs, hcell⟩ := HC.out (by omega)
    obtain ⟨x, hxi⟩ : ∃ x, l[i]? = some x := ⟨_, List.getElem?_eq_getElem (by rw [← HL.out]; exact hlt)⟩
    have c1 : wr.cell? ⟨b, o + i, none⟩ = some (.int .i64 x) := by have := cell_below (hcell i x hxi) hA.below; simpa using this
    rw [drop_cons' hxi, goL_cons] at hgl
    clear hcell hxi
    have hs40 := HXX.out.hs
    have hsl := hA.sl
    have hla := hA.la
    obtain ⟨v4q, v4c, rfl, hv4l, hv4c, hv4⟩ := (HXX.out.at hA.below).2.2.2.1
    clear hv4
    have c5 : wr.cell? ⟨wb, 5, none⟩ = some (.slice v4q P.sts.length v4c) := hA.cells.cell 5 rfl
    have HA := Lib.hid hA
    have HGL := Lib.hid hgl
    have HBR := Lib.hid hbr
    have f11 := At.free hA.cells 11
    clear hA hgl hbr
    by_cases hxl : x ≤ rs.last
    · have hxd : decide (x ≤ rs.last) = true := decide_eq_true hxl
      have FIN : Hid (∀ w2, Below wr.heap.size wr w2 → RbP w0 w wb ib lb nb P v1 v2 v3 (.slice v4q P.sts.length v4c) v5 R (.returned (.int .i64 rs.last)) (w2.setCell ⟨wb, 11, none⟩ (.bool true))) := Lib.hid fun w2 hb2 => ⟨true, rs, rs.last, rfl, (HA.out.bel HXX.out hb2).setBrk HXX.out true, (HBR.out.trans (Bq.below hb2 HA.out.below.size)).set (Or.inl rfl) HXX.out.gw _ _, by rw [← HGL.out]; unfold boS; rw [if_neg (by omega)]; rfl, fun h => by cases h⟩
      generalize rs.last = last at *
      go_wp2
      go_quiet (fail)
      go_wp2
      go_ret
      exact FIN.out _ (Joins.below_draws _ _ _)
    have hxd : decide (x ≤ rs.last) = false := decide_eq_false hxl
    by_cases hxn : (P.sts.length : Int) ≤ x
    · have hxe : decide ((P.sts.length : Int) ≤ x) = true := decide_eq_true hxn
      have FIN : Hid (∀ w2, Below wr.heap.size wr w2 → RbP w0 w wb ib lb nb P v1 v2 v3 (.slice v4q P.sts.length v4c) v5 R (.returned (.int .i64 rs.last)) (w2.setCell ⟨wb, 11, none⟩ (.bool true))) := Lib.hid fun w2 hb2 => ⟨true, rs, rs.last, rfl, (HA.out.bel HXX.out hb2).setBrk HXX.out true, (HBR.out.trans (Bq.below hb2 HA.out.below.size)).set (Or.inl rfl) HXX.out.gw _ _, by rw [← HGL.out]; unfold boS; rw [if_neg (by omega)]; rfl, fun h => by cases h⟩
      generalize rs.last = last at *
      go_wp2
      go_quiet (fail)
      go_wp2
      go_ret
      exact FIN.out _ (Joins.below_draws _ _ _)
    obtain ⟨m, rfl⟩ : ∃ m : Nat, x = (m : Int) := ⟨x.toNat, by omega⟩
    have hmn : m < P.sts.length := by omega
    have hmn2 : (m : Int) < (P.sts.length : Int) := by omega
    have hgs := boS_yes P (boF P n) deep lo rs m (by omega) hmn
    have q1 := fun p : BelowBy wr => p.cell c1
    have q5 := fun p : BelowBy wr => p.cell c5
    have HF11 := Lib.hid f11
    clear c5 f11
    go_wp2_with fail
    refine wp_region_quiet_below (by kernel_rfl) (by kernel_rfl) ?_
    repeat (go_big_quiet_step (fail))
    refine wpQuiet_nil ?_
    intro w3 hw'
    have hb3 : Below wr.heap.size wr w3 := by (obtain ⟨⟨_, h⟩, h2⟩ := hw'; rw [h2]; exact h)
    clear hw'
    have A3 := HA.out.bel HXX.out hb3
    have B3 := HBR.out.trans (Bq.below hb3 HA.out.below.size)
    replace c1 := cell_below c1 hb3
    have c5 : w3.cell? ⟨wb, 5, none⟩ = some (.slice v4q P.sts.length v4c) := A3.cells.cell 5 rfl
    obtain ⟨s, hs⟩ : ∃ s, P.sts[m]? = some s := ⟨_, List.getElem?_eq_getElem hmn⟩
    have hsd : P.sts.getD m default = s := by rw [List.getD_eq_getElem?_getD, hs]; rfl
    have hnew : s.op = 3 → isNewB P s.n = true := HXX.out.new s (List.mem_of_getElem? hs)
    rw [hsd] at hgs
    unfold newR at hgs
    obtain ⟨_, _, _, ⟨qq, cc, hqc, _, _, hcs⟩, _⟩ := HXX.out.pr
    obtain ⟨hqq, hcc⟩ : v4q = qq ∧ v4c = cc := by injection hqc with a b c; exact ⟨a, c⟩
    subst hcc
    obtain ⟨sb, so, hqe, hsbl, hscell⟩ := hcs (by omega)
    have hqs := hscell m s hs
    obtain ⟨vb, ve, s0, s1, s2, s3, s4, s5, s6, ibd, iel⟩ := id hqs
    replace s0 := cell_below s0 A3.below
    replace s1 := cell_below s1 A3.below
    replace s2 := cell_below s2 A3.below
    replace s3 := cell_below s3 A3.below
    replace s4 := cell_below s4 A3.below
    replace s5 := cell_below s5 A3.below
    replace s6 := cell_below s6 A3.below
    rw [hqq, hqe] at c5
    have IBD := Lib.hid ibd
    have IEL := Lib.hid iel
    obtain ⟨qb, cb, rfl, _⟩ := ibd
    obtain ⟨qe, ce, rfl, _⟩ := iel
    generalize s.body.length = nbd at *
    generalize s.els.length = nel at *
    have hbx := below_box1 w3 (.cells #[.int .i64 s.op, .int .i64 s.to, .int .i64 s.kind, .int .i64 s.e, .int .i64 s.n, .slice qb nbd cb, .slice qe nel ce] 53)
    have A5 := A3.bel HXX.out hbx
    have B5 := B3.trans (Bq.below hbx A3.below.size)
    have hA5 := At.new w3 #[.int .i64 s.op, .int .i64 s.to, .int .i64 s.kind, .int .i64 s.e, .int .i64 s.n, .slice qb nbd cb, .slice qe nel ce] 53
    have hne4 : w3.heap.size ≠ wb ∧ w3.heap.size ≠ ib ∧ w3.heap.size ≠ lb ∧ w3.heap.size ≠ nb := ⟨Nat.ne_of_gt A3.cells.lt, Nat.ne_of_gt A3.inn.lt, Nat.ne_of_gt A3.lop.lt, Nat.ne_of_gt A3.nws.lt⟩
    generalize s.op = sop at *
    generalize s.to = sto at *
    generalize s.kind = skd at *
    generalize s.e = sse at *
    generalize s.n = sn at *
    clear hqc hqq hqe hsbl hscell hqs hs hsd hcs A3 B3 hbx q1 q5 HF11
    go_upto_region 11 with (fail)
    obtain ⟨w5, hw5⟩ : ∃ w5, w3.alloc (.cells #[.int .i64 sop, .int .i64 sto, .int .i64 skd, .int .i64 sse, .int .i64 sn, .slice qb nbd cb, .slice qe nel ce] 53) = w5 := ⟨_, rfl⟩
    rw [hw5] at A5 B5 hA5
    try rw [hw5]
    clear hw5 s0 s1 s2 s3 s4 s5 s6 c5 c1 c11
    generalize w3.heap.size = B4 at *
    have c7 : w5.cell? ⟨wb, 7, none⟩ = some (.slice (some ⟨ib, 0, none⟩) P.sts.length P.sts.length) := A5.cells.cell 7 rfl
    have c8 : w5.cell? ⟨wb, 8, none⟩ = some (.slice (some ⟨lb, 0, none⟩) P.sts.length P.sts.length) := A5.cells.cell 8 rfl
    obtain ⟨y1, hy1⟩ : ∃ y, rs.inner[m]? = some y := ⟨_, List.getElem?_eq_getElem (by rw [A5.li]; exact hmn)⟩
    obtain ⟨y2, hy2⟩ : ∃ y, rs.loop[m]? = some y := ⟨_, List.getElem?_eq_getElem (by rw [A5.ll]; exact hmn)⟩
    have i1 := A5.inn.cell m (intA_get hy1)
    have i2 := At.free A5.inn m
    have i3 := A5.lop.cell m (boolA_get hy2)
    have i4 := At.free A5.lop m
    have hbne : ib ≠ lb := HXX.out.d4
    have hbne2 : ¬ lb = ib := Ne.symm HXX.out.d4
    clear hy1 hy2
    go_region
    have A6 := ((A5.setInn HXX.out m deep hmn).setLop HXX.out m lo hmn).drew
    have B6 := ((B5.set (Or.inr (Or.inl rfl)) HXX.out.gi m (.int .i64 deep)).set (Or.inr (Or.inr (Or.inl rfl))) HXX.out.gl m (.bool lo)).drew
    have hA6 : At (((w5.setCell ⟨ib, m, none⟩ (.int .i64 deep)).setCell ⟨lb, m, none⟩ (.bool lo)).drew) B4 _ _ := ((heap_setCell_lt (w5.setCell ⟨ib, m, none⟩ (.int .i64 deep)) lb m B4 (.bool lo) hne4.2.2.1).trans ((heap_setCell_lt w5 ib m B4 (.int .i64 deep) hne4.2.1).trans hA5))
    obtain ⟨w6, hw6⟩ : ∃ w6, ((w5.setCell ⟨ib, m, none⟩ (.int .i64 deep)).setCell ⟨lb, m, none⟩ (.bool lo)).drew = w6 := ⟨_, rfl⟩
    rw [hw6] at A6 B6 hA6
    rw [hw6]
    clear hw6 A5 B5 hA5 c7 c8 i1 i2 i3 i4 hbne hbne2
    have es : IntKind.i64.wrap ((rs.seen : Int) + 1) = (rs.seen : Int) + 1 := by rw [IntKind.wrap_i64]; omega
    have c9 : w6.cell? ⟨wb, 9, none⟩ = some (.int .i64 (rs.seen : Int)) := A6.cells.cell 9 rfl
    have f9 := At.free A6.cells 9
    go_upto_region 13 with (fail)
    have A7 := A6.setSeen HXX.out (m : Int) (by show rs.last < (m : Int); omega) hmn2
    have B7 := B6.set (Or.inl rfl) HXX.out.gw 9 (.int .i64 ((rs.seen : Int) + 1))
    have hA7 := (heap_setCell_lt w6 wb 9 B4 (.int .i64 ((rs.seen : Int) + 1)) hne4.1).trans (show w6.heap[B4]? = _ from hA6)
    dsimp only at A7
    generalize w6.setCell ⟨wb, 9, none⟩ (.int .i64 ((rs.seen : Int) + 1)) = w7 at A7 B7 hA7 ⊢
    replace hA7 : At w7 B4 _ _ := hA7
    clear A6 B6 hA6 c9 f9 es
    by_cases h3 : sop = 3
    · subst h3
      have hnw := hnew rfl
      simp [isNewB] at hnw
      obtain ⟨j, rfl⟩ : ∃ j : Nat, sn = (P.vars.length : Int) + 1 + (j : Int) := ⟨(sn - P.vars.length - 1).toNat, by omega⟩
      have hjr : j < P.news.length := by omega
      have hv4 := HXX.out.hv
      have hn2 := HXX.out.hn
      rw [if_pos rfl] at hgs
      rw [show ((P.vars.length : Int) + 1 + (j : Int) - P.vars.length - 1).toNat = j by omega] at hgs
      have e1 : IntKind.i64.wrap ((P.vars.length : Int) + 1 + (j : Int) - (P.vars.length : Int)) = 1 + (j : Int) := by rw [IntKind.wrap_i64]; omega
      have e2 : IntKind.i64.wrap (1 + (j : Int) - 1) = (j : Int) := by rw [IntKind.wrap_i64]; omega
      obtain ⟨q1, k1, hq1, _⟩ := (HXX.out.at A7.below).1
      have c2 : w7.cell? ⟨wb, 2, none⟩ = some v1 := A7.cells.cell 2 rfl
      rw [hq1] at c2
      clear hq1
      have d0 : w7.cell? ⟨B4, 0, none⟩ = some (.int .i64 3) := hA7.cell 0 rfl
      have d4 : w7.cell? ⟨B4, 4, none⟩ = some (.int .i64 ((P.vars.length : Int) + 1 + (j : Int))) := hA7.cell 4 rfl
      have d5 : w7.cell? ⟨B4, 5, none⟩ = some (.slice qb nbd cb) := hA7.cell 5 rfl
      have d6 : w7.cell? ⟨B4, 6, none⟩ = some (.slice qe nel ce) := hA7.cell 6 rfl
      have p2 := fun p : BelowBy w7 => p.cell c2
      have p4 := fun p : BelowBy w7 => p.cell d4
      go_wp2_with fail
      refine wp_region_quiet_below (by kernel_rfl) (by kernel_rfl) ?_
      repeat (go_big_quiet_step (fail))
      refine wpQuiet_nil ?_
      intro w8 hw'
      have hb8 : Below w7.heap.size w7 w8 := by (obtain ⟨⟨_, h⟩, h2⟩ := hw'; rw [h2]; exact h)
      clear hw'
      have A8 := A7.bel HXX.out hb8
      have B8 := B7.trans (Bq.below hb8 A7.below.size)
      have hA8 := At.below' hb8 hA7
      clear d0 d4 d5 d6 c2 p2 p4 e1 e2 A7 B7 hA7
      have c10 : w8.cell? ⟨wb, 10, none⟩ = some (.slice (some ⟨nb, 0, none⟩) P.news.length P.news.length) := A8.cells.cell 10 rfl
      have g11 : w8.cell? ⟨wb, 11, none⟩ = some (.bool false) := A8.cells.cell 11 rfl
      have g12 := At.free A8.cells 11
      obtain ⟨y3, hy3⟩ : ∃ y, rs.news[j]? = some y := ⟨_, List.getElem?_eq_getElem (by have := A8.ln; dsimp only at this; rw [this]; exact hjr)⟩
      have hy3d : rs.news.getD j true = y3 := by rw [List.getD_eq_getElem?_getD, hy3]; rfl
      have i5 := A8.nws.cell j (boolA_get hy3)
      have i6 := At.free A8.nws j
      have hj9 : (j : Int) < (P.news.length : Int) := by omega
      try dsimp only at hgs
      rw [hy3d] at hgs
      clear hy3 hy3d
      have d0 : w8.cell? ⟨B4, 0, none⟩ = some (.int .i64 3) := hA8.cell 0 rfl
      have d4 : w8.cell? ⟨B4, 4, none⟩ = some (.int .i64 ((P.vars.length : Int) + 1 + (j : Int))) := hA8.cell 4 rfl
      have d5 : w8.cell? ⟨B4, 5, none⟩ = some (.slice qb nbd cb) := hA8.cell 5 rfl
      have d6 : w8.cell? ⟨B4, 6, none⟩ = some (.slice qe nel ce) := hA8.cell 6 rfl
      cases lo
      · cases y3
        · simp only [Bool.or_false, Bool.false_or, if_false, Bool.false_eq_true, Option.bind_some] at hgs
          go_upto_region 19 with (fail)
          have A9 := A8.setNws HXX.out j true hjr
          have B9 := B8.set (Or.inr (Or.inr (Or.inr rfl))) HXX.out.gn j (.bool true)
          have hA9 := (heap_setCell_lt w8 nb j B4 (.bool true) hne4.2.2.2).trans (show w8.heap[B4]? = _ from hA8)
          dsimp only at A9
          generalize w8.setCell ⟨nb, j, none⟩ (.bool true) = w9 at A9 B9 hA9 ⊢
          replace hA9 : At w9 B4 _ _ := hA9
          have hgs6 := hgs
          rw [show ((3 : Int) == 6) = false from rfl] at hgs6
          clear hgs d0 d4 d5 d6 c10 i5 i6 g11 g12 A8 B8 hA8 hnw
          have d0 : w9.cell? ⟨B4, 0, none⟩ = some (.int .i64 3) := hA9.cell 0 rfl
          have d4 : w9.cell? ⟨B4, 4, none⟩ = some (.int .i64 ((P.vars.length : Int) + 1 + (j : Int))) := hA9.cell 4 rfl
          have d5 : w9.cell? ⟨B4, 5, none⟩ = some (.slice qb nbd cb) := hA9.cell 5 rfl
          have d6 : w9.cell? ⟨B4, 6, none⟩ = some (.slice qe nel ce) := hA9.cell 6 rfl
          have cB := HIH.out s.body (.slice qb nbd cb) (deep + 1) false _ _ HDD.out.1 HDD.out.2 IBD.out A9
          unfold RbP at cB
          dsimp only at cB
          go_wp2_with fail
          refine cB.mono ?_
          rintro e w10 ⟨b10, rs10, ret10, rfl, A10, B10, r10, l10⟩
          rw [r10] at hgs6
          have hA10 := B10.at hA9 hne4.1 hne4.2.1 hne4.2.2.1 hne4.2.2.2
          have BB10 := B9.trans B10
          clear cB r10 B10 d0 d4 d5 d6 hA9 A9 B9
          have d6 : w10.cell? ⟨B4, 6, none⟩ = some (.slice qe nel ce) := hA10.cell 6 rfl
          cases b10
          · obtain rfl := l10 rfl
            clear l10
            simp only [if_false, Bool.false_eq_true, Option.bind_some] at hgs6
            have cE := HIH.out s.els (.slice qe nel ce) (deep + 1) false rs10 w10 HDD.out.1 HDD.out.2 IEL.out A10
            unfold RbP at cE
            have HG6 := Lib.hid hgs6
            clear hgs6
            go_wp2_with fail
            refine cE.mono ?_
            rintro e w11 ⟨b11, rs11, ret11, rfl, A11, B11, r11, l11⟩
            have hgs6 := HG6.out
            rw [r11] at hgs6
            have BB11 := BB10.trans B11
            clear cE r11 B11 d6 HG6 hA10 A10 BB10
            cases b11
            · obtain rfl := l11 rfl
              have FIN : Hid (∀ va, va = .int .i64 ((i + 1 : Nat) : Int) → RelB w0 w wb ib lb nb P v1 v2 v3 (.slice v4q P.sts.length v4c) v5 n l deep false R len va (.int .i64 rs11.last) w11) := Lib.hid fun va hva => ⟨i + 1, rs11, false, rs11.last, by omega, hva, rfl, A11, BB11, fun _ => ⟨rfl, by rw [← HGL.out, hgs6]; rfl⟩, fun h => by cases h⟩
              clear hgs6 A11 BB11 l11
              go_wp2_with fail
              go_roundw
              case rel => exact FIN.out _ (by go_num)
              case measure => simp [intOf]; omega
            · have FIN : Hid (∀ va, va = .int .i64 ((i + 1 : Nat) : Int) → RelB w0 w wb ib lb nb P v1 v2 v3 (.slice v4q P.sts.length v4c) v5 n l deep false R len va (.int .i64 ret11) w11) := Lib.hid fun va hva => ⟨i + 1, rs11, true, ret11, by omega, hva, rfl, A11, BB11, (fun h => by cases h), fun _ => by rw [← HGL.out, hgs6]; rfl⟩
              clear hgs6 A11 BB11 l11
              go_wp2_with fail
              go_roundw
              case rel => exact FIN.out _ (by go_num)
              case measure => simp [intOf]; omega
          · clear l10
            have cE := HBB.out s.els (.slice qe nel ce) (deep + 1) false ret10 rs10 w10 IEL.out A10
            unfold RbB at cE
            have HG6 := Lib.hid hgs6
            clear hgs6
            go_wp2_with fail
            refine cE.mono ?_
            rintro e w11 ⟨ret11, rfl, A11, B11⟩
            have hgs6 := HG6.out
            have BB11 := BB10.trans B11
            clear cE B11 d6 HG6 hA10 A10 BB10
            have FIN : Hid (∀ va, va = .int .i64 ((i + 1 : Nat) : Int) → RelB w0 w wb ib lb nb P v1 v2 v3 (.slice v4q P.sts.length v4c) v5 n l deep false R len va (.int .i64 ret11) w11) := Lib.hid fun va hva => ⟨i + 1, rs10, true, ret11, by omega, hva, rfl, A11, BB11, (fun h => by cases h), fun _ => by rw [← HGL.out, hgs6]; rfl⟩
            clear hgs6 A11 BB11
            go_wp2_with fail
            go_roundw
            case rel => exact FIN.out _ (by go_num)
            case measure => simp [intOf]; omega
        · skip
          have FIN : Hid (RbP w0 w wb ib lb nb P v1 v2 v3 (.slice v4q P.sts.length v4c) v5 R (.returned (.int .i64 (m : Int))) (w8.setCell ⟨wb, 11, none⟩ (.bool true))) := Lib.hid ⟨true, _, (m : Int), rfl, A8.setBrk HXX.out true, B8.set (Or.inl rfl) HXX.out.gw _ _, by rw [← HGL.out, hgs]; rfl, fun h => by cases h⟩
          clear hgs A8 B8 hA8 hnw
          go_wp2_with fail
          go_ret
          exact FIN.out
      · skip
        have FIN : Hid (RbP w0 w wb ib lb nb P v1 v2 v3 (.slice v4q P.sts.length v4c) v5 R (.returned (.int .i64 (m : Int))) (w8.setCell ⟨wb, 11, none⟩ (.bool true))) := Lib.hid ⟨true, _, (m : Int), rfl, A8.setBrk HXX.out true, B8.set (Or.inl rfl) HXX.out.gw _ _, by rw [← HGL.out, hgs]; rfl, fun h => by cases h⟩
        clear hgs A8 B8 hA8 hnw
        go_wp2_with fail
        go_ret
        exact FIN.out
    have h3b : (sop == 3) = false := beq_eq_false_iff_ne.2 h3
    rw [if_neg h3] at hgs
    simp only [Option.bind_some] at hgs
    have hgs6 := hgs
    clear hgs
    have d0 : w7.cell? ⟨B4, 0, none⟩ = some (.int .i64 sop) := hA7.cell 0 rfl
    have d4 : w7.cell? ⟨B4, 4, none⟩ = some (.int .i64 sn) := hA7.cell 4 rfl
    have d5 : w7.cell? ⟨B4, 5, none⟩ = some (.slice qb nbd cb) := hA7.cell 5 rfl
    have d6 : w7.cell? ⟨B4, 6, none⟩ = some (.slice qe nel ce) := hA7.cell 6 rfl
    cases lo
    · simp only [Bool.false_or] at hgs6
      have cB := HIH.out s.body (.slice qb nbd cb) (deep + 1) (sop == 6) _ _ HDD.out.1 HDD.out.2 IBD.out A7
      unfold RbP at cB
      dsimp only at cB
      go_wp2_with fail
      refine cB.mono ?_
      rintro e w10 ⟨b10, rs10, ret10, rfl, A10, B10, r10, l10⟩
      rw [r10] at hgs6
      have hA10 := B10.at hA7 hne4.1 hne4.2.1 hne4.2.2.1 hne4.2.2.2
      have BB10 := B7.trans B10
      clear cB r10 B10 d0 d4 d5 d6 hA7 A7 B7
      have d6 : w10.cell? ⟨B4, 6, none⟩ = some (.slice qe nel ce) := hA10.cell 6 rfl
      cases b10
      · obtain rfl := l10 rfl
        clear l10
        simp only [if_false, Bool.false_eq_true, Option.bind_some] at hgs6
        have cE := HIH.out s.els (.slice qe nel ce) (deep + 1) false rs10 w10 HDD.out.1 HDD.out.2 IEL.out A10
        unfold RbP at cE
        have HG6 := Lib.hid hgs6
        clear hgs6
        go_wp2_with fail
        refine cE.mono ?_
        rintro e w11 ⟨b11, rs11, ret11, rfl, A11, B11, r11, l11⟩
        have hgs6 := HG6.out
        rw [r11] at hgs6
        have BB11 := BB10.trans B11
        clear cE r11 B11 d6 HG6 hA10 A10 BB10
        cases b11
        · obtain rfl := l11 rfl
          have FIN : Hid (∀ va, va = .int .i64 ((i + 1 : Nat) : Int) → RelB w0 w wb ib lb nb P v1 v2 v3 (.slice v4q P.sts.length v4c) v5 n l deep false R len va (.int .i64 rs11.last) w11) := Lib.hid fun va hva => ⟨i + 1, rs11, false, rs11.last, by omega, hva, rfl, A11, BB11, fun _ => ⟨rfl, by rw [← HGL.out, hgs6]; rfl⟩, fun h => by cases h⟩
          clear hgs6 A11 BB11 l11
          go_wp2_with fail
          go_roundw
          case rel => exact FIN.out _ (by go_num)
          case measure => simp [intOf]; omega
        · have FIN : Hid (∀ va, va = .int .i64 ((i + 1 : Nat) : Int) → RelB w0 w wb ib lb nb P v1 v2 v3 (.slice v4q P.sts.length v4c) v5 n l deep false R len va (.int .i64 ret11) w11) := Lib.hid fun va hva => ⟨i + 1, rs11, true, ret11, by omega, hva, rfl, A11, BB11, (fun h => by cases h), fun _ => by rw [← HGL.out, hgs6]; rfl⟩
          clear hgs6 A11 BB11 l11
          go_wp2_with fail
          go_roundw
          case rel => exact FIN.out _ (by go_num)
          case measure => simp [intOf]; omega
      · clear l10
        have cE := HBB.out s.els (.slice qe nel ce) (deep + 1) false ret10 rs10 w10 IEL.out A10
        unfold RbB at cE
        have HG6 := Lib.hid hgs6
        clear hgs6
        go_wp2_with fail
        refine cE.mono ?_
        rintro e w11 ⟨ret11, rfl, A11, B11⟩
        have hgs6 := HG6.out
        have BB11 := BB10.trans B11
        clear cE B11 d6 HG6 hA10 A10 BB10
        have FIN : Hid (∀ va, va = .int .i64 ((i + 1 : Nat) : Int) → RelB w0 w wb ib lb nb P v1 v2 v3 (.slice v4q P.sts.length v4c) v5 n l deep false R len va (.int .i64 ret11) w11) := Lib.hid fun va hva => ⟨i + 1, rs10, true, ret11, by omega, hva, rfl, A11, BB11, (fun h => by cases h), fun _ => by rw [← HGL.out, hgs6]; rfl⟩
        clear hgs6 A11 BB11
        go_wp2_with fail
        go_roundw
        case rel => exact FIN.out _ (by go_num)
        case measure => simp [intOf]; omega
    · simp only [Bool.true_or] at hgs6
      have cB := HIH.out s.body (.slice qb nbd cb) (deep + 1) true _ _ HDD.out.1 HDD.out.2 IBD.out A7
      unfold RbP at cB
      dsimp only at cB
      go_wp2_with fail
      refine cB.mono ?_
      rintro e w10 ⟨b10, rs10, ret10, rfl, A10, B10, r10, l10⟩
      rw [r10] at hgs6
      have hA10 := B10.at hA7 hne4.1 hne4.2.1 hne4.2.2.1 hne4.2.2.2
      have BB10 := B7.trans B10
      clear cB r10 B10 d0 d4 d5 d6 hA7 A7 B7
      have d6 : w10.cell? ⟨B4, 6, none⟩ = some (.slice qe nel ce) := hA10.cell 6 rfl
      cases b10
      · obtain rfl := l10 rfl
        clear l10
        simp only [if_false, Bool.false_eq_true, Option.bind_some] at hgs6
        have cE := HIH.out s.els (.slice qe nel ce) (deep + 1) true rs10 w10 HDD.out.1 HDD.out.2 IEL.out A10
        unfold RbP at cE
        have HG6 := Lib.hid hgs6
        clear hgs6
        go_wp2_with fail
        refine cE.mono ?_
        rintro e w11 ⟨b11, rs11, ret11, rfl, A11, B11, r11, l11⟩
        have hgs6 := HG6.out
        rw [r11] at hgs6
        have BB11 := BB10.trans B11
        clear cE r11 B11 d6 HG6 hA10 A10 BB10
        cases b11
        · obtain rfl := l11 rfl
          have FIN : Hid (∀ va, va = .int .i64 ((i + 1 : Nat) : Int) → RelB w0 w wb ib lb nb P v1 v2 v3 (.slice v4q P.sts.length v4c) v5 n l deep true R len va (.int .i64 rs11.last) w11) := Lib.hid fun va hva => ⟨i + 1, rs11, false, rs11.last, by omega, hva, rfl, A11, BB11, fun _ => ⟨rfl, by rw [← HGL.out, hgs6]; rfl⟩, fun h => by cases h⟩
          clear hgs6 A11 BB11 l11
          go_wp2_with fail
          go_roundw
          case rel => exact FIN.out _ (by go_num)
          case measure => simp [intOf]; omega
        · have FIN : Hid (∀ va, va = .int .i64 ((i + 1 : Nat) : Int) → RelB w0 w wb ib lb nb P v1 v2 v3 (.slice v4q P.sts.length v4c) v5 n l deep true R len va (.int .i64 ret11) w11) := Lib.hid fun va hva => ⟨i + 1, rs11, true, ret11, by omega, hva, rfl, A11, BB11, (fun h => by cases h), fun _ => by rw [← HGL.out, hgs6]; rfl⟩
          clear hgs6 A11 BB11 l11
          go_wp2_with fail
          go_roundw
          case rel => exact FIN.out _ (by go_num)
          case measure => simp [intOf]; omega
      · clear l10
        have cE := HBB.out s.els (.slice qe nel ce) (deep + 1) true ret10 rs10 w10 IEL.out A10
        unfold RbB at cE
        have HG6 := Lib.hid hgs6
        clear hgs6
        go_wp2_with fail
        refine cE.mono ?_
        rintro e w11 ⟨ret11, rfl, A11, B11⟩
        have hgs6 := HG6.out
        have BB11 := BB10.trans B11
        clear cE B11 d6 HG6 hA10 A10 BB10
        have FIN : Hid (∀ va, va = .int .i64 ((i + 1 : Nat) : Int) → RelB w0 w wb ib lb nb P v1 v2 v3 (.slice v4q P.sts.length v4c) v5 n l deep true R len va (.int .i64 ret11) w11) := Lib.hid fun va hva => ⟨i + 1, rs10, true, ret11, by omega, hva, rfl, A11, BB11, (fun h => by cases h), fun _ => by rw [← HGL.out, hgs6]; rfl⟩
        clear hgs6 A11 BB11
        go_wp2_with fail
        go_roundw
        case rel => exact FIN.out _ (by go_num)
        case measure => simp [intOf]; omega
theorem body_any (w0 : World) (wb ib lb nb : Nat) (P : PX) (v1 v2 v3 v4 v5 : Value) (hx : RCx w0 wb ib lb nb P v1 v2 v3 v4 v5) (n : Nat) : HQR w0 wb ib lb nb P v1 v2 v3 v4 v5 n := by
  induction n with
  | zero => exact body_zero w0 wb ib lb nb P v1 v2 v3 v4 v5 hx
  | succ n ih => exact body_succ w0 wb ib lb nb P v1 v2 v3 v4 v5 hx n ih
end Go.Proofs.YtncdbjflfhfddaaGreat
