/- Package tree: called, number, two, named, declaration. -/
import Derived.Test.YtkhklndmbfbnoaaGreatDoorTNode
import Derived.Test.YtkhklndmbfbnoaaGreatDoorTStep
namespace Go.Proofs.YtkhklndmbfbnoaaGreatDoor
open Go.ChangeShapes Go.WideShapes Go.ChangeAt Go.RowKit Go.Joins Go.Deep
set_option linter.unusedVariables false

theorem ps1_ok {op : Int} {name : Tx} {n : Int} (a : Int) {rb : Nat} {F : Nat → Prop} {w : World} (h : rb < w.heap.size) (hf : ∀ b, F b → b < w.heap.size) : PsOK F (w.alloc (.cells #[.int .i64 a] 3)) (rb + 1) ⟨⟨op, name, n, [a]⟩, some ⟨w.heap.size, 0, none⟩, 1⟩ :=
  Or.inr ⟨⟨Nat.le_refl _, by show 1 ≤ 2 ^ 63 - 1; decide⟩, w.heap.size, _, rfl, h, fun hb => Nat.lt_irrefl _ (hf _ hb), At.new w _ _, fun i hi => by
    have : i = 0 := by (have : i < 1 := hi); omega
    subst this; rfl⟩
theorem ps2_ok {op : Int} {name : Tx} {n : Int} (a b : Int) {rb : Nat} {F : Nat → Prop} {w : World} (h : rb < w.heap.size) (hf : ∀ b, F b → b < w.heap.size) : PsOK F (w.alloc (.cells #[.int .i64 a, .int .i64 b] 3)) (rb + 1) ⟨⟨op, name, n, [a, b]⟩, some ⟨w.heap.size, 0, none⟩, 2⟩ :=
  Or.inr ⟨⟨Nat.le_refl _, by show 2 ≤ 2 ^ 63 - 1; decide⟩, w.heap.size, _, rfl, h, fun hb => Nat.lt_irrefl _ (hf _ hb), At.new w _ _, fun i hi => by
    have : i = 0 ∨ i = 1 := by (have : i < 2 := hi); omega
    rcases this with rfl | rfl <;> rfl⟩
set_option maxHeartbeats 1600000 in
theorem called_any {w0 : Ctx} {fd : Value} {W : List (Tx × Nat)} {en rb : Nat} {g : Option Nat} {s : RS} {n : Nat} (ex : RS → Int × RS) (hF : Fng W n ex) (HE : ∀ s g w, s.ar ≤ 21 → Dp n s → RdAt w0 fd W en w rb g s → Calls Tryz.prog 113 #[.pointer (some ⟨rb, 0, none⟩)] w (RP w0 fd W en rb g (ex s) w)) (op : Int) (name : Tx) (ha : s.ar ≤ 21) (hd : Dp n s) (w : World) (h : RdAt w0 fd W en w rb g s) : Calls Tryz.prog 146 #[.pointer (some ⟨rb, 0, none⟩), .int .i64 op, txV name] w (RP w0 fd W en rb g (calledR W en ex op name s) w) := by
  go_enter Tryz.func146, Tryz.ntmps146
  have K0 := Ok.refl h.inv hd
  have t0 := Trn.refl rb g w
  have h0 := h
  clear h
  go_wp2_with fail
  refine (needW_any ⟨#[40]⟩ (by decide) _ h0).mono ?_
  rintro e w1 ⟨rfl, h1, O1⟩
  have t1 := t0.trans (Trn.of O1)
  have K1 := K0.needW (en := en) (x := [40]) (by decide)
  clear t0 O1
  have h1 : RdAt w0 fd W en w1 rb g (needWR W en [40] s) := h1
  go_wp2_with fail
  refine (HE (needWR W en [40] s) g _ (by rw [K1.2.2.1.1]; exact ha) K1.2.2.2 h1).mono ?_
  rintro e w2 ⟨g2, rfl, h2, T2⟩
  have t2 := t1.trans T2
  have K2 := K1.fn hF
  clear t1 T2
  go_wp2_with fail
  refine (needW_any ⟨#[41]⟩ (by decide) _ h2).mono ?_
  rintro e w3 ⟨rfl, h3, O3⟩
  have t3 := t2.trans (Trn.of O3)
  have K3 := K2.needW (en := en) (x := [41]) (by decide)
  clear t2 O3
  have h3 : RdAt w0 fd W en w3 rb g2 (needWR W en [41] (ex (needWR W en [40] s)).2) := h3
  have hb := boxT w3 (.cells #[.int .i64 (ex (needWR W en [40] s)).1] 3)
  have hA := h3.grow hb
  have t3 := t3.trans (Trn.of (h3.onl hb))
  have hps := ps1_ok (op := op) (name := name) (n := 0) (ex (needWR W en [40] s)).1 h3.lt h3.held
  clear hb
  go_wp2_with fail
  refine (node_any ⟨⟨op, name, 0, [(ex (needWR W en [40] s)).1]⟩, some ⟨w3.heap.size, 0, none⟩, 1⟩ _ hA hps K3.room).mono ?_
  rintro e w4 ⟨g4, rfl, h4, T4⟩
  have t4 := t3.trans T4
  clear t3 T4 hA hps
  go_wp2_with fail
  go_ret
  exact ⟨g4, rfl, h4, t4⟩
set_option maxHeartbeats 1600000 in
theorem number_walk {w0 : Ctx} {fd : Value} {W : List (Tx × Nat)} {en rb : Nat} {g : Option Nat} {s : RS} {n : Nat}  (ha : s.ar ≤ 21) (hd : Dp n s) (w : World) (h : RdAt w0 fd W en w rb g s) : Calls Tryz.prog 144 #[.pointer (some ⟨rb, 0, none⟩)] w (RP w0 fd W en rb g (numberR W en s) w) := by
  go_enter Tryz.func144, Tryz.ntmps144
  have K0 := Ok.refl h.inv hd
  have t0 := Trn.refl rb g w
  have h0 := h
  clear h
  go_wp2_with fail
  refine (needN_any _ h0).mono ?_
  rintro e w1 ⟨rfl, h1, O1⟩
  have t1 := t0.trans (Trn.of O1)
  have K1 := K0.need (en := en) (p := numB) (by decide)
  clear t0 O1
  go_wp2_with fail
  refine (needW_any ⟨#[58]⟩ (by decide) _ h1).mono ?_
  rintro e w2 ⟨rfl, h2, O2⟩
  have t2 := t1.trans (Trn.of O2)
  have K2 := K1.needW (en := en) (x := [58]) (by decide)
  clear t1 O2
  have h2 : RdAt w0 fd W en w2 rb g (needWR W en [58] (needNR W en s).2) := h2
  go_wp2_with fail
  refine (needKindN _ h2).mono ?_
  rintro e w3 ⟨rfl, h3, O3⟩
  have t3 := t2.trans (Trn.of O3)
  have K3 := K2.need (en := en) (p := numKB) (by decide)
  clear t2 O3
  have hA := h3
  have hps : PsOK w0.F w3 (rb + 1) ⟨⟨12, (needR W en numKB (needWR W en [58] (needNR W en s).2)).1, (needNR W en s).1, []⟩, none, 0⟩ := Or.inl ⟨rfl, rfl, rfl⟩
  go_wp2_with fail
  refine (node_any ⟨⟨12, (needR W en numKB (needWR W en [58] (needNR W en s).2)).1, (needNR W en s).1, []⟩, none, 0⟩ _ hA hps K3.room).mono ?_
  rintro e w4 ⟨g4, rfl, h4, T4⟩
  have t4 := t3.trans T4
  clear t3 T4 hA hps
  go_wp2_with fail
  go_ret
  exact ⟨g4, rfl, h4, t4⟩
set_option maxHeartbeats 1600000 in
theorem two_any {w0 : Ctx} {fd : Value} {W : List (Tx × Nat)} {en rb : Nat} {g : Option Nat} {s : RS} {n : Nat} (ex : RS → Int × RS) (hF : Fng W n ex) (HE : ∀ s g w, s.ar ≤ 21 → Dp n s → RdAt w0 fd W en w rb g s → Calls Tryz.prog 113 #[.pointer (some ⟨rb, 0, none⟩)] w (RP w0 fd W en rb g (ex s) w)) (ha : s.ar ≤ 21) (hd : Dp n s) (w : World) (h : RdAt w0 fd W en w rb g s) : Calls Tryz.prog 148 #[.pointer (some ⟨rb, 0, none⟩)] w (RP w0 fd W en rb g (twoR W en ex s) w) := by
  go_enter Tryz.func148, Tryz.ntmps148
  have K0 := Ok.refl h.inv hd
  have t0 := Trn.refl rb g w
  have h0 := h
  clear h
  go_wp2_with fail
  refine (needW_any ⟨#[40]⟩ (by decide) _ h0).mono ?_
  rintro e w1 ⟨rfl, h1, O1⟩
  have t1 := t0.trans (Trn.of O1)
  have K1 := K0.needW (en := en) (x := [40]) (by decide)
  clear t0 O1
  have h1 : RdAt w0 fd W en w1 rb g (needWR W en [40] s) := h1
  go_wp2_with fail
  refine (HE (needWR W en [40] s) g _ (by rw [K1.2.2.1.1]; exact ha) K1.2.2.2 h1).mono ?_
  rintro e w2 ⟨g2, rfl, h2, T2⟩
  have t2 := t1.trans T2
  have K2 := K1.fn hF
  clear t1 T2
  go_wp2_with fail
  refine (needOper _ h2).mono ?_
  rintro e w3 ⟨rfl, h3, O3⟩
  have t3 := t2.trans (Trn.of O3)
  have K3 := K2.need (en := en) (p := operB) (by decide)
  clear t2 O3
  go_wp2_with fail
  refine (HE (needR W en operB (ex (needWR W en [40] s)).2).2 g2 _ (by rw [K3.2.2.1.1]; exact ha) K3.2.2.2 h3).mono ?_
  rintro e w4 ⟨g4, rfl, h4, T4⟩
  have t4 := t3.trans T4
  have K4 := K3.fn hF
  clear t3 T4
  go_wp2_with fail
  refine (needW_any ⟨#[41]⟩ (by decide) _ h4).mono ?_
  rintro e w5 ⟨rfl, h5, O5⟩
  have t5 := t4.trans (Trn.of O5)
  have K5 := K4.needW (en := en) (x := [41]) (by decide)
  clear t4 O5
  have h5 : RdAt w0 fd W en w5 rb g4 (needWR W en [41] (ex (needR W en operB (ex (needWR W en [40] s)).2).2).2) := h5
  have hb := boxT w5 (.cells #[.int .i64 (ex (needWR W en [40] s)).1, .int .i64 (ex (needR W en operB (ex (needWR W en [40] s)).2).2).1] 3)
  have hA := h5.grow hb
  have t5 := t5.trans (Trn.of (h5.onl hb))
  have hps := ps2_ok (op := 16) (name := (needR W en operB (ex (needWR W en [40] s)).2).1) (n := 0) (ex (needWR W en [40] s)).1 (ex (needR W en operB (ex (needWR W en [40] s)).2).2).1 h5.lt h5.held
  clear hb
  go_wp2_with fail
  refine (node_any ⟨⟨16, (needR W en operB (ex (needWR W en [40] s)).2).1, 0, [(ex (needWR W en [40] s)).1, (ex (needR W en operB (ex (needWR W en [40] s)).2).2).1]⟩, some ⟨w5.heap.size, 0, none⟩, 2⟩ _ hA hps K5.room).mono ?_
  rintro e w6 ⟨g6, rfl, h6, T6⟩
  have t6 := t5.trans T6
  clear t5 T6 hA hps
  go_wp2_with fail
  go_ret
  exact ⟨g6, rfl, h6, t6⟩
set_option maxHeartbeats 1600000 in
theorem named_any {w0 : Ctx} {fd : Value} {W : List (Tx × Nat)} {en rb : Nat} {g : Option Nat} {s : RS} {n : Nat} (ty : RS → Int × RS) (hF : Fng W n ty) (HT : ∀ s g w, s.ar ≤ 21 → Dp n s → RdAt w0 fd W en w rb g s → Calls Tryz.prog 111 #[.pointer (some ⟨rb, 0, none⟩)] w (RP w0 fd W en rb g (ty s) w)) (op : Int) (ha : s.ar ≤ 21) (hd : Dp n s) (w : World) (h : RdAt w0 fd W en w rb g s) : Calls Tryz.prog 79 #[.pointer (some ⟨rb, 0, none⟩), .int .i64 op] w (RP w0 fd W en rb g (namedR W en ty op s) w) := by
  go_enter Tryz.func79, Tryz.ntmps79
  have K0 := Ok.refl h.inv hd
  have t0 := Trn.refl rb g w
  have h0 := h
  clear h
  go_wp2_with fail
  refine (needName _ h0).mono ?_
  rintro e w1 ⟨rfl, h1, O1⟩
  have t1 := t0.trans (Trn.of O1)
  have K1 := K0.need (en := en) (p := nameB) (by decide)
  clear t0 O1
  go_wp2_with fail
  refine (needW_any ⟨#[58]⟩ (by decide) _ h1).mono ?_
  rintro e w2 ⟨rfl, h2, O2⟩
  have t2 := t1.trans (Trn.of O2)
  have K2 := K1.needW (en := en) (x := [58]) (by decide)
  clear t1 O2
  have h2 : RdAt w0 fd W en w2 rb g (needWR W en [58] (needR W en nameB s).2) := h2
  go_wp2_with fail
  refine (HT (needWR W en [58] (needR W en nameB s).2) g _ (by rw [K2.2.2.1.1]; exact ha) K2.2.2.2 h2).mono ?_
  rintro e w3 ⟨g3, rfl, h3, T3⟩
  have t3 := t2.trans T3
  have K3 := K2.fn hF
  clear t2 T3
  go_wp2_with fail
  refine (needW_any ⟨#[59]⟩ (by decide) _ h3).mono ?_
  rintro e w4 ⟨rfl, h4, O4⟩
  have t4 := t3.trans (Trn.of O4)
  have K4 := K3.needW (en := en) (x := [59]) (by decide)
  clear t3 O4
  have h4 : RdAt w0 fd W en w4 rb g3 (needWR W en [59] (ty (needWR W en [58] (needR W en nameB s).2)).2) := h4
  have hb := boxT w4 (.cells #[.int .i64 (ty (needWR W en [58] (needR W en nameB s).2)).1] 3)
  have hA := h4.grow hb
  have t4 := t4.trans (Trn.of (h4.onl hb))
  have hps := ps1_ok (op := op) (name := (needR W en nameB s).1) (n := 0) (ty (needWR W en [58] (needR W en nameB s).2)).1 h4.lt h4.held
  clear hb
  go_wp2_with fail
  refine (node_any ⟨⟨op, (needR W en nameB s).1, 0, [(ty (needWR W en [58] (needR W en nameB s).2)).1]⟩, some ⟨w4.heap.size, 0, none⟩, 1⟩ _ hA hps K4.room).mono ?_
  rintro e w5 ⟨g5, rfl, h5, T5⟩
  have t5 := t4.trans T5
  clear t4 T5 hA hps
  go_wp2_with fail
  go_ret
  exact ⟨g5, rfl, h5, t5⟩
set_option maxHeartbeats 1600000 in
theorem decl_any {w0 : Ctx} {fd : Value} {W : List (Tx × Nat)} {en rb : Nat} {g : Option Nat} {s : RS} {n : Nat} (ty : RS → Int × RS) (hF : Fng W n ty) (HT : ∀ s g w, s.ar ≤ 21 → Dp n s → RdAt w0 fd W en w rb g s → Calls Tryz.prog 111 #[.pointer (some ⟨rb, 0, none⟩)] w (RP w0 fd W en rb g (ty s) w)) (ha : s.ar ≤ 21) (hd : Dp n s) (w : World) (h : RdAt w0 fd W en w rb g s) : Calls Tryz.prog 53 #[.pointer (some ⟨rb, 0, none⟩)] w (RP w0 fd W en rb g (namedR W en ty 2 (needWR W en [118, 97, 114] s)) w) := by
  go_enter Tryz.func53, Tryz.ntmps53
  have K0 := Ok.refl h.inv hd
  have t0 := Trn.refl rb g w
  have h0 := h
  clear h
  go_wp2_with fail
  refine (needW_any ⟨#[118, 97, 114]⟩ (by decide) _ h0).mono ?_
  rintro e w1 ⟨rfl, h1, O1⟩
  have t1 := t0.trans (Trn.of O1)
  have K1 := K0.needW (en := en) (x := [118, 97, 114]) (by decide)
  clear t0 O1
  have h1 : RdAt w0 fd W en w1 rb g (needWR W en [118, 97, 114] s) := h1
  go_wp2_with fail
  refine (named_any ty hF HT 2 (by rw [K1.2.2.1.1]; exact ha) K1.2.2.2 _ h1).mono ?_
  rintro e w2 ⟨g2, rfl, h2, T2⟩
  have t2 := t1.trans T2
  have K2 := K1
  clear t1 T2
  go_wp2_with fail
  go_ret
  exact ⟨g2, rfl, h2, t2⟩
end Go.Proofs.YtkhklndmbfbnoaaGreatDoor

/- Package tree's reader, as plain data: its loops, a round at a time. -/
namespace Go.Proofs.YtkhklndmbfbnoaaGreatDoor
set_option linter.unusedVariables false

section
variable {W : List (Tx × Nat)} {en n c d f : Nat} {s0 s : RS} {ex ty st : RS → Int × RS} {v : Int} {l : List Int}
theorem placeL_dot (hw : wdR W s = [46]) : placeL W en ex (f + 1) (v, s) = placeL W en ex f (nodeR W ⟨9, (needR W en nameB (passR s)).1, 0, [v]⟩ (needR W en nameB (passR s)).2) := by
  rw [placeL]; exact if_pos hw
theorem placeL_at (hw : wdR W s = [91]) : placeL W en ex (f + 1) (v, s) = placeL W en ex f (nodeR W ⟨10, [], 0, [v, (ex (passR s)).1]⟩ (needWR W en [93] (ex (passR s)).2)) := by
  rw [placeL]
  dsimp only
  rw [if_neg (by rw [hw]; decide), if_pos hw]
theorem placeL_end (h1 : wdR W s ≠ [46]) (h2 : wdR W s ≠ [91]) : placeL W en ex f (v, s) = (v, s) := by
  cases f with
  | zero => rfl
  | succ f =>
    rw [placeL]
    dsimp only
    rw [if_neg h1, if_neg h2]
theorem typeL_more (hw : wdR W s = [91]) : typeL W en (f + 1) (v, s) = typeL W en f (nodeR W ⟨4, [], (needNR W en (passR s)).1, [v]⟩ (needWR W en [93] (needNR W en (passR s)).2)) := by
  rw [typeL]; exact if_pos hw
theorem typeL_end (h2 : wdR W s ≠ [91]) : typeL W en f (v, s) = (v, s) := by
  cases f with
  | zero => rfl
  | succ f =>
    rw [typeL]
    dsimp only
    rw [if_neg h2]
theorem fieldsL_more (h : s.k < W.length ∧ wdR W s ≠ [125]) : fieldsL W en ty (f + 1) l s = fieldsL W en ty f (l ++ [(namedR W en ty 7 s).1]) (namedR W en ty 7 s).2 := by
  rw [fieldsL]; exact if_pos h
theorem fieldsL_end (h : ¬ (s.k < W.length ∧ wdR W s ≠ [125])) : fieldsL W en ty f l s = (l, s) := by
  cases f with
  | zero => rfl
  | succ f => rw [fieldsL]; exact if_neg h
theorem blockL_more (h : s.bad = none ∧ wdR W s ≠ [125]) : blockL W st (f + 1) l s = blockL W st f (l ++ [(st s).1]) (st s).2 := by
  rw [blockL]; exact if_pos h
theorem blockL_end (h : ¬ (s.bad = none ∧ wdR W s ≠ [125])) : blockL W st f l s = (l, s) := by
  cases f with
  | zero => rfl
  | succ f => rw [blockL]; exact if_neg h
theorem declL_more (h : wdR W s = [118, 97, 114]) : declL W en ty (f + 1) l s = declL W en ty f (l ++ [(namedR W en ty 2 (needWR W en [118, 97, 114] s)).1]) (namedR W en ty 2 (needWR W en [118, 97, 114] s)).2 := by
  rw [declL]; exact if_pos h
theorem declL_end (h : wdR W s ≠ [118, 97, 114]) : declL W en ty f l s = (l, s) := by
  cases f with
  | zero => rfl
  | succ f => rw [declL]; exact if_neg h
theorem stsL_more (h : s.k < W.length) : stsL W st (f + 1) l s = stsL W st f (l ++ [(st s).1]) (st s).2 := by
  rw [stsL]; exact if_pos h
theorem stsL_end (h : ¬ s.k < W.length) : stsL W st f l s = (l, s) := by
  cases f with
  | zero => rfl
  | succ f => rw [stsL]; exact if_neg h
theorem Ok.more (h : Ok W n c (d + 1) s0 s) (hk : s0.k < W.length) : s0.k < s.k := by
  obtain ⟨h1, h2, ⟨h3, h4⟩, h5⟩ := h
  by_cases hb : s.bad = none
  · have := (h4 hb).2.2
    omega
  · rw [bad_k h2 hb]; exact hk
end
end Go.Proofs.YtkhklndmbfbnoaaGreatDoor

/- Package tree: places. -/
namespace Go.Proofs.YtkhklndmbfbnoaaGreatDoor
open Go.ChangeShapes Go.WideShapes Go.ChangeAt Go.RowKit Go.Joins Go.Deep
set_option linter.unusedVariables false

theorem wq_yes {l c : Tx} (h : l = c) : (l == c) = true := by rw [beq_iff_eq]; exact h
theorem wq_no {l c : Tx} (h : ¬ l = c) : (l == c) = false := by rw [beq_eq_false_iff_ne]; exact h
/-- how many words lie behind, as memory has it -/
def kOf (rb : Nat) (w : World) : Nat := (intOf ((w.cell? ⟨rb, 2, none⟩).getD undef)).toNat
theorem kOf_at {w0 : Ctx} {w : World} {fd : Value} {W : List (Tx × Nat)} {en rb : Nat} {g : Option Nat} {s : RS} (h : RdAt w0 fd W en w rb g s) : kOf rb w = s.k := by
  obtain ⟨md, nv, hA⟩ := h.cells
  have c2 : w.cell? ⟨rb, 2, none⟩ = some (.int .i64 (s.k : Nat)) := hA.cell 2 rfl
  unfold kOf
  rw [c2]
  simp [intOf]
set_option maxHeartbeats 1600000 in
theorem plainPlace_any {w0 : Ctx} {fd : Value} {W : List (Tx × Nat)} {en rb : Nat} {g : Option Nat} {s : RS} {n : Nat} (ex : RS → Int × RS) (hF : Fng W n ex) (HG : s.bad = none → ∀ s g w, s.ar ≤ 21 → Dp n s → RdAt w0 fd W en w rb g s → Calls Tryz.prog 113 #[.pointer (some ⟨rb, 0, none⟩)] w (RP w0 fd W en rb g (ex s) w)) (ha : s.ar ≤ 30) (hd : Dp n s) (w : World) (h : RdAt w0 fd W en w rb g s) : Calls Tryz.prog 149 #[.pointer (some ⟨rb, 0, none⟩)] w (RP w0 fd W en rb g (plainPlaceR W en ex s) w) := by
  go_enter Tryz.func149, Tryz.ntmps149
  have K0 := Ok.refl h.inv hd
  have t0 := Trn.refl rb g w
  have h0 := h
  clear h
  go_wp2_with fail
  refine (word_any _ h0).mono ?_
  rintro e w1 ⟨rfl, h1, O1⟩
  have t1 := t0.trans (Trn.of O1)
  have K1 := K0
  clear t0 O1
  by_cases hw : wdR W s = [42]
  · have e : plainPlaceR W en ex s = calledR W en ex 11 (needR W en knB (passR s)).1 (needR W en knB (passR s)).2 := by unfold plainPlaceR; exact if_pos hw
    have EQ := Lib.hid e
    have hgd := wdR_good h1.inv (by rw [hw]; decide)
    have ha : s.ar ≤ 21 := by have := (hd hgd).2; omega
    have HE := HG hgd
    clear hgd
    have qw := wq_yes hw
    have hne : wdR W s ≠ [] := by rw [hw]; decide
    clear HG e hw
    go_wp2_with fail
    refine (tpass_any _ h1 hne).mono ?_
    rintro e w2 ⟨rfl, h2, O2⟩
    have t2 := t1.trans (Trn.of O2)
    have K2 := K1.pass hne
    clear t1 O2
    go_wp2_with fail
    refine (needKind _ h2).mono ?_
    rintro e w3 ⟨rfl, h3, O3⟩
    have t3 := t2.trans (Trn.of O3)
    have K3 := K2.need (en := en) (p := knB) (by decide)
    clear t2 O3
    go_wp2_with fail
    refine (called_any ex hF HE 11 (needR W en knB (passR s)).1 (by rw [K3.2.2.1.1]; exact ha) K3.2.2.2 _ h3).mono ?_
    rintro e w4 ⟨g4, rfl, h4, T4⟩
    have t4 := t3.trans T4
    have K4 := called_ok (en := en) hF 11 (needR W en knB (passR s)).1 K3
    clear t3 T4
    go_wp2_with fail
    go_ret
    rw [EQ.out]
    exact ⟨g4, rfl, h4, t4⟩
  · have e : plainPlaceR W en ex s = nodeR W ⟨8, (needR W en nameB s).1, 0, []⟩ (needR W en nameB s).2 := by unfold plainPlaceR; exact if_neg hw
    have EQ := Lib.hid e
    have qw := wq_no hw
    clear HG e hw
    go_wp2_with fail
    refine (needName _ h1).mono ?_
    rintro e w2 ⟨rfl, h2, O2⟩
    have t2 := t1.trans (Trn.of O2)
    have K2 := K1.need (en := en) (p := nameB) (by decide)
    clear t1 O2
    have hA := h2
    have hps : PsOK w0.F w2 (rb + 1) ⟨⟨8, (needR W en nameB s).1, 0, []⟩, none, 0⟩ := Or.inl ⟨rfl, rfl, rfl⟩
    go_wp2_with fail
    refine (node_any ⟨⟨8, (needR W en nameB s).1, 0, []⟩, none, 0⟩ _ hA hps K2.room).mono ?_
    rintro e w3 ⟨g3, rfl, h3, T3⟩
    have t3 := t2.trans T3
    clear t2 T3 hA hps
    go_wp2_with fail
    go_ret
    rw [EQ.out]
    exact ⟨g3, rfl, h3, t3⟩
def RelPl (w0 : Ctx) (fd : Value) (W : List (Tx × Nat)) (en rb n : Nat) (ex : RS → Int × RS) (g : Option Nat) (s : RS) (w : World) (v : Value) (wr : World) : Prop := ∃ f a s1 g1, v = .int .i64 a ∧ RdAt w0 fd W en wr rb g1 s1 ∧ Trn rb g g1 w wr ∧ Ok W n 0 1 s s1 ∧ placeL W en ex f (a, s1) = placeR W en ex s ∧ W.length + 1 ≤ s1.k + f
set_option maxHeartbeats 3200000 in
theorem place_any {w0 : Ctx} {fd : Value} {W : List (Tx × Nat)} {en rb : Nat} {g : Option Nat} {s : RS} {n : Nat} (ex : RS → Int × RS) (hF : Fng W n ex) (HG : s.bad = none → ∀ s g w, s.ar ≤ 21 → Dp n s → RdAt w0 fd W en w rb g s → Calls Tryz.prog 113 #[.pointer (some ⟨rb, 0, none⟩)] w (RP w0 fd W en rb g (ex s) w)) (ha : s.ar ≤ 30) (hd : Dp n s) (w : World) (h : RdAt w0 fd W en w rb g s) : Calls Tryz.prog 116 #[.pointer (some ⟨rb, 0, none⟩)] w (RP w0 fd W en rb g (placeR W en ex s) w) := by
  go_enter Tryz.func116, Tryz.ntmps116
  have K0 := Ok.refl h.inv hd
  have t0 := Trn.refl rb g w
  have h0 := h
  clear h
  go_wp2_with fail
  refine (plainPlace_any ex hF HG (by rw [K0.2.2.1.1]; exact ha) K0.2.2.2 _ h0).mono ?_
  rintro e w1 ⟨g1, rfl, h1, T1⟩
  have t1 := t0.trans T1
  have K1 := plainPlace_ok (en := en) hF K0
  clear t0 T1
  go_wp2_with fail
  go_loopw [3] (fun v wr => RelPl w0 fd W en rb n ex g s w v wr) (fun _ wr => W.length + 1 - kOf rb wr)
  case atStart => exact ⟨W.length + 1, (plainPlaceR W en ex s).1, (plainPlaceR W en ex s).2, g1, rfl, h1, t1, K1, rfl, by omega⟩
  case round =>
    clear h1 t1 K1 K0 g1
    obtain ⟨f, a, s1, g1, rfl, h1, t1, KR, hpl, hf⟩ := hrel
    have HKO := Lib.hid (kOf_at h1)
    have ha1 : s1.ar ≤ 30 := by rw [KR.2.2.1.1]; exact ha
    have HPL := Lib.hid hpl
    have HF := Lib.hid hf
    have TR := Lib.hid t1
    clear hpl hf t1
    have K0 := Ok.refl h1.inv KR.2.2.2
    have t0 := Trn.refl rb g1 wr
    have h0 := h1
    clear h1
    go_wp2_with fail
    refine (word_any _ h0).mono ?_
    rintro e w1 ⟨rfl, h1, O1⟩
    have t1 := t0.trans (Trn.of O1)
    have K1 := K0
    clear t0 O1
    by_cases hw : wdR W s1 = [46]
    · have qw := wq_yes hw
      have hne : wdR W s1 ≠ [] := by rw [hw]; decide
      obtain ⟨f, rfl⟩ : ∃ f0, f = f0 + 1 := ⟨f - 1, by have := HF.out; have := wdR_lt hne; omega⟩
      have HW := Lib.hid hw
      clear hw
      go_wp2_with fail
      refine (tpass_any _ h1 hne).mono ?_
      rintro e w2 ⟨rfl, h2, O2⟩
      have t2 := t1.trans (Trn.of O2)
      have K2 := K1.pass hne
      clear t1 O2
      go_wp2_with fail
      refine (needName _ h2).mono ?_
      rintro e w3 ⟨rfl, h3, O3⟩
      have t3 := t2.trans (Trn.of O3)
      have K3 := K2.need (en := en) (p := nameB) (by decide)
      clear t2 O3
      have hb := boxT w3 (.cells #[.int .i64 a] 3)
      have hA := h3.grow hb
      have t3 := t3.trans (Trn.of (h3.onl hb))
      have hps := ps1_ok (op := 9) (name := (needR W en nameB (passR s1)).1) (n := 0) a h3.lt h3.held
      clear hb
      go_wp2_with fail
      refine (node_any ⟨⟨9, (needR W en nameB (passR s1)).1, 0, [a]⟩, some ⟨w3.heap.size, 0, none⟩, 1⟩ _ hA hps K3.room).mono ?_
      rintro e w4 ⟨g4, rfl, h4, T4⟩
      have t4 := t3.trans T4
      clear t3 T4 hA hps
      have KN : Ok W n 0 (0 + 1) s1 (nodeR W ⟨9, (needR W en nameB (passR s1)).1, 0, [a]⟩ (needR W en nameB (passR s1)).2).2 := (K3.node ⟨9, (needR W en nameB (passR s1)).1, 0, [a]⟩).less (by omega) (by omega)
      have hpl2 := HPL.out
      rw [placeL_dot HW.out] at hpl2
      have hmore := KN.more (wdR_lt hne)
      have hf2 := HF.out
      have hko := HKO.out
      have HM := Lib.hid (And.intro hmore (And.intro hf2 hko))
      have HP2 := Lib.hid hpl2
      have HK2 := Lib.hid (kOf_at h4)
      clear hmore hf2 hko hpl2
      go_wp2_with fail
      go_roundw
      case rel => exact ⟨f, (nodeR W ⟨9, (needR W en nameB (passR s1)).1, 0, [a]⟩ (needR W en nameB (passR s1)).2).1, (nodeR W ⟨9, (needR W en nameB (passR s1)).1, 0, [a]⟩ (needR W en nameB (passR s1)).2).2, g4, rfl, h4, TR.out.trans t4, by have KX := KR.call KN; exact KX.less (by omega) (by omega), HP2.out, by have := HM.out; omega⟩
      case measure => (have := HM.out; have := HK2.out; have := h4.inv.1; rw [HK2.out]; omega)
    · have qw := wq_no hw
      by_cases hw2 : wdR W s1 = [91]
      · have qw2 := wq_yes hw2
        have hne : wdR W s1 ≠ [] := by rw [hw2]; decide
        obtain ⟨f, rfl⟩ : ∃ f0, f = f0 + 1 := ⟨f - 1, by have := HF.out; have := wdR_lt hne; omega⟩
        have ha1 : s1.ar ≤ 21 := by have := (KR.2.2.2 (wdR_good h1.inv hne)).2; omega
        have HE := HG (KR.2.2.1.2 (wdR_good h1.inv hne)).1
        have HW := Lib.hid hw2
        clear hw hw2 HG
        go_wp2_with fail
        refine (tpass_any _ h1 hne).mono ?_
        rintro e w2 ⟨rfl, h2, O2⟩
        have t2 := t1.trans (Trn.of O2)
        have K2 := K1.pass hne
        clear t1 O2
        go_wp2_with fail
        refine (HE (passR s1) g1 _ (by rw [K2.2.2.1.1]; exact ha1) K2.2.2.2 h2).mono ?_
        rintro e w3 ⟨g3, rfl, h3, T3⟩
        have t3 := t2.trans T3
        have K3 := K2.fn hF
        clear t2 T3
        go_wp2_with fail
        refine (needW_any ⟨#[93]⟩ (by decide) _ h3).mono ?_
        rintro e w4 ⟨rfl, h4, O4⟩
        have t4 := t3.trans (Trn.of O4)
        have K4 := K3.needW (en := en) (x := [93]) (by decide)
        clear t3 O4
        have h4 : RdAt w0 fd W en w4 rb g3 (needWR W en [93] (ex (passR s1)).2) := h4
        have hb := boxT w4 (.cells #[.int .i64 a, .int .i64 (ex (passR s1)).1] 3)
        have hA := h4.grow hb
        have t4 := t4.trans (Trn.of (h4.onl hb))
        have hps := ps2_ok (op := 10) (name := []) (n := 0) a (ex (passR s1)).1 h4.lt h4.held
        clear hb
        go_wp2_with fail
        refine (node_any ⟨⟨10, [], 0, [a, (ex (passR s1)).1]⟩, some ⟨w4.heap.size, 0, none⟩, 2⟩ _ hA hps K4.room).mono ?_
        rintro e w5 ⟨g5, rfl, h5, T5⟩
        have t5 := t4.trans T5
        clear t4 T5 hA hps
        have KN : Ok W n 0 (0 + 1) s1 (nodeR W ⟨10, [], 0, [a, (ex (passR s1)).1]⟩ (needWR W en [93] (ex (passR s1)).2)).2 := (K4.node ⟨10, [], 0, [a, (ex (passR s1)).1]⟩).less (by omega) (by omega)
        have hpl2 := HPL.out
        rw [placeL_at HW.out] at hpl2
        have hmore := KN.more (wdR_lt hne)
        have hf2 := HF.out
        have hko := HKO.out
        have HM := Lib.hid (And.intro hmore (And.intro hf2 hko))
        have HP2 := Lib.hid hpl2
        have HK2 := Lib.hid (kOf_at h5)
        clear hmore hf2 hko hpl2
        go_wp2_with fail
        go_roundw
        case rel => exact ⟨f, (nodeR W ⟨10, [], 0, [a, (ex (passR s1)).1]⟩ (needWR W en [93] (ex (passR s1)).2)).1, (nodeR W ⟨10, [], 0, [a, (ex (passR s1)).1]⟩ (needWR W en [93] (ex (passR s1)).2)).2, g5, rfl, h5, TR.out.trans t5, by have KX := KR.call KN; exact KX.less (by omega) (by omega), HP2.out, by have := HM.out; omega⟩
        case measure => (have := HM.out; have := HK2.out; have := h5.inv.1; rw [HK2.out]; omega)
      · have qw2 := wq_no hw2
        have hpl2 := HPL.out
        rw [placeL_end hw hw2] at hpl2
        have HP2 := Lib.hid hpl2
        have t2 := TR.out.trans t1
        clear hw hw2 HG HPL hpl2
        go_wp2_with fail
        go_ret
        rw [← HP2.out]
        exact ⟨g1, rfl, h1, t2⟩
end Go.Proofs.YtkhklndmbfbnoaaGreatDoor
