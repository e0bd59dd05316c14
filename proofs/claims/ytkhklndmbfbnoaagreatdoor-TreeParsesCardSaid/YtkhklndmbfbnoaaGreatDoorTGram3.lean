/- Package tree: a row of parts under way. -/
import Derived.Test.YtkhklndmbfbnoaaGreatDoorTGram2
namespace Go.Proofs.YtkhklndmbfbnoaaGreatDoor
open Go.ChangeShapes Go.WideShapes Go.ChangeAt Go.RowKit Go.Joins Go.Deep
set_option linter.unusedVariables false

/-- a row under way, left alone -/
def Ctx.on (c : Ctx) (v : Value) : Ctx := ⟨c.w, fun b => c.F b ∨ v.ownBlock = some b⟩
def ints (l : List Int) : List Value := l.map (Value.int .i64)
theorem ints_push (l : List Int) (a : Int) : ints l ++ [.int .i64 a] = ints (l ++ [a]) := by simp [ints]
section
variable {c : Ctx} {fd : Value} {W : List (Tx × Nat)} {en rb sz : Nat} {g g' g0 : Option Nat} {s s' : RS} {w w' w0 : World} {v : Value} {l : List Int}
theorem irow_typed {n : Nat} {xs : List Value} {b : Nat} (h : w.ownsRow sz 3 1 v n xs) (hb : v.ownBlock = some b) : ∃ cs, At w b cs 3 := by
  obtain ⟨_, ⟨rfl, _⟩ | ⟨k, cap, cur, rfl, _, hg, _⟩⟩ := h
  · cases hb
  · simp only [Value.ownBlock, Option.some.injEq] at hb
    subst hb
    exact ⟨cur, hg⟩
theorem RdAt.off {b : Nat} {cs : Array Value} (h : RdAt c fd W en w rb g s) (hA : At w b cs 3) : b ≠ rb ∧ g ≠ some b := by
  obtain ⟨md, nv, X, h1, h2, h3, _⟩ := h.mem
  refine ⟨at_other hA h1 (by decide), fun e => ?_⟩
  obtain ⟨cs', hc⟩ := row_typed h3 (h2.trans e)
  exact absurd (at_type hc hA) (by decide)
theorem irow_trn {n : Nat} {xs : List Value} (h : w.ownsRow sz 3 1 v n xs) (hR : RdAt c fd W en w rb g s) (hT : Trn rb g g' w w') : w'.ownsRow sz 3 1 v n xs := by
  obtain ⟨hl, ⟨rfl, h0⟩ | ⟨k, cap, cur, rfl, hbb, hg, hn, hm, hc, hx⟩⟩ := h
  · exact ⟨hl, Or.inl ⟨rfl, h0⟩⟩
  · have ho := hR.off (b := k) (cs := cur) hg
    exact ⟨hl, Or.inr ⟨k, cap, cur, rfl, hbb, hT.at (t := 3) hg ho.1 ho.2, hn, hm, hc, hx⟩⟩
theorem RdAt.begin (h : RdAt c fd W en w rb g s) (hb : Below w.heap.size w w') (v : Value) (hv : ∀ b, v.ownBlock = some b → w.heap.size ≤ b ∧ b < w'.heap.size) : RdAt (c.on v) fd W en w' rb g s := by
  obtain ⟨⟨md, nv, X, h1, h2, h3, h4⟩, hi, hbl, hba, ht, hr, hsh, hhe⟩ := h
  refine ⟨⟨md, nv, X, At.below' hb h1, h2, ⟨ownsRow_belowT h3.1 hb, fun x hx => ?_⟩, h4⟩, hi, hbl.trans (hb.mono hbl.size), hba, ht, hr, hsh, fun b hF => hF.elim (fun h => Nat.lt_of_lt_of_le (hhe b h) hb.size) (fun e => (hv b e).2)⟩
  rcases h3.2 x hx with h | ⟨hc, b, cs, e1, e2, hf, hA, h5⟩
  · exact Or.inl h
  · refine Or.inr ⟨hc, b, cs, e1, e2, fun hF => hF.elim hf fun e => ?_, At.below' hb hA, h5⟩
    have := (hv b e).1
    have := hA.lt
    omega
theorem RdAt.drop (h : RdAt (c.on v) fd W en w rb g s) : RdAt c fd W en w rb g s := by
  obtain ⟨⟨md, nv, X, h1, h2, h3, h4⟩, hi, hbl, hba, ht, hr, hsh, hhe⟩ := h
  refine ⟨⟨md, nv, X, h1, h2, ⟨h3.1, fun x hx => ?_⟩, h4⟩, hi, hbl, hba, ht, hr, hsh, fun b hF => hhe b (Or.inl hF)⟩
  rcases h3.2 x hx with h | ⟨hc, b, cs, e1, e2, hf, hA, h5⟩
  · exact Or.inl h
  · exact Or.inr ⟨hc, b, cs, e1, e2, fun hF => hf (Or.inl hF), hA, h5⟩
theorem RdAt.grows {n : Nat} {xs : List Value} (h : RdAt (c.on v) fd W en w rb g s) (hown : w.ownsRow sz 3 1 v n xs) (hsz : rb < sz) (hg : w.grownBy w' v.ownBlock) {k m cap : Nat} (hat : v.ownBlock = some k ∨ k = w.heap.size) (hk : k < w'.heap.size) (hs : w.heap.size ≤ w'.heap.size) : RdAt (c.on (.slice (some ⟨k, 0, none⟩) m cap)) fd W en w' rb g s := by
  obtain ⟨⟨md, nv, X, h1, h2, h3, h4⟩, hi, hbl, hba, ht, hr, hsh, hhe⟩ := h
  have hne : ∀ b cs t, At w b cs t → t ≠ 3 → v.ownBlock ≠ some b := fun b cs t hA ht e => by
    obtain ⟨cs', hc⟩ := irow_typed hown e
    exact ht (at_type hA hc)
  have hlow : c.w.heap.size ≤ rb := hba
  refine ⟨⟨md, nv, X, At.grownT h1 hg (hne _ _ _ h1 (by decide)), h2, ⟨?_, fun x hx => ?_⟩, h4⟩, hi, Below.grown hbl hg hbl.size (fun j hj => by have := own_geT hown hj; show c.w.heap.size ≤ j; omega), hba, ht, hr, hsh, fun b hF => hF.elim (fun h => Nat.lt_of_lt_of_le (hhe b (Or.inl h)) hs) (fun e => ?_)⟩
  · obtain ⟨hl, ⟨rfl, h0⟩ | ⟨k, cap, cur, rfl, hbb, hG, hn, hm, hc, hx⟩⟩ := h3.1
    · exact ⟨hl, Or.inl ⟨rfl, h0⟩⟩
    · exact ⟨hl, Or.inr ⟨k, cap, cur, rfl, hbb, At.grownT (t := 83) hG hg (hne _ _ _ hG (by decide)), hn, hm, hc, hx⟩⟩
  · rcases h3.2 x hx with h | ⟨hc, b, cs, e1, e2, hf, hA, h5⟩
    · exact Or.inl h
    · refine Or.inr ⟨hc, b, cs, e1, e2, fun hF => hF.elim (fun h => hf (Or.inl h)) fun e => ?_, At.grownT hA hg (fun e => hf (Or.inr e)), h5⟩
      have hkb : k = b := by simpa [Value.ownBlock] using e
      subst hkb
      rcases hat with h6 | h6
      · exact hf (Or.inr h6)
      · have := hA.lt
        omega
  · have hkb : k = b := by simpa [Value.ownBlock] using e
    omega
theorem trn_grows {n : Nat} {xs : List Value} (hT : Trn rb g0 g w0 w) (hown : w.ownsRow w0.heap.size 3 1 v n xs) (hrb : rb < w0.heap.size) (hg : w.grownBy w' v.ownBlock) : Trn rb g0 g w0 w' := by
  have hs := hT.1.size
  refine ⟨hT.1.grown hg (by omega) (fun k hk => by have := own_geT hown hk; omega), fun b hb hr hgb => ?_, hT.2.2⟩
  exact (hg.block b (by omega) (fun e => by have := own_geT hown e.symm; omega)).trans (hT.2.1 b hb hr hgb)
/-- a row of parts under way, begun behind an elder world -/
structure RowIn (c : Ctx) (fd : Value) (W : List (Tx × Nat)) (en rb : Nat) (w0 : World) (g0 g : Option Nat) (s : RS) (v : Value) (l : List Int) (w : World) : Prop where
  rd : RdAt (c.on v) fd W en w rb g s
  own : w.ownsRow w0.heap.size 3 1 v l.length (ints l)
  trn : Trn rb g0 g w0 w
  old : rb < w0.heap.size
  elder : ∀ b, c.F b → b < w0.heap.size
theorem RowIn.call (h : RowIn c fd W en rb w0 g0 g s v l w) (h' : RdAt (c.on v) fd W en w' rb g' s') (t : Trn rb g g' w w') : RowIn c fd W en rb w0 g0 g' s' v l w' :=
  ⟨h', irow_trn h.own h.rd t, h.trn.trans t, h.old, h.elder⟩
theorem RowIn.none (h : RdAt c fd W en w rb g s) (t : Trn rb g0 g w0 w) (ho : rb < w0.heap.size) (he : ∀ b, c.F b → b < w0.heap.size) : RowIn c fd W en rb w0 g0 g s (.slice none 0 0) [] w :=
  ⟨h.begin (Below.refl _ _) _ (fun b e => by cases e), ⟨rfl, Or.inl ⟨rfl, rfl⟩⟩, t, ho, he⟩
theorem RowIn.one (a : Int) (h : RdAt c fd W en w rb g s) (t : Trn rb g0 g w0 w) (ho : rb < w0.heap.size) (he : ∀ b, c.F b → b < w0.heap.size) : RowIn c fd W en rb w0 g0 g s (.slice (some ⟨w.heap.size, 0, .none⟩) 1 1) [a] (w.alloc (.cells #[.int .i64 a] 3)) := by
  have hb := boxT w (.cells #[.int .i64 a] 3)
  have hs := t.1.size
  have hs0 : w0.heap.size ≤ w.heap.size := hs
  exact ⟨h.begin hb _ (fun b e => by
      have : w.heap.size = b := by simpa [Value.ownBlock] using e
      subst this
      exact ⟨Nat.le_refl _, by show _ < (w.heap.push _).size; simp⟩), ownsRow_lit w w0.heap.size 3 1 1 #[.int .i64 a] hs0 rfl (by decide), t.trans (Trn.of (h.onl hb)), ho, he⟩
theorem RowIn.push {a : Int} {k cap : Nat} (h : RowIn c fd W en rb w0 g0 g s v l w) (h2 : w'.ownsRow w0.heap.size 3 1 (.slice (some ⟨k, 0, .none⟩) (l.length + 1) cap) (l.length + 1) (ints l ++ [.int .i64 a])) (hg : (w.alloc (.cells #[.int .i64 a] 3)).grownBy w' v.ownBlock) (hat : v.ownBlock = some k ∨ k = (w.alloc (.cells #[.int .i64 a] 3)).heap.size) (hk : k < w'.heap.size) : RowIn c fd W en rb w0 g0 g s (.slice (some ⟨k, 0, .none⟩) (l.length + 1) cap) (l ++ [a]) w' := by
  have hb := boxT w (.cells #[.int .i64 a] 3)
  have ho := ownsRow_belowT h.own hb
  refine ⟨(h.rd.grow hb).grows ho h.old hg hat hk hg.size, ?_, trn_grows (h.trn.trans (Trn.of (h.rd.onl hb))) ho h.old hg, h.old, h.elder⟩
  rw [← ints_push, List.length_append]
  exact h2
theorem RowIn.form (h : RowIn c fd W en rb w0 g0 g s v l w) : ∃ q cc, v = .slice q l.length cc := by
  obtain ⟨hl, ⟨rfl, h0⟩ | ⟨k, cap, cur, rfl, hbb, hG, hn, hm, hc, hx⟩⟩ := h.own
  · exact ⟨_, 0, by rw [h0]⟩
  · exact ⟨_, cap, rfl⟩
theorem RowIn.out (h : RowIn c fd W en rb w0 g0 g s v l w) (op : Int) (name : Tx) (n : Int) : RdAt c fd W en w rb g s ∧ ∃ q cap, v = .slice q l.length cap ∧ PsOK c.F w (rb + 1) ⟨⟨op, name, n, l⟩, q, cap⟩ := by
  refine ⟨h.rd.drop, ?_⟩
  have hrb := h.old
  obtain ⟨hl, ⟨rfl, h0⟩ | ⟨k, cap, cur, rfl, hbb, hG, hn, hm, hc, hx⟩⟩ := h.own
  · refine ⟨.none, 0, by rw [h0], Or.inl ⟨List.eq_nil_of_length_eq_zero h0, rfl, rfl⟩⟩
  · refine ⟨_, cap, rfl, Or.inr ⟨⟨hn, Nat.le_trans hn hm⟩, k, cur, rfl, by omega, fun hF => by have := h.elder k hF; omega, hG, fun i hi => ?_⟩⟩
    have e1 : (ints l)[i]? = some (.int .i64 (l.getD i 0)) := by
      have hi2 : i < l.length := hi
      simp [ints, List.getD_eq_getElem?_getD, List.getElem?_eq_getElem hi2]
    rw [← hx, List.getElem?_take, if_pos (by have hi2 : i < l.length := hi; omega)] at e1
    simpa using e1
end
end Go.Proofs.YtkhklndmbfbnoaaGreatDoor

/- Package tree: fields. -/
namespace Go.Proofs.YtkhklndmbfbnoaaGreatDoor
open Go.ChangeShapes Go.WideShapes Go.ChangeAt Go.RowKit Go.Joins Go.Deep
set_option linter.unusedVariables false

theorem Tryz.infoInt : (Tryz.prog.info? 3).map (fun i => (i.zero, i.size, i.bytes)) = some (some (.int .i64 0), 1, 8) := by kernel_rfl
def RelFl (w0 : Ctx) (fd : Value) (W : List (Tx × Nat)) (en rb n : Nat) (ty : RS → Int × RS) (R : List Int × RS) (g : Option Nat) (s : RS) (w : World) (v : Value) (wr : World) : Prop := ∃ f l s1 g1, RowIn w0 fd W en rb w g g1 s1 v l wr ∧ Ok W n 2 1 s s1 ∧ fieldsL W en ty f l s1 = R ∧ W.length + 1 ≤ s1.k + f ∧ l.length + f ≤ W.length + 2
set_option maxRecDepth 100000 in
set_option maxHeartbeats 3200000 in
theorem fields_any {w0 : Ctx} {fd : Value} {W : List (Tx × Nat)} {en rb : Nat} {g : Option Nat} {s : RS} {n : Nat} (ty : RS → Int × RS) (hF : Fng W n ty) (HT : ∀ (c : Ctx) s g w, s.ar ≤ 21 → Dp n s → RdAt c fd W en w rb g s → Calls Tryz.prog 111 #[.pointer (some ⟨rb, 0, none⟩)] w (RP c fd W en rb g (ty s) w)) (op : Int) (ha : s.ar ≤ 21) (hd : Dp n s) (w : World) (h : RdAt w0 fd W en w rb g s) : Calls Tryz.prog 165 #[.pointer (some ⟨rb, 0, none⟩), .int .i64 op] w (RP w0 fd W en rb g (fieldsR W en ty op s) w) := by
  have hold := h.lt
  have helder := h.held
  go_enter Tryz.func165, Tryz.ntmps165
  have K0 := Ok.refl h.inv hd
  have t0 := Trn.refl rb g w
  have h0 := h
  clear h
  go_wp2_with fail
  refine (needW_any ⟨#[123]⟩ (by decide) _ h0).mono ?_
  rintro e w1 ⟨rfl, h1, O1⟩
  have t1 := t0.trans (Trn.of O1)
  have K1 := K0.needW (en := en) (x := [123]) (by decide)
  clear t0 O1
  have h1 : RdAt w0 fd W en w1 rb g (needWR W en [123] s) := h1
  go_wp2_with fail
  refine (named_any ty hF (HT _) 7 (by rw [K1.2.2.1.1]; exact ha) K1.2.2.2 _ h1).mono ?_
  rintro e w2 ⟨g2, rfl, h2, T2⟩
  have t2 := t1.trans T2
  have K2 := named_ok (en := en) hF 7 K1
  clear t1 T2
  have hR := RowIn.one (namedR W en ty 7 (needWR W en [123] s)).1 h2 t2 hold helder
  go_wp2_with fail
  go_loopw [5] (fun v wr => RelFl w0 fd W en rb n ty (fieldsL W en ty (W.length + 1) [(namedR W en ty 7 (needWR W en [123] s)).1] (namedR W en ty 7 (needWR W en [123] s)).2) g s w v wr) (fun _ wr => W.length + 1 - kOf rb wr)
  case atStart => exact ⟨W.length + 1, [(namedR W en ty 7 (needWR W en [123] s)).1], (namedR W en ty 7 (needWR W en [123] s)).2, g2, hR, K2.less (by omega) (by omega), rfl, by omega, by show 1 + _ ≤ _; omega⟩
  case round =>
    clear h2 t2 K2 K0 g2 hR helder hold
    obtain ⟨f, l, s1, g1, hR, KR, hpl, hf, hlf⟩ := hrel
    have HKO := Lib.hid (kOf_at hR.rd)
    have ha1 : s1.ar ≤ 21 := by rw [KR.2.2.1.1]; exact ha
    have hWL : W.length ≤ 1000000 := by obtain ⟨_, _, _, h, _⟩ := hR.rd.toks; exact h
    have hm1 : l.length + 1 ≤ maxLen := by unfold maxLen; omega
    have hm2 : (l.length + 1) * 8 ≤ 140737488355328 := by omega
    have HPL := Lib.hid hpl
    have HF := Lib.hid (And.intro hf hlf)
    clear hpl hf hlf hWL
    have K0 := Ok.refl hR.rd.inv KR.2.2.2
    have t0 := Trn.refl rb g1 wr
    have h0 := hR.rd
    go_wp2_with fail
    refine (atEnd_any _ h0).mono ?_
    rintro e w1 ⟨rfl, h1, O1⟩
    have t1 := t0.trans (Trn.of O1)
    have K1 := K0
    clear t0 O1
    by_cases hk : s1.k = W.length
    · have qk : (s1.k == W.length) = true := by rw [beq_iff_eq]; exact hk
      have hpl := HPL.out
      rw [fieldsL_end (fun h => by omega)] at hpl
      have hRe := hR.call h1 t1
      obtain ⟨hO, q, cc, rfl, hps⟩ := hRe.out op [] 0
      have tO := hRe.trn
      have HP := Lib.hid hpl
      clear hpl hRe hR HPL h1 t1 HF HKO
      go_wp2_with fail
      refine (needW_any ⟨#[125]⟩ (by decide) _ hO).mono ?_
      rintro e w8 ⟨rfl, h8, O8⟩
      have t8 := tO.trans (Trn.of O8)
      have K8 := KR.needW (en := en) (x := [125]) (by decide)
      have h8 : RdAt w0 fd W en w8 rb g1 (needWR W en [125] s1) := h8
      have hps8 : PsOK w0.F w8 (rb + 1) ⟨⟨op, [], 0, l⟩, q, cc⟩ := hps.keep fun b cs hb => O8.at hb (hO.off hb).1
      clear tO O8 hps
      go_wp2_with fail
      refine (node_any ⟨⟨op, [], 0, l⟩, q, cc⟩ _ h8 hps8 K8.room).mono ?_
      rintro e w9 ⟨g9, rfl, h9, T9⟩
      have t9 := t8.trans T9
      clear t8 T9 h8 hps8
      go_wp2_with fail
      go_ret
      unfold fieldsR
      dsimp only
      rw [← HP.out]
      exact ⟨g9, rfl, h9, t9⟩
    · have qk : (s1.k == W.length) = false := by rw [beq_eq_false_iff_ne]; exact hk
      go_wp2_with fail
      refine (word_any _ h1).mono ?_
      rintro e w2 ⟨rfl, h2, O2⟩
      have t2 := t1.trans (Trn.of O2)
      have K2 := K1
      clear t1 O2
      by_cases hw : wdR W s1 = [125]
      · have qw := wq_yes hw
        have hpl := HPL.out
        rw [fieldsL_end (fun h => h.2 hw)] at hpl
        have hRe := hR.call h2 t2
        obtain ⟨hO, q, cc, rfl, hps⟩ := hRe.out op [] 0
        have tO := hRe.trn
        have HP := Lib.hid hpl
        clear hpl hRe hR HPL h2 t2 HF HKO
        go_wp2_with fail
        refine (needW_any ⟨#[125]⟩ (by decide) _ hO).mono ?_
        rintro e w8 ⟨rfl, h8, O8⟩
        have t8 := tO.trans (Trn.of O8)
        have K8 := KR.needW (en := en) (x := [125]) (by decide)
        have h8 : RdAt w0 fd W en w8 rb g1 (needWR W en [125] s1) := h8
        have hps8 : PsOK w0.F w8 (rb + 1) ⟨⟨op, [], 0, l⟩, q, cc⟩ := hps.keep fun b cs hb => O8.at hb (hO.off hb).1
        clear tO O8 hps
        go_wp2_with fail
        refine (node_any ⟨⟨op, [], 0, l⟩, q, cc⟩ _ h8 hps8 K8.room).mono ?_
        rintro e w9 ⟨g9, rfl, h9, T9⟩
        have t9 := t8.trans T9
        clear t8 T9 h8 hps8
        go_wp2_with fail
        go_ret
        unfold fieldsR
        dsimp only
        rw [← HP.out]
        exact ⟨g9, rfl, h9, t9⟩
      · have qw := wq_no hw
        have hlt : s1.k < W.length := by have := h2.inv.1; omega
        have hff := HF.out
        obtain ⟨f, rfl⟩ : ∃ f0, f = f0 + 1 := ⟨f - 1, by omega⟩
        have hpl := HPL.out
        rw [fieldsL_more ⟨hlt, hw⟩] at hpl
        have HPN := Lib.hid hpl
        clear HPL hpl hk hw hff
        obtain ⟨q, cc, rfl⟩ := hR.form
        go_wp2_with fail
        refine (named_any ty hF (HT _) 7 (by rw [K2.2.2.1.1]; exact ha1) K2.2.2.2 _ h2).mono ?_
        rintro e w3 ⟨g3, rfl, h3, T3⟩
        have t3 := t2.trans T3
        have K3 := named_ok (en := en) hF 7 K2
        clear t2 T3
        have hR2 := hR.call h3 t3
        have HK3 := Lib.hid K3
        have HH := Lib.hid hlt
        clear t3 K0 K1 K2 K3 hlt h3
        obtain ⟨i0, hi0, hz0, hz1, hz2⟩ := info_parts Tryz.infoInt
        have hownP := ownsRow_belowT hR2.own (boxT w3 (.cells #[.int .i64 (namedR W en ty 7 s1).1] 3))
        have hszP : w.heap.size ≤ (w3.alloc (.cells #[.int .i64 (namedR W en ty 7 s1).1] 3)).heap.size := by have := hR2.trn.1.size; show _ ≤ (w3.heap.push _).size; simp; omega
        go_wp2_with ((at_builtin; refine wpList_append_lies _ rfl _ _ 23 rfl w.heap.size 3 i0 _ 1 8 Tryz.underlying23 hi0 hz0 hz1 hz2 rfl (by decide) (.slice q l.length cc) l.length (ints l) rfl hownP ⟨w3.heap.size, 0, none⟩ 1 1 [.int .i64 (namedR W en ty 7 s1).1] rfl rfl (World.news_of_block (cs := #[.int .i64 (namedR W en ty 7 s1).1]) (t := 3) (fr := (0, 0)) (heap_alloc_new w3 _)) (by simp [Value.oneCell']) (by omega) hm1 hm2 hszP _ rfl ?_; intro k2 cap2 w4 hown3 hgrow hat hlt3))
        have hRn := Lib.hid (hR2.push hown3 hgrow hat hlt3)
        clear hown3 hgrow hat hlt3 hownP hszP hi0 hz0 hz1 hz2 hm1 hm2
        go_wp2_with fail
        go_roundw
        case rel => (have hmo := HK3.out.more HH.out; have := HF.out; have KX := KR.call HK3.out; exact ⟨f, l ++ [(namedR W en ty 7 s1).1], (namedR W en ty 7 s1).2, g3, hRn.out, KX.less (by omega) (by omega), HPN.out, by omega, by rw [List.length_append]; show _ + 1 + _ ≤ _; omega⟩)
        case measure => (have hmo := HK3.out.more HH.out; have := HKO.out; have h5 := kOf_at hRn.out.rd; have := hRn.out.rd.inv.1; rw [h5]; omega)
end Go.Proofs.YtkhklndmbfbnoaaGreatDoor
