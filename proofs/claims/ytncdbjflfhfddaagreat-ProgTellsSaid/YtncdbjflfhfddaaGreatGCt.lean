/- Statements copied. -/
import Derived.Test.YtncdbjflfhfddaaGreatGCs
namespace Go.Proofs.YtncdbjflfhfddaaGreat
open Go.ChangeShapes Go.WideShapes Go.ChangeAt Go.RowKit Go.Joins Go.Deep
set_option linter.unusedVariables false

def tsC (t : SX × Value × Value) : List Value := [.int .i64 t.1.op, .int .i64 t.1.to, .int .i64 t.1.kind, .int .i64 t.1.e, .int .i64 t.1.n, t.2.1, t.2.2]
/-- a row of statements of the call's own -/
def RowT (base : Nat) (r : List (SX × Value × Value)) (v : Value) (w : World) : Prop :=
  (∀ t ∈ r, RowZ base t.1.body t.2.1 w ∧ RowZ base t.1.els t.2.2 w) ∧ w.ownsRow base 53 7 v r.length (r.flatMap tsC)
def RowS (base : Nat) (l : List SX) (v : Value) (w : World) : Prop := ∃ r, r.map (·.1) = l ∧ RowT base r v w
theorem RowT.form {base : Nat} {l : List (SX × Value × Value)} {v : Value} {w : World} (h : RowT base l v w) : ∃ q c, v = .slice q l.length c := by
  rcases h.2.2 with ⟨h0, h1⟩ | ⟨g, cap, cur, h0, _⟩
  · exact ⟨none, 0, by rw [h0, h1]⟩
  · exact ⟨_, _, by rw [h0]⟩
theorem RowT.nil (base : Nat) (w : World) : RowT base [] (.slice none 0 0) w := ⟨fun t h => (by cases h), rfl, Or.inl ⟨rfl, rfl⟩⟩
theorem RowT.bel {base : Nat} {l : List (SX × Value × Value)} {v : Value} {w w' : World} (h : RowT base l v w) (hb : Below w.heap.size w w') : RowT base l v w' :=
  ⟨fun t ht => ⟨(h.1 t ht).1.bel hb, (h.1 t ht).2.bel hb⟩, ownsRow_belowG h.2 hb⟩
theorem RowS.bel {base : Nat} {l : List SX} {v : Value} {w w' : World} (h : RowS base l v w) (hb : Below w.heap.size w w') : RowS base l v w' :=
  let ⟨r, hr, h⟩ := h
  ⟨r, hr, h.bel hb⟩
theorem rowZ_keptS {base b2 : Nat} {l : List Int} {v u : Value} {n : Nat} {xs : List Value} {w w' : World} (h : RowZ base l v w) (hown : w.ownsRow b2 53 7 u n xs) (hg : w.grownBy w' u.ownBlock) : RowZ base l v w' := by
  refine World.ownsRow.kept h hg ?_
  obtain ⟨_, ⟨rfl, _⟩ | ⟨g, cap, cur, rfl, _, hgc, _⟩⟩ := h
  · exact Or.inl rfl
  · refine Or.inr fun hh => ?_
    obtain ⟨_, ⟨rfl, _⟩ | ⟨g', cap', cur', rfl, _, hg', _⟩⟩ := hown
    · simp [Value.ownBlock] at hh
    · simp [Value.ownBlock] at hh
      subst hh
      have := hgc.symm.trans hg'
      simp at this
theorem RowT.grown {base : Nat} {r : List (SX × Value × Value)} {v v3 : Value} {t : SX × Value × Value} {w w' : World} (h : RowT base r v w) (hb : RowZ base t.1.body t.2.1 w) (he : RowZ base t.1.els t.2.2 w) (hg : w.grownBy w' v.ownBlock) (hn : w'.ownsRow base 53 7 v3 (r.length + 1) (r.flatMap tsC ++ tsC t)) : RowT base (r ++ [t]) v3 w' := by
  refine ⟨fun u hu => ?_, ?_⟩
  · rcases List.mem_append.1 hu with hu | hu
    · exact ⟨rowZ_keptS (h.1 u hu).1 h.2 hg, rowZ_keptS (h.1 u hu).2 h.2 hg⟩
    · obtain rfl := List.mem_singleton.1 hu
      exact ⟨rowZ_keptS hb h.2 hg, rowZ_keptS he h.2 hg⟩
  · rw [List.length_append, List.flatMap_append]
    simpa using hn
theorem gStmt : (Tryz.prog.info? 53).map (fun i => (i.zero, i.size, i.bytes)) = some (some (.agg #[.int .i64 0, .int .i64 0, .int .i64 0, .int .i64 0, .int .i64 0, .slice none 0 0, .slice none 0 0]), 7, 88) := by kernel_rfl
def CopySs (l : List SX) (w : World) (e : Ending) (w' : World) : Prop := ∃ v, e = .returned v ∧ RowS w.heap.size l v w' ∧ Below w.heap.size w w'
theorem rowZ_mono {base base' : Nat} {l : List Int} {v : Value} {w : World} (h : RowZ base l v w) (hb : base' ≤ base) : RowZ base' l v w := ownsRow_mono h hb
set_option maxRecDepth 100000 in
set_option maxHeartbeats 1600000 in
theorem copyStmts_any (v : Value) (l : List SX) (hl : l.length ≤ 100000) (hs : ∀ s ∈ l, s.body.length ≤ 100000 ∧ s.els.length ≤ 100000) (w : World) (h : IsSs w v l) : Calls Tryz.prog 24 #[v] w (CopySs l w) := by
  obtain ⟨q, cap, rfl, _, hcap, hc⟩ := h
  have cC := fun op tt k e n vb ve bd el h1 h2 w h3 h4 => copyStmt_any op tt k e n vb ve bd el h1 h2 w h3 h4
  obtain ⟨n, hn⟩ : ∃ n, n = l.length := ⟨_, rfl⟩
  rw [← hn] at hl hcap hc ⊢
  have HN := Lib.hid hn
  have HC := Lib.hid hc
  have HCC := Lib.hid cC
  have HS := Lib.hid hs
  obtain ⟨i0, hi0, hz0, hz1, hz2⟩ := info_parts gStmt
  clear hn hc cC hs
  go_enter Tryz.func24, Tryz.ntmps24
  go_wp2_with fail
  go_loopw [3, 4] (fun v3 v wr => ∃ i : Nat, ∃ r, i ≤ n ∧ v = .int .i64 (i : Nat) ∧ r.map (·.1) = l.take i ∧ RowT w.heap.size r v3 wr ∧ Below w.heap.size w wr) (fun _ v _ => n - (intOf v).toNat)
  case atStart => exact ⟨0, [], Nat.zero_le _, rfl, rfl, RowT.nil _ _, Below.refl _ _⟩
  case round =>
    obtain ⟨i, r, hi, rfl, hr, hR, hb⟩ := hrel
    have hsw := hb.size
    by_cases hlt : i < n
    · obtain ⟨b, o, rfl, hbs, hcell⟩ := HC.out (by omega)
      obtain ⟨x, hx⟩ : ∃ x, l[i]? = some x := ⟨_, List.getElem?_eq_getElem (by rw [← HN.out]; exact hlt)⟩
      obtain ⟨hsb, hse⟩ := HS.out x (List.mem_of_getElem? hx)
      obtain ⟨vb, ve, c0, c1, c2, c3, c4, c5, c6, hib, hie⟩ := QS.below _ _ _ _ _ hb (hcell i x hx)
      have hj3 : (i : Int) < (n : Int) := by omega
      have htk := take_get hx
      have cX := HCC.out x.op x.to x.kind x.e x.n vb ve x.body x.els hsb hse wr hib hie
      obtain ⟨xo, xt, xk, xe, xn, xb, xl⟩ := x
      dsimp only at c0 c1 c2 c3 c4 c5 c6 cX hib hie
      obtain ⟨qb, cb, rfl, _⟩ := id hib
      obtain ⟨qe, ce, rfl, _⟩ := id hie
      obtain ⟨m, hm⟩ : ∃ m, m = r.length := ⟨_, rfl⟩
      have hmi : m ≤ i := by
        have := congrArg List.length hr
        rw [List.length_map, List.length_take] at this
        omega
      obtain ⟨q3, cc, rfl⟩ := hR.form
      have hm1 : m + 1 ≤ maxLen := by unfold maxLen; omega
      have hm2 : (m + 1) * 88 ≤ 140737488355328 := by omega
      have HTK := Lib.hid htk
      have HM := Lib.hid hm
      have HR := Lib.hid hR
      have HB := Lib.hid hb
      have HRR := Lib.hid hr
      rw [← hm]
      clear htk hm hR hcell hx hb hib hie hr
      unfold CopySt at cX
      go_wp2_with fail
      refine cX.mono ?_
      rintro ed w2 ⟨vb2, ve2, rfl, zb, ze, hb2⟩
      have hbs := HB.out.size
      obtain ⟨q2, k2, rfl⟩ := zb.form
      obtain ⟨q4, k4, rfl⟩ := ze.form
      have hR2 := HR.out.bel hb2
      have hbx := below_box1 w2 (.cells #[.int .i64 xo, .int .i64 xt, .int .i64 xk, .int .i64 xe, .int .i64 xn, .slice q2 xb.length k2, .slice q4 xl.length k4] 53)
      have hown0 := (hR2.bel hbx).2
      have zb2 := rowZ_mono (zb.bel hbx) hbs
      have ze2 := rowZ_mono (ze.bel hbx) hbs
      have hbA := HB.out.trans ((hb2.trans (hbx.mono hb2.size)).mono hbs)
      have hR3 := hR2.bel hbx
      rw [← HM.out] at hown0
      have HR3 := Lib.hid hR3
      have HZ := Lib.hid (And.intro zb2 ze2)
      have HBA := Lib.hid hbA
      have hsz : w.heap.size ≤ (w2.alloc (.cells #[.int .i64 xo, .int .i64 xt, .int .i64 xk, .int .i64 xe, .int .i64 xn, .slice q2 xb.length k2, .slice q4 xl.length k4] 53)).heap.size := hbA.size
      clear zb ze hb2 hbs hR2 hbx zb2 ze2 hbA hR3 c0 c1 c2 c3 c4 c5 c6 cX
      go_wp2_with ((at_builtin; refine wpList_append_lies _ rfl _ _ 31 rfl w.heap.size 53 i0 _ 7 88 Tryz.underlying31 hi0 hz0 hz1 hz2 rfl (by decide) (.slice q3 m cc) m (r.flatMap tsC) rfl hown0 ⟨w2.heap.size, 0, none⟩ 1 1 [.int .i64 xo, .int .i64 xt, .int .i64 xk, .int .i64 xe, .int .i64 xn, .slice q2 xb.length k2, .slice q4 xl.length k4] rfl rfl (World.news_of_block (cs := #[.int .i64 xo, .int .i64 xt, .int .i64 xk, .int .i64 xe, .int .i64 xn, .slice q2 xb.length k2, .slice q4 xl.length k4]) (t := 53) (fr := (0, 0)) (heap_alloc_new w2 _)) (by simp [Value.oneCell']) (by omega) hm1 hm2 hsz (w2.heap.size + 1) (by simp) ?_; intro g2 cap2 w3 hown3 hgrow hat hlt3))
      have hm' := HM.out
      have hR4 : RowT w.heap.size (r ++ [((⟨xo, xt, xk, xe, xn, xb, xl⟩ : SX), .slice q2 xb.length k2, .slice q4 xl.length k4)]) (.slice (some ⟨g2, 0, none⟩) (m + 1) cap2) w3 := by
        subst hm'
        exact RowT.grown HR3.out HZ.out.1 HZ.out.2 hgrow hown3
      have hb4 := HBA.out.grown hgrow hsz (fun j hj => own_geG hown0 hj)
      clear hown3 hgrow hat hlt3 hown0 hi0 hz0 hz1 hz2
      go_wp2_with fail
      go_roundw
      case rel => exact ⟨i + 1, _, by omega, by go_num, by rw [List.map_append, HRR.out, HTK.out]; rfl, hR4, hb4⟩
      case measure => simp [intOf]; omega
    · obtain rfl : i = n := by omega
      have et : l.take i = l := List.take_of_length_le (by have := HN.out; omega)
      rw [et] at hr
      have FIN : Hid (CopySs l w (.returned u3) wr) := Lib.hid ⟨_, rfl, ⟨r, hr, hR⟩, hb⟩
      obtain ⟨q3, cc, rfl⟩ := hR.form
      clear et hR
      go_wp2_with fail
      go_ret
      exact FIN.out
end Go.Proofs.YtncdbjflfhfddaaGreat
