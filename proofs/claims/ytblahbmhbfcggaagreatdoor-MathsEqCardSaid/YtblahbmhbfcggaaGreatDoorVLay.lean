/- Package val: lay: the numbers of a pattern in spans, laid out. -/
import Derived.Test.YtblahbmhbfcggaaGreatDoorVNarrow
import Derived.Deep.AppendLies
import Derived.Deep.RegionLaw
namespace Go.Proofs.YtblahbmhbfcggaaGreatDoor
open Go.ChangeShapes Go.WideShapes Go.ChangeAt Go.RowKit Go.Joins Go.Deep
set_option linter.unusedVariables false

theorem Tryz.infoSpan : (Tryz.prog.info? 166).map (fun i => (i.zero, i.size, i.bytes)) = some (some (.agg #[.int .i64 0, .int .i64 0]), 2, 16) := by kernel_rfl

def SrcV (w : World) (sv : Value) (S : Spans) : Prop := ∃ p cap, sv = .slice p S.length cap ∧ (S.length = 0 ∨ ∃ g, p = some ⟨g, 0, none⟩ ∧ HasSpans w g S)
theorem HasSpans.at {w w' : World} {g : Nat} {S : Spans} (h : HasSpans w g S) (hb : Below w.heap.size w w') {j : Nat} (hj : j < S.length) :
    w'.cell? ⟨g, j * 2, none⟩ = some (.int .i64 (S[j].1 : Nat)) ∧ w'.cell? ⟨g, j * 2 + 1, none⟩ = some (.int .i64 (S[j].2 : Nat)) ∧ g < w.heap.size :=
  ⟨cell_below (h j hj).1 hb, cell_below (h j hj).2 hb, World.block_lt_of_cell? w _ (h j hj).1⟩
theorem ownsRow_below {w w' : World} {base : Nat} {e : TypeId} {size : Nat} {v : Value} {n : Nat} {xs : List Value} (h : w.ownsRow base e size v n xs) (hb : Below w.heap.size w w') : w'.ownsRow base e size v n xs := by
  obtain ⟨hl, h | ⟨g, cap, cur, hv, hbs, hg, h1⟩⟩ := h
  · exact ⟨hl, Or.inl h⟩
  · refine ⟨hl, Or.inr ⟨g, cap, cur, hv, hbs, ?_, h1⟩⟩
    have hlt : g < w.heap.size := by
      rcases Nat.lt_or_ge g w.heap.size with h' | h'
      · exact h'
      · rw [Array.getElem?_eq_none h'] at hg; cases hg
    exact (hb.block g hlt).trans hg
theorem own_ne {w : World} {base b : Nat} {e : TypeId} {size : Nat} {v : Value} {n : Nat} {xs : List Value} (h : w.ownsRow base e size v n xs) (hb : b < base) : v.ownBlock ≠ some b := by
  obtain ⟨hl, ⟨rfl, _⟩ | ⟨g, cap, cur, rfl, hbs, hg, h1⟩⟩ := h
  · simp [Value.ownBlock]
  · simp [Value.ownBlock]; omega
theorem own_lt {w : World} {base b : Nat} {e : TypeId} {size : Nat} {v : Value} {n : Nat} {xs : List Value} (h : w.ownsRow base e size v n xs) (hb : w.heap.size ≤ b) : v.ownBlock ≠ some b := by
  obtain ⟨hl, ⟨rfl, _⟩ | ⟨g, cap, cur, rfl, hbs, hg, h1⟩⟩ := h
  · simp [Value.ownBlock]
  · have hlt : g < w.heap.size := by
      rcases Nat.lt_or_ge g w.heap.size with h' | h'
      · exact h'
      · rw [Array.getElem?_eq_none h'] at hg; cases hg
    simp [Value.ownBlock]; omega
theorem own_ge {w : World} {base b : Nat} {e : TypeId} {size : Nat} {v : Value} {n : Nat} {xs : List Value} (h : w.ownsRow base e size v n xs) (hb : v.ownBlock = some b) : base ≤ b := by
  rcases Nat.lt_or_ge b base with h' | h'
  · exact absurd hb (own_ne h h')
  · exact h'
theorem own_setOther {w : World} {base : Nat} {e : TypeId} {size : Nat} {v : Value} {n : Nat} {xs : List Value} (h : w.ownsRow base e size v n xs) (q : Addr) (x : Value) (hq : q.block < base) : (w.setCell q x).ownsRow base e size v n xs := by
  obtain ⟨hl, h | ⟨g, cap, cur, hv, hbs, hg, h1⟩⟩ := h
  · exact ⟨hl, Or.inl h⟩
  · exact ⟨hl, Or.inr ⟨g, cap, cur, hv, hbs, (Below.heap_setCell w q x g (by omega)).trans hg, h1⟩⟩
theorem At.setOther {w : World} {b : Nat} {cs : Array Value} {t : TypeId} (h : At w b cs t) (q : Addr) (x : Value) (hq : b ≠ q.block) : At (w.setCell q x) b cs t := (Below.heap_setCell w q x b hq).trans h
theorem At.grown {w w' : World} {row : Option Nat} {b : Nat} {cs : Array Value} {t : TypeId} (h : At w b cs t) (hg : w.grownBy w' row) (hn : row ≠ some b) : At w' b cs t := (hg.block b h.lt (Ne.symm hn)).trans h
theorem below_step {B : Nat} {a w1 w2 c : World} (hb : Below w2.heap.size w2 c) (h : Below B a w1) (h1 : w2.os = w1.os) (h2 : w2.tape = w1.tape) (h3 : w2.output = w1.output) (h4 : w2.heap = w1.heap) (hB : B ≤ w1.heap.size) : Below B a c :=
  ⟨(hb.os.trans h1).trans h.os, (hb.tape.trans h2).trans h.tape, (hb.output.trans h3).trans h.output, by have := hb.size; have := h.size; rw [h4] at *; omega, fun i hi => by rw [hb.block i (by rw [h4]; omega), h4]; exact h.block i hi⟩
theorem ownsRow_step {w1 w2 c : World} {base : Nat} {e : TypeId} {size : Nat} {v : Value} {n : Nat} {xs : List Value} (hb : Below w2.heap.size w2 c) (h : w1.ownsRow base e size v n xs) (h4 : w2.heap = w1.heap) : c.ownsRow base e size v n xs := by
  refine ownsRow_below (w := w2) ?_ hb
  obtain ⟨hl, h | ⟨g, cap, cur, hv, hbs, hg, h1⟩⟩ := h
  · exact ⟨hl, Or.inl h⟩
  · exact ⟨hl, Or.inr ⟨g, cap, cur, hv, hbs, by rw [h4]; exact hg, h1⟩⟩
theorem keep5_set {w : World} {p q r s t z : Addr} {a b c d e x : Value} (h : w.cell? p = some a ∧ w.cell? q = some b ∧ w.cell? r = some c ∧ w.cell? s = some d ∧ w.cell? t = some e) (h1 : p.block ≠ z.block) (h2 : q.block ≠ z.block) (h3 : r.block ≠ z.block) (h4 : s.block ≠ z.block) (h5 : t.block ≠ z.block) :
    (w.setCell z x).cell? p = some a ∧ (w.setCell z x).cell? q = some b ∧ (w.setCell z x).cell? r = some c ∧ (w.setCell z x).cell? s = some d ∧ (w.setCell z x).cell? t = some e := ⟨cell_set h.1 h1, cell_set h.2.1 h2, cell_set h.2.2.1 h3, cell_set h.2.2.2.1 h4, cell_set h.2.2.2.2 h5⟩
/-- a layout that grows -/
def LayOwn (w : World) (bl base : Nat) (k f b : Nat) (L : Spans) (c : Int) : Prop := ∃ sl, At w bl (layC k f b sl c) 158 ∧ w.ownsRow base 166 2 sl L.length (spansC L) ∧ (L = [] → sl = .slice none 0 0)
theorem layAt_own {w : World} {bl base k f b : Nat} {L : Spans} {c : Int} {sl : Value} (hA : At w bl (layC k f b sl c) 158) (hown : w.ownsRow base 166 2 sl L.length (spansC L)) (hnil : L = [] → sl = .slice none 0 0) (hl : L.length ≤ 1000) (lo : Nat) (hlo : lo ≤ bl) (hbl : bl < base := by omega) : LayAt w lo bl k f b L c := by
  refine ⟨sl, hA, ?_, hl, hlo⟩
  by_cases h0 : L = []
  · exact Or.inl ⟨h0, hnil h0⟩
  · have hp : 0 < L.length := by cases L with
      | nil => exact absurd rfl h0
      | cons x r => simp
    have hne : sl ≠ .slice none 0 0 := by
      rintro rfl
      obtain ⟨g, cap, hv, _⟩ := hown.form hp
      cases hv
    obtain ⟨g, cap, hv, hg, hlt, _, hc⟩ := ownsRow_cells hown hne
    refine Or.inr ⟨hp, g, cap, hv, ⟨by omega, by omega⟩, fun i hi => ?_⟩
    obtain ⟨h1, h2⟩ := spansC_get L i hi
    rw [Nat.mul_comm 2 i] at h1 h2
    exact ⟨hc _ _ h1, hc _ _ h2⟩
def RelLay (S : Spans) (k f b N : Nat) (w : World) (v : Value) (wr : World) : Prop :=
  ∃ (j : Nat) (L : Spans), j ≤ S.length ∧ v = .int .i64 j ∧ Laid k f b (S.take j) L ∧ LayOwn wr (N + 1) (N + 2) k f b L (sumR f L) ∧ At wr N #[.int .i64 k, .int .i64 f, .int .i64 b] 152 ∧ Below w.heap.size w wr ∧ N + 2 ≤ wr.heap.size
def LayPost (k f b : Nat) (S : Spans) (w : World) (e : Ending) (w' : World) : Prop :=
  ∃ L bl, Laid k f b S L ∧ e = .returned (.pointer (some ⟨bl, 0, none⟩)) ∧ LayAt w' w.heap.size bl k (narF f L) (narB f b L) L (sumR f L) ∧ w.heap.size ≤ bl ∧ Below w.heap.size w w'

set_option maxRecDepth 100000 in
set_option maxHeartbeats 3200000 in
theorem lay_any (k f b : Nat) (S : Spans) (sv : Value) (ok : PatOk k f b) (hS : ∀ s ∈ S, s.1 < 2 ^ k ∧ s.2 < 2 ^ k) (hlen : S.length ≤ 100) (w : World) (hsrc : SrcV w sv S) :
    Calls Tryz.prog 158 #[patV k f b, sv] w (LayPost k f b S w) := by
  obtain ⟨p, cap0, rfl, hsv⟩ := hsrc
  have hp := ok.hk.pow
  have hf3 := ok.hf
  have d0 := (At.new w #[.int .i64 k, .int .i64 f, .int .i64 b] 152).alloc (.cells (layC k f b (.slice none 0 0) 0) 158)
  have d1 := At.new (w.alloc (.cells #[.int .i64 k, .int .i64 f, .int .i64 b] 152)) (layC k f b (.slice none 0 0) 0) 158
  simp only [World.size_alloc] at d1
  have hb0 : Below w.heap.size w ((w.alloc (.cells #[.int .i64 k, .int .i64 f, .int .i64 b] 152)).alloc (.cells (layC k f b (.slice none 0 0) 0) 158)) := ((Below.refl _ _).alloc (Nat.le_refl _) _).alloc (by simp) _
  unfold layC at d0 d1 hb0
  obtain ⟨n, hn⟩ : ∃ n, n = S.length := ⟨_, rfl⟩
  rw [← hn] at hsv hlen ⊢
  have HN := Lib.hid hn
  clear hn
  go_enter Tryz.func158, Tryz.ntmps158
  go_wp2_with fail
  go_loopw [15] (fun v wr => RelLay S k f b w.heap.size w v wr) (fun v _ => n - (intOf v).toNat)
  case atStart => exact ⟨0, [], by omega, rfl, by simpa using Laid.nil k f b, ⟨_, d1, World.ownsRow_nil _ _ _ _, fun _ => rfl⟩, d0, hb0, by simp⟩
  case round =>
    obtain ⟨j, L, hj, rfl, hlaid, ⟨sl, hA, hown, hnil⟩, hbox, hb, hsz⟩ := hrel
    clear d0 d1 hb0
    by_cases hlt : j < n
    · have hjS : j < S.length := by have := HN.out; omega
      obtain ⟨g, rfl, hH⟩ := hsv.resolve_left (by omega)
      obtain ⟨s0, s1, hgl⟩ := hH.at hb hjS
      obtain ⟨bx, by_⟩ := hS _ (List.getElem_mem hjS)
      obtain ⟨x, y, hxy⟩ : ∃ x y, S[j] = (x, y) := ⟨_, _, rfl⟩
      rw [hxy] at s0 s1 bx by_
      simp only at s0 s1 bx by_
      have cT := fun w => trim_any k f b x y ok bx by_ w
      have hlt1 : (j : Int) < (n : Int) := by omega
      have HXY := Lib.hid hxy
      have q0 : wr.cell? ⟨w.heap.size, 0, none⟩ = some (.int .i64 k) := hbox.cell 0 rfl
      have q1 : wr.cell? ⟨w.heap.size, 1, none⟩ = some (.int .i64 f) := hbox.cell 1 rfl
      have q2 : wr.cell? ⟨w.heap.size, 2, none⟩ = some (.int .i64 b) := hbox.cell 2 rfl
      have hN : w.heap.size < wr.heap.size := by omega
      clear hxy hsv hH
      go_wp2_with fail
      have e0 : (w.heap.size < wr.heap.size) := hN
      refine (cT _).mono ?_
      rintro e w1 ⟨r, s, is, hres, rfl, hbt⟩
      have dX := At.below' hbt (At.new wr #[.int .i64 x, .int .i64 y] 166)
      replace hbox := At.below' hbt (hbox.alloc _)
      replace hA := At.below' hbt (hA.alloc _)
      replace hown := ownsRow_below (hown.alloc (.cells #[.int .i64 x, .int .i64 y] 166)) hbt
      replace hb := (hb.alloc (Nat.le_of_lt hN) _).trans (hbt.mono (by simp; omega))
      have hsz1 : wr.heap.size + 1 ≤ w1.heap.size := by have := hbt.size; simpa using this
      clear s0 s1 q0 q1 q2 hbt
      rcases hres with ⟨rfl, x2, y2, rfl, rfl, ht⟩ | ⟨rfl, rfl, rfl, ht⟩
      · have d8 := At.new w1 #[.int .i64 x2, .int .i64 y2] 166
        replace hbox := hbox.alloc (.cells #[.int .i64 x2, .int .i64 y2] 166)
        replace hA := hA.alloc (.cells #[.int .i64 x2, .int .i64 y2] 166)
        have hown1 := hown
        replace hown := hown.alloc (.cells #[.int .i64 x2, .int .i64 y2] 166)
        replace hb := hb.alloc (by omega) (.cells #[.int .i64 x2, .int .i64 y2] 166)
        have hsz2 : w.heap.size + 2 ≤ (w1.alloc (.cells #[.int .i64 x2, .int .i64 y2] 166)).heap.size := by simp; omega
        go_wp2_with fail
        have hB8 : w.heap.size + 2 ≤ w1.heap.size := by omega
        have ag8 := own_lt hown1 (Nat.le_refl w1.heap.size)
        generalize w1.alloc (.cells #[.int .i64 x2, .int .i64 y2] 166) = w2 at *
        generalize w1.heap.size = B8 at *
        obtain ⟨i0, hi0, hz0, hz1, hz2⟩ := info_parts Tryz.infoSpan
        have c3 : w2.cell? ⟨w.heap.size + 1, 3, none⟩ = some sl := hA.cell 3 rfl
        have f3 := hA.free 3
        have v0 : w2.cell? ⟨B8, 0, none⟩ = some (.int .i64 x2) := d8.cell 0 rfl
        have v1 : w2.cell? ⟨B8, 1, none⟩ = some (.int .i64 y2) := d8.cell 1 rfl
        have ag := own_ne hown (Nat.lt_succ_self (w.heap.size + 1))
        have hLn : L.length ≤ 100 := by have := hlaid.short; rw [List.length_take] at this; omega
        have hn1 : L.length + 1 ≤ maxLen := by unfold maxLen; omega
        have hn2 : (L.length + 1) * 16 ≤ 140737488355328 := by omega
        have hN1 : w.heap.size + 1 < w2.heap.size := by omega
        go_region_law ((refine step_append_lies _ (by rfl) _ _ _ (by rfl) (w.heap.size + 2) 166 i0 _ 2 16 Tryz.underlying153 hi0 hz0 hz1 hz2 rfl (by omega) sl L.length (spansC L) (by rfl) ((hown.alloc _).drew) ⟨w2.heap.size, 0, none⟩ 1 1 [.int .i64 x2, .int .i64 y2] (by rfl) (by rfl) (World.news_of_block (cs := #[.int .i64 x2, .int .i64 y2]) (t := 166) (fr := (0, 0)) (heap_alloc_new w2 _)) (by simp [Value.oneCell']) (by omega) hn1 hn2 (by simp; omega) (w2.heap.size + 1) (by simp) ?_; intro g2 cap2 w3 hown3 hgrow hat hlt3; have c3' := (hgrow.cell_far ⟨w.heap.size + 1, 3, none⟩ (by simp; omega) (Ne.symm ag)); have f3' := (hgrow.frozen_far ⟨w.heap.size + 1, 3, none⟩ (by simp; omega) (Ne.symm ag))))
        all_goals
          have hA3 : At w3 (w.heap.size + 1) (layC k f b sl (sumR f L)) 158 := At.grown ((hA.alloc (.cells #[.int .i64 x2, .int .i64 y2] 166)).drew) hgrow ag
          have hbox3 : At w3 w.heap.size #[.int .i64 k, .int .i64 f, .int .i64 b] 152 := At.grown ((hbox.alloc (.cells #[.int .i64 x2, .int .i64 y2] 166)).drew) hgrow (own_ne hown (by omega))
          have d83 : At w3 B8 #[.int .i64 x2, .int .i64 y2] 166 := At.grown ((d8.alloc (.cells #[.int .i64 x2, .int .i64 y2] 166)).drew) hgrow ag8
          have hb3 : Below w.heap.size w w3 := ((hb.alloc (by omega) (.cells #[.int .i64 x2, .int .i64 y2] 166)).drew).grown hgrow (by simp; omega) (fun i hi => by have := own_ge hown hi; omega)
          clear c3' f3' c3 f3 v0 v1 ag ag8 hgrow hat hn2 hown hA hbox d8 hb hi0 hz0 hz1 hz2
          have hA4 : At (w3.setCell ⟨w.heap.size + 1, 3, none⟩ (.slice (some ⟨g2, 0, none⟩) (L.length + 1) cap2)) (w.heap.size + 1) (layC k f b (.slice (some ⟨g2, 0, none⟩) (L.length + 1) cap2) (sumR f L)) 158 := hA3.set 3 _ (by simp [layC])
          have hbox4 := hbox3.setOther ⟨w.heap.size + 1, 3, none⟩ (.slice (some ⟨g2, 0, none⟩) (L.length + 1) cap2) (by simp)
          have d84 := d83.setOther ⟨w.heap.size + 1, 3, none⟩ (.slice (some ⟨g2, 0, none⟩) (L.length + 1) cap2) (by simp; omega)
          have hown4 := own_setOther hown3 ⟨w.heap.size + 1, 3, none⟩ (.slice (some ⟨g2, 0, none⟩) (L.length + 1) cap2) (by simp)
          have hb4 := hb3.setCell (p := ⟨w.heap.size + 1, 3, none⟩) (by simp) (.slice (some ⟨g2, 0, none⟩) (L.length + 1) cap2)
          clear hA3 hbox3 d83 hown3 hb3
          go_wp2_with fail
          generalize w3.setCell ⟨w.heap.size + 1, 3, none⟩ (.slice (some ⟨g2, 0, none⟩) (L.length + 1) cap2) = w4 at *
          have hx2 : x2 < 2 ^ k := Nat.lt_of_le_of_lt ht.le ht.lt
          have cX := fun w => rank_any k f b x2 ok.hk.le ok.hf (by omega) w
          have cY := fun w => rank_any k f b y2 ok.hk.le ok.hf (by have := ht.lt; omega) w
          have rX := cmpr_lt f x2
          have rY := cmpr_lt f y2
          have hS5 : w4.cell? ⟨w.heap.size, 0, none⟩ = some (.int .i64 k) ∧ w4.cell? ⟨w.heap.size, 1, none⟩ = some (.int .i64 f) ∧ w4.cell? ⟨w.heap.size, 2, none⟩ = some (.int .i64 b) ∧ w4.cell? ⟨B8, 0, none⟩ = some (.int .i64 x2) ∧ w4.cell? ⟨B8, 1, none⟩ = some (.int .i64 y2) := ⟨hbox4.cell 0 rfl, hbox4.cell 1 rfl, hbox4.cell 2 rfl, d84.cell 0 rfl, d84.cell 1 rfl⟩
          have hsb := sumR_bound f L
          have esum := sumR_snoc f L x2 y2
          obtain ⟨RX, hRX⟩ : ∃ RX, RX = cmpr f x2 := ⟨_, rfl⟩
          obtain ⟨RY, hRY⟩ : ∃ RY, RY = cmpr f y2 := ⟨_, rfl⟩
          rw [← hRX] at cX rX esum
          rw [← hRY] at cY rY esum
          have iw1 : IntKind.i64.wrap ((RY : Int) - (RX : Int)) = (RY : Int) - RX := by rw [IntKind.wrap_i64]; omega
          have iw2 : IntKind.i64.wrap ((RY : Int) - (RX : Int) + 1) = (RY : Int) - RX + 1 := by rw [IntKind.wrap_i64]; omega
          have hcd : -9223372036854775808 ≤ sumR f L + ((RY : Int) - RX + 1) ∧ sumR f L + ((RY : Int) - RX + 1) ≤ 9223372036854775807 := by omega
          have hNM : w.heap.size ≠ w.heap.size + 1 := by omega
          have hBM : B8 ≠ w.heap.size + 1 := by omega
          have ES := Lib.hid esum
          clear hRX hRY esum hsb
          go_region_held3 (fun w' => w'.cell? ⟨w.heap.size, 0, none⟩ = some (.int .i64 k) ∧ w'.cell? ⟨w.heap.size, 1, none⟩ = some (.int .i64 f) ∧ w'.cell? ⟨w.heap.size, 2, none⟩ = some (.int .i64 b) ∧ w'.cell? ⟨B8, 0, none⟩ = some (.int .i64 x2) ∧ w'.cell? ⟨B8, 1, none⟩ = some (.int .i64 y2))
            (first
              | exact hS5
              | exact keep5_below (by assumption) hbr
              | exact keep5_set (by assumption) hNM hNM hNM hBM hBM)
            (first
              | (go_at_call 185; (first | (with_reducible refine (cX _).mono ?_) | (with_reducible refine (cY _).mono ?_)); rintro e wt ⟨rfl, hbr⟩; replace hA4 := At.below' hbr hA4; replace hbox4 := At.below' hbr hbox4; replace hown4 := ownsRow_step hbr hown4 rfl; replace hb4 := below_step hbr hb4 rfl rfl rfl rfl hb4.size)
              | (go_at_call 184; refine (add64 _ _ _ _ _ _ _ hcd _ hA4).mono ?_; rintro e wa ⟨rfl, rfl⟩))
          have hA5 := hA4.set 4 (.int .i64 (sumR f L + ((RY : Int) - RX + 1))) (by simp [layC])
          have hbox5 := hbox4.setOther ⟨w.heap.size + 1, 4, none⟩ (.int .i64 (sumR f L + ((RY : Int) - RX + 1))) (by simp)
          have hown5 := own_setOther hown4 ⟨w.heap.size + 1, 4, none⟩ (.int .i64 (sumR f L + ((RY : Int) - RX + 1))) (by simp)
          have hb5 := hb4.setCell (p := ⟨w.heap.size + 1, 4, none⟩) (by simp) (.int .i64 (sumR f L + ((RY : Int) - RX + 1)))
          clear hA4 hbox4 hown4 hb4 hS5 cX cY iw1 iw2 hcd
          go_wp2_with fail
          generalize wt.setCell ⟨w.heap.size + 1, 4, none⟩ (.int .i64 (sumR f L + ((RY : Int) - RX + 1))) = w5 at *
          go_roundw
          case rel => exact ⟨j + 1, L ++ [(x2, y2)], by omega, by go_num, by rw [List.take_succ_eq_append_getElem hjS, HXY.out]; exact hlaid.some ht, ⟨_, by rw [ES.out]; exact hA5, by rw [spansC_snoc, List.length_append]; exact hown5, fun h => absurd h (by simp)⟩, hbox5, hb5, by have := hA5.lt; omega⟩
          case measure => simp [intOf]; omega
      · replace hbox := hbox.alloc (.cells #[.int .i64 0, .int .i64 0] 166)
        replace hA := hA.alloc (.cells #[.int .i64 0, .int .i64 0] 166)
        replace hown := hown.alloc (.cells #[.int .i64 0, .int .i64 0] 166)
        replace hb := hb.alloc (by omega) (.cells #[.int .i64 0, .int .i64 0] 166)
        go_wp2_with fail
        go_roundw
        case rel => exact ⟨j + 1, L, by omega, by go_num, by rw [List.take_succ_eq_append_getElem hjS, HXY.out]; exact hlaid.none ht, ⟨_, hA, hown, hnil⟩, hbox, hb, by have := hA.lt; omega⟩
        case measure => simp [intOf]; omega
    · have hjn : j = S.length := by have := HN.out; omega
      have hlaid2 : Laid k f b S L := by rw [hjn, List.take_length] at hlaid; exact hlaid
      have hlay := layAt_own hA hown hnil (by have := hlaid2.short; have := HN.out; omega) w.heap.size (by omega)
      have cN := narrow_any w.heap.size (w.heap.size + 1) k f b L (sumR f L) wr (by omega) (fun t ht => by have h1 := hlaid2.ends t ht; omega) hlay
      clear hA hown hnil hbox hlaid hlay hjn
      go_wp2_with fail
      refine cN.mono ?_
      rintro e w5 ⟨rfl, hlay5, hK⟩
      have hb5 := hb.trans (hK.below (Nat.le_succ _) (by omega))
      go_wp2_with fail
      go_ret
      exact ⟨L, _, hlaid2, rfl, hlay5, Nat.le_succ _, hb5⟩
end Go.Proofs.YtblahbmhbfcggaaGreatDoor
