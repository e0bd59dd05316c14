/- The document's own: some members of a set: zIn, gather, next, Some. -/
import Derived.Test.YtblahbmhbfcggaaGreatDoorVWake
import Derived.Test.YtblahbmhbfcggaaGreatDoorVQuiet
import Derived.BigRegion
import Derived.Deep.AppendLies
import Derived.Deep.DeepMust
import Derived.Deep.CutRange
namespace Go.Proofs.YtblahbmhbfcggaaGreatDoor
open Go.ChangeShapes Go.WideShapes Go.ChangeAt Go.RowKit Go.Joins Go.Deep
set_option linter.unusedVariables false

/-- numbers in memory -/
def HasInts (w : World) (p : Option Addr) (zs : List Nat) : Prop := zs.length = 0 ∨ ∃ g, p = some ⟨g, 0, none⟩ ∧ ∀ i (hi : i < zs.length), w.cell? ⟨g, i, none⟩ = some (.int .i64 (zs[i] : Nat))
set_option maxRecDepth 100000 in
set_option maxHeartbeats 800000 in
theorem zIn_any (p : Option Addr) (zs : List Nat) (cap : Nat) (n : Int) (w : World) (hl : zs.length ≤ 1000) (hz : HasInts w p zs) :
    Calls Tryz.prog 67 #[.slice p zs.length cap, .int .i64 n] w (fun e w' => ∃ r : Int, -1 ≤ r ∧ (0 ≤ r → 0 < zs.length) ∧ e = .returned (.int .i64 r) ∧ w = w') := by
  obtain ⟨m, hm⟩ : ∃ m, m = zs.length := ⟨_, rfl⟩
  have HM := Lib.hid hm
  rw [← hm] at hl ⊢
  clear hm
  go_enter Tryz.func67, Tryz.ntmps67
  go_wp2_with fail
  go_loop [5] (fun v => ∃ i : Nat, i ≤ m ∧ v = .int .i64 i) (fun v => m - (intOf v).toNat)
  case atStart => exact ⟨0, by omega, rfl⟩
  case round =>
    obtain ⟨i, hi, rfl⟩ := hrel
    by_cases hlt : i < m
    · have hlt1 : (i : Int) < (m : Int) := by omega
      have hiz : i < zs.length := by have := HM.out; omega
      rcases hz with hz | ⟨g, rfl, hc⟩
      · omega
      · have ci := hc i hiz
        obtain ⟨x, hx⟩ : ∃ x : Nat, x = zs[i] := ⟨_, rfl⟩
        rw [← hx] at ci
        clear hx hc
        by_cases he : (x : Int) = n
        · have t0 : ((x : Int) == n) = true := by simpa using he
          go_wp2_with fail
          go_ret
          exact ⟨i, by omega, fun _ => by omega, rfl, rfl⟩
        · have t0 : ((x : Int) == n) = false := by simpa using he
          go_wp2_with fail
          go_round
          case rel => exact ⟨i + 1, by omega, by go_num⟩
          case measure => simp [intOf]; omega
    · have hlt1 : decide ((i : Int) < (m : Int)) = false := by simp; omega
      go_wp2_with fail
      go_ret
      exact ⟨-1, by omega, fun h => by omega, rfl, rfl⟩

abbrev adV (k : Int) (no : Bool) (l h f b : Int) (B : Nat) : Value := .agg #[.int .i64 k, .bool no, .int .i64 l, .int .i64 h, .int .i64 f, .int .i64 b, .pointer (some ⟨B, 0, none⟩)]
set_option maxRecDepth 100000 in
theorem gather_any (k : Int) (no : Bool) (l h f b : Int) (B : Nat) (w : World) :
    Calls Tryz.prog 42 #[valV k no l h f b, .pointer (some ⟨B, 0, none⟩)] w (fun e w' => e = .returned (adV k no l h f b B) ∧ Below w.heap.size w w') := by
  go_enter Tryz.func42, Tryz.ntmps42
  go_wp2_with fail
  exact bodyPost_ret (v := adV k no l h f b B) (by simp [results, Tryz.results42, go_sem]) rfl ⟨rfl, ((Below.refl _ _).alloc (Nat.le_refl _) _).alloc (by simp) _⟩
/-- a world as it was, but for one block below a base and what lies above -/
structure Holds (bl B : Nat) (w w' : World) : Prop where
  os : w'.os = w.os
  tape : w'.tape = w.tape
  output : w'.output = w.output
  size : w.heap.size ≤ w'.heap.size
  block : ∀ j, j < B → j ≠ bl → w'.heap[j]? = w.heap[j]?
theorem Holds.refl (bl B : Nat) (w : World) : Holds bl B w w := ⟨rfl, rfl, rfl, Nat.le_refl _, fun _ _ _ => rfl⟩
theorem Holds.trans {bl B : Nat} {a b c : World} (h : Holds bl B a b) (h' : Holds bl B b c) : Holds bl B a c :=
  ⟨h'.os.trans h.os, h'.tape.trans h.tape, h'.output.trans h.output, Nat.le_trans h.size h'.size, fun j hj hn => (h'.block j hj hn).trans (h.block j hj hn)⟩
theorem Holds.of_below {bl B C : Nat} {w w' : World} (h : Below C w w') (hB : B ≤ C) : Holds bl B w w' := ⟨h.os, h.tape, h.output, h.size, fun j hj _ => h.block j (by omega)⟩
theorem Holds.below {bl B C : Nat} {w w' : World} (h : Holds bl B w w') (h1 : C ≤ bl) (h2 : C ≤ B) : Below C w w' := ⟨h.os, h.tape, h.output, h.size, fun j hj => h.block j (by omega) (by omega)⟩
theorem At.holds {bl B b : Nat} {w w' : World} {cs : Array Value} {t : TypeId} (h : At w b cs t) (hk : Holds bl B w w') (h1 : b < B) (hn : b ≠ bl) : At w' b cs t := (hk.block b h1 hn).trans h
theorem Holds.setCell {bl B : Nat} {a w : World} (h : Holds bl B a w) (j : Nat) (v : Value) : Holds bl B a (w.setCell ⟨bl, j, none⟩ v) :=
  ⟨h.os, h.tape, h.output, by rw [setCell_size]; exact h.size, fun i hi hn => (Below.heap_setCell w ⟨bl, j, none⟩ v i hn).trans (h.block i hi hn)⟩
/-- a row of numbers of the call's own, in a variable of its own -/
structure RowL (w : World) (Bl base : Nat) (zs : List Nat) (sl : Value) : Prop where
  cell : At w Bl #[sl] 23
  own : w.ownsRow base 3 1 sl zs.length (zs.map fun (m : Nat) => Value.int .i64 m)
  nil : zs = [] → sl = .slice none 0 0
theorem RowL.form {w : World} {Bl base : Nat} {zs : List Nat} {sl : Value} (h : RowL w Bl base zs sl) : ∃ p cap, sl = .slice p zs.length cap ∧ HasInts w p zs := by
  by_cases h0 : zs = []
  · refine ⟨none, 0, ?_, Or.inl (by rw [h0]; rfl)⟩
    rw [h.nil h0, h0]; rfl
  · obtain ⟨hl, ⟨_, hn⟩ | ⟨g, cap, cur, rfl, hb, hg, _, _, _, ht⟩⟩ := h.own
    · exact absurd (List.eq_nil_of_length_eq_zero hn) h0
    · refine ⟨_, cap, rfl, Or.inr ⟨g, rfl, fun i hi => ?_⟩⟩
      have hx : (cur.toList.take (zs.length * 1))[i]? = some (.int .i64 (zs[i] : Nat)) := by
        rw [ht, List.getElem?_map, List.getElem?_eq_getElem hi]; rfl
      rw [List.getElem?_take] at hx
      split at hx
      · rw [cell_of_row w g i _ _ _ hg]
        simpa using hx
      · cases hx
def NextP (M : Nat → Prop) (n Bl base : Nat) (zs : List Nat) (w : World) (e : Ending) (w' : World) : Prop :=
  ∃ is zs' sl', e = .returned (.bool is) ∧ (is = true ↔ ∃ m, n ≤ m ∧ M m) ∧ RowL w' Bl base zs' sl' ∧ (∀ z ∈ zs', z ∈ zs ∨ M z) ∧ zs'.length ≤ zs.length + 1 ∧ (is = true → zs' ≠ []) ∧ (zs ≠ [] → zs' ≠ []) ∧ Holds Bl base w w'
set_option maxRecDepth 100000 in
set_option maxHeartbeats 1600000 in
theorem next_some (k : Nat) (no : Bool) (l h f b n : Nat) (ok : ValOk k no l h f b) (hn : n ≤ 4294967296) (Bl base : Nat) (zs : List Nat) (sl : Value) (hlen : zs.length ≤ 1000) (hBl : Bl < base) (w : World) (hbase : base ≤ w.heap.size) (hR : RowL w Bl base zs sl) :
    Calls Tryz.prog 43 #[adV k no l h f b Bl, .int .i64 n] w (NextP (MemV k no l h f b) n Bl base zs w) := by
  have cN := fun w => rNext_v k no l h f b n ok hn w
  have dB := At.new w #[.int .i64 k, .bool no, .int .i64 l, .int .i64 h, .int .i64 f, .int .i64 b, .pointer (some ⟨Bl, 0, none⟩)] 87
  have hb0 : Below w.heap.size w (w.alloc (.cells #[.int .i64 k, .bool no, .int .i64 l, .int .i64 h, .int .i64 f, .int .i64 b, .pointer (some ⟨Bl, 0, none⟩)] 87)) := (Below.refl _ _).alloc (Nat.le_refl _) _
  have hk := ok.pat.hk.pow
  clear ok
  go_enter Tryz.func43, Tryz.ntmps43
  go_wp2_with fail
  refine (cN _).mono ?_
  rintro e w1 ⟨r, hr, rfl, hb1⟩
  have hbE := hb0.trans (hb1.mono hb0.size)
  have dB1 := At.below' hb1 dB
  have hH : Holds Bl base w w1 := Holds.of_below hbE hbase
  have hR1 : RowL w1 Bl base zs sl := ⟨At.below' hbE hR.cell, ownsRow_below hR.own hbE, hR.nil⟩
  have hbs : base ≤ w1.heap.size := by have := hbE.size; omega
  have c6 : w1.cell? ⟨w.heap.size, 6, none⟩ = some (.pointer (some ⟨Bl, 0, none⟩)) := dB1.cell 6 rfl
  have hNb : base ≤ w.heap.size := hbase
  have agN : sl.ownBlock ≠ some w.heap.size := own_lt hR.own (Nat.le_refl _)
  have hN1 : w.heap.size < w1.heap.size := dB1.lt
  clear cN dB hb0 hb1 hR
  rcases hr with ⟨rfl, hno⟩ | ⟨m, rfl, hm1, hm2, _⟩
  · have fin : NextP (MemV k no l h f b) n Bl base zs w (.returned (.bool false)) w1 := ⟨false, zs, sl, rfl, ⟨(fun h => by cases h), fun ⟨m, h1, h2⟩ => absurd h2 (hno m h1)⟩, hR1, fun z hz => Or.inl hz, by omega, (fun h => by cases h), fun h => h, hH⟩
    clear hno hR1 hH hbE dB1
    go_wp2_with fail
    go_ret
    exact fin
  · obtain ⟨p, cap, rfl, hI⟩ := hR1.form
    have hm3 : m < 2 ^ k := by obtain ⟨_, hx, _⟩ := hm2; exact hx
    have cI := fun w hI => zIn_any p zs cap (m : Int) w hlen hI
    have cs : w1.cell? ⟨Bl, 0, none⟩ = some (.slice p zs.length cap) := hR1.cell.cell 0 rfl
    have HX := Lib.hid (⟨m, hm1, hm2⟩ : ∃ m, n ≤ m ∧ MemV k no l h f b m)
    have HM := Lib.hid hm2
    obtain ⟨q, hq⟩ : ∃ q, q = zs.length := ⟨_, rfl⟩
    rw [← hq] at cs cI hlen
    have HQ := Lib.hid hq
    clear hm1 hm2 hq
    go_wp2_with fail
    refine (cI _ hI).mono ?_
    rintro e w' ⟨r2, hr0, hr1, rfl, rfl⟩
    by_cases h2 : r2 < 0
    · have t0 : decide (r2 < 0) = true := by simpa using h2
      have ag := own_ne hR1.own hBl
      have hown := hR1.own
      have hcell := hR1.cell
      have f3 : w1.frozen? ⟨Bl, 0, none⟩ = false := At.free hR1.cell 0
      have hBl2 : Bl < w1.heap.size := by omega
      obtain ⟨i0, hi0, hz0, hz1, hz2⟩ := info_parts Tryz.infoInt
      have hn1 : q + 1 ≤ maxLen := by unfold maxLen; omega
      have hn2 : (q + 1) * 8 ≤ 140737488355328 := by omega
      have elen : (zs.map fun (m : Nat) => Value.int .i64 m).length = q := by rw [List.length_map, HQ.out]
      rw [← HQ.out] at ag agN hown hcell
      have c6' := cell_alloc c6 (.cells #[.int .i64 m] 3)
      have cs' := cell_alloc cs (.cells #[.int .i64 m] 3)
      have hE := Lib.hid elen
      clear hr0 hr1 cI hI hR1 elen
      go_wp2_with fail
      go_region_law ((refine step_append_lies _ (by rfl) _ _ _ (by rfl) base 3 i0 _ 1 8 Tryz.underlying23 hi0 hz0 hz1 hz2 rfl (by omega) (.slice p q cap) q (zs.map fun (m : Nat) => Value.int .i64 m) (by rfl) ((hown.alloc _).drew) ⟨w1.heap.size, 0, none⟩ 1 1 [.int .i64 m] (by rfl) (by rfl) (World.news_of_block (cs := #[.int .i64 m]) (t := 3) (fr := (0, 0)) (heap_alloc_new w1 _)) (by simp [Value.oneCell']) (by omega) hn1 hn2 (by simp; omega) (w1.heap.size + 1) (by simp) ?_; intro g2 cap2 w3 hown3 hgrow hat hlt3; have c3' := (hgrow.cell_far ⟨Bl, 0, none⟩ (by simp; omega) (Ne.symm ag)); have f3' := (hgrow.frozen_far ⟨Bl, 0, none⟩ (by simp; omega) (Ne.symm ag)); have c63 := (hgrow.cell_far ⟨w.heap.size, 6, none⟩ (by simp; omega) (Ne.symm agN))))
      all_goals
        have hcA : At w3 Bl #[.slice p q cap] 23 := At.grown ((hcell.alloc (.cells #[.int .i64 m] 3)).drew) hgrow ag
        have hcS : At (w3.setCell ⟨Bl, 0, none⟩ (.slice (some ⟨g2, 0, none⟩) (q + 1) cap2)) Bl #[.slice (some ⟨g2, 0, none⟩) (q + 1) cap2] 23 := hcA.set 0 _ (by simp)
        have hoS := own_setOther hown3 ⟨Bl, 0, none⟩ (.slice (some ⟨g2, 0, none⟩) (q + 1) cap2) hBl
        have hbb : Below base w1 w3 := (((Below.refl base w1).alloc hbs (.cells #[.int .i64 m] 3)).drew).grown hgrow (by simp; omega) (fun i hi => own_ge hown hi)
        have hHF := (hH.trans (Holds.of_below hbb (Nat.le_refl _))).setCell 0 (.slice (some ⟨g2, 0, none⟩) (q + 1) cap2)
        have hRF : RowL (w3.setCell ⟨Bl, 0, none⟩ (.slice (some ⟨g2, 0, none⟩) (q + 1) cap2)) Bl base (zs ++ [m]) (.slice (some ⟨g2, 0, none⟩) (q + 1) cap2) := by
          refine ⟨hcS, ?_, fun h => by simp at h⟩
          have e1 : (zs ++ [m]).length = q + 1 := by rw [HQ.out]; simp
          rw [e1, List.map_append]
          exact hoS
        have fin : NextP (MemV k no l h f b) n Bl base zs w (.returned (.bool true)) (w3.setCell ⟨Bl, 0, none⟩ (.slice (some ⟨g2, 0, none⟩) (q + 1) cap2)) :=
          ⟨true, zs ++ [m], _, rfl, ⟨fun _ => HX.out, fun _ => rfl⟩, hRF, fun z hz => by
            rcases List.mem_append.1 hz with h' | h'
            · exact Or.inl h'
            · rw [List.mem_singleton] at h'
              subst h'
              exact Or.inr HM.out, by simp, fun _ => by simp, fun _ => by simp, hHF⟩
        clear hcA hcS hoS hbb hHF hRF hown3 hgrow hat hlt3 c3' f3' c63 hown hcell hH hi0 hz0 hz1 hz2
        go_wp2_with fail
        go_ret
        exact fin
    · have t0 : decide (r2 < 0) = false := by simpa using h2
      have hz : zs ≠ [] := by
        have := hr1 (by omega)
        rw [HQ.out] at this
        exact List.length_pos_iff.1 this
      have hR2 : RowL w1 Bl base zs (.slice p q cap) := by rw [HQ.out]; exact hR1
      have fin : NextP (MemV k no l h f b) n Bl base zs w (.returned (.bool true)) w1 := ⟨true, zs, _, rfl, ⟨fun _ => HX.out, fun _ => rfl⟩, hR2, fun z hz => Or.inl hz, by omega, fun _ => hz, fun h => h, hH⟩
      clear hr0 hr1 cI hI hR1 hR2 hH hz
      go_wp2_with fail
      go_ret
      exact fin
end Go.Proofs.YtblahbmhbfcggaaGreatDoor
