/- The document's own: a text's words. -/
import Derived.Test.YtkhklndmbfbnoaaGreatDoorLROneB
import Derived.Test.YtkhklndmbfbnoaaGreatDoorLOnce
import Derived.Test.YtkhklndmbfbnoaaGreatDoorLKind
namespace Go.Proofs.YtkhklndmbfbnoaaGreatDoor
open Go.ChangeShapes Go.WideShapes Go.ChangeAt Go.RowKit Go.Joins Go.Deep
set_option linter.unusedVariables false

def RWordsPost (l : List UInt8) (w : World) (e : Ending) (w' : World) : Prop :=
  ∃ fd, e = .returned (.tuple #[fd, .int .i64 ((tellW l).2.1 : Nat), .int .i64 (tellW l).2.2]) ∧ RowT w.heap.size (tellW l).1 fd w' ∧ Below w.heap.size w w'
def RelW (s : ByteArray) (w0 : World) (v5 v6 : Value) (wr : World) : Prop :=
  ∃ (k : Nat) (T : List (List UInt8 × Nat)), k ≤ s.size ∧ v6 = .int .i64 (k : Nat) ∧ RowT w0.heap.size T v5 wr ∧ T.length ≤ k ∧
    cutW s.data.toList = (T ++ (scanL false (s.data.toList.drop k) k).1, (scanL false (s.data.toList.drop k) k).2) ∧ Below w0.heap.size w0 wr
theorem cut_step {s : ByteArray} {T : List (List UInt8 × Nat)} {k : Nat} {p q : Bool} (hk : k < s.size) (h : cutW s.data.toList = (T ++ (scanL p (s.data.toList.drop k) k).1, (scanL p (s.data.toList.drop k) k).2)) (hs : stopB p s[k] = false) (hn : nextP p s[k] = q) :
    cutW s.data.toList = (T ++ (scanL q (s.data.toList.drop (k + 1)) (k + 1)).1, (scanL q (s.data.toList.drop (k + 1)) (k + 1)).2) := by
  have hl : k < s.data.toList.length := by rw [len_text]; exact hk
  rw [getD_text s k hk] at hs hn
  have := scanL_step (p := p) k hl hs
  rw [hn] at this
  rw [← this]
  exact h
theorem cut_hash {s : ByteArray} {T : List (List UInt8 × Nat)} {k : Nat} (hk : k < s.size) (h : cutW s.data.toList = (T ++ (scanL false (s.data.toList.drop k) k).1, (scanL false (s.data.toList.drop k) k).2)) (he : endB s[k] = false) (hs : hasB s[k] = true) :
    cutW s.data.toList = (T ++ (scanL true (s.data.toList.drop k) k).1, (scanL true (s.data.toList.drop k) k).2) := by
  have hl : k < s.data.toList.length := by rw [len_text]; exact hk
  rw [getD_text s k hk] at hs he
  have h1 := scanL_step (p := false) k hl (by simp only [stopB, hs, he]; rfl)
  have h2 := scanL_step (p := true) k hl (by simp only [stopB, hs, he]; rfl)
  have e : nextP false (s.data.toList.getD k 0) = nextP true (s.data.toList.getD k 0) := by simp only [nextP, hs, he]; rfl
  rw [e] at h1
  rw [h2, ← h1]
  exact h
theorem cut_line {s : ByteArray} {T : List (List UInt8 × Nat)} {k : Nat} (h : cutW s.data.toList = (T ++ (scanL true (s.data.toList.drop k) k).1, (scanL true (s.data.toList.drop k) k).2)) (he : s.size ≤ k ∨ ∃ h : k < s.size, endB s[k] = true) :
    cutW s.data.toList = (T ++ (scanL false (s.data.toList.drop k) k).1, (scanL false (s.data.toList.drop k) k).2) := by
  rw [← scanL_line k (by
    rcases he with h | ⟨h, h'⟩
    · exact Or.inl (by rw [len_text]; exact h)
    · rw [getD_text s k h] at h'; exact Or.inr h')]
  exact h
theorem cut_word {s : ByteArray} {T : List (List UInt8 × Nat)} {k n : Nat} (hk : k < s.size) (h : cutW s.data.toList = (T ++ (scanL false (s.data.toList.drop k) k).1, (scanL false (s.data.toList.drop k) k).2)) (hs : stopB false s[k] = true) (hn : longN (s.data.toList.drop k) = n) :
    (n = 0 → (cutW s.data.toList).2 = k) ∧ (0 < n → cutW s.data.toList = ((T ++ [((s.data.toList.drop k).take n, k)]) ++ (scanL false (s.data.toList.drop (k + n)) (k + n)).1, (scanL false (s.data.toList.drop (k + n)) (k + n)).2)) := by
  subst hn
  have hl : k < s.data.toList.length := by rw [len_text]; exact hk
  rw [getD_text s k hk] at hs
  obtain ⟨h1, h2⟩ := scanL_stop (p := false) k hl hs
  refine ⟨fun h0 => by rw [h, h1 h0], fun h0 => ?_⟩
  rw [h, h2 h0, List.append_assoc]
  rfl
theorem tok_ext (s : ByteArray) (k n : Nat) : s.extract k (k + n) = ⟨((s.data.toList.drop k).take n).toArray⟩ := by
  apply bytes_inj
  rw [Lib.extract_data]
  simp [show k + n - k = n by omega]
set_option maxRecDepth 100000 in
set_option maxHeartbeats 6400000 in
theorem rWords_any (s : ByteArray) (hm : s.size ≤ 1000000000) (w : World) : Calls Tryz.prog 9 #[.string s] w (RWordsPost s.data.toList w) := by
  by_cases hs : s.size ≤ 2000
  · have hd1 : decide ((2000 : Int) < (s.size : Int)) = false := by simp; omega
    have cO := fun k hk w => rOne_any s k hm hk w
    have hln : ∀ k, longN (s.data.toList.drop k) ≤ s.size - k := fun k => by have := longN_le (s.data.toList.drop k); rw [List.length_drop, len_text] at this; exact this
    have HLN := Lib.hid hln
    clear hln
    obtain ⟨i0, hi0, hz0, hz1, hz2⟩ := info_parts info_tok
    go_enter Tryz.func9, Tryz.ntmps9
    go_wp2_with fail
    go_loopw [5, 6] (fun v5 v6 wr => RelW s w v5 v6 wr) (fun _ v6 _ => s.size - (intOf v6).toNat)
    case atStart => exact ⟨0, [], Nat.zero_le _, rfl, RowT.nil _ _, Nat.zero_le _, rfl, Below.refl _ _⟩
    case round =>
      obtain ⟨k, T, hk, rfl, hR, hT, hcut, hbw⟩ := hrel
      have HC := Lib.hid hcut
      have HR := Lib.hid hR
      have HB := Lib.hid hbw
      clear hcut hR hbw
      by_cases hlt : k < s.size
      · obtain ⟨m, hmm⟩ : ∃ m, m = T.length := ⟨_, rfl⟩
        have hfd : ∃ q cc, u5 = .slice q m cc := by
          rcases HR.out.2 with ⟨h0, h1⟩ | ⟨g, cap, cur, h0, _⟩
          · exact ⟨none, 0, by rw [h0, hmm, h1]⟩
          · exact ⟨_, _, by rw [h0, hmm]⟩
        obtain ⟨q, cc, rfl⟩ := hfd
        rw [← hmm] at hT
        have HMM := Lib.hid hmm
        clear hmm
        cases h32 : (s[k].toNat : Int) == 32
        case true =>
          have hst : stopB false s[k] = false := by simp [stopB, blaB, h32]
          have hnx : nextP false s[k] = false := by
            have h35 : hasB s[k] = false := by rw [beq_iff_eq] at h32; unfold hasB; rw [h32]; rfl
            simp [nextP, h35]
          have hc2 := cut_step hlt HC.out hst hnx
          have HC2 := Lib.hid hc2
          clear hc2 hst hnx cO
          go_wp2_with fail
          go_roundw
          case rel => exact ⟨k + 1, T, by omega, by go_num, HR.out, by have := HMM.out; omega, HC2.out, HB.out⟩
          case measure => simp [intOf]; omega
        cases h9 : (s[k].toNat : Int) == 9
        case true =>
          have hst : stopB false s[k] = false := by simp [stopB, blaB, h9]
          have hnx : nextP false s[k] = false := by
            have h35 : hasB s[k] = false := by rw [beq_iff_eq] at h9; unfold hasB; rw [h9]; rfl
            simp [nextP, h35]
          have hc2 := cut_step hlt HC.out hst hnx
          have HC2 := Lib.hid hc2
          clear hc2 hst hnx cO
          go_wp2_with fail
          go_roundw
          case rel => exact ⟨k + 1, T, by omega, by go_num, HR.out, by have := HMM.out; omega, HC2.out, HB.out⟩
          case measure => simp [intOf]; omega
        cases h10 : (s[k].toNat : Int) == 10
        case true =>
          have hst : stopB false s[k] = false := by simp [stopB, endB, h10]
          have hnx : nextP false s[k] = false := by simp [nextP, endB, h10]
          have hc2 := cut_step hlt HC.out hst hnx
          have HC2 := Lib.hid hc2
          clear hc2 hst hnx cO
          go_wp2_with fail
          go_roundw
          case rel => exact ⟨k + 1, T, by omega, by go_num, HR.out, by have := HMM.out; omega, HC2.out, HB.out⟩
          case measure => simp [intOf]; omega
        cases h13 : (s[k].toNat : Int) == 13
        case true =>
          have hst : stopB false s[k] = false := by simp [stopB, endB, h13]
          have hnx : nextP false s[k] = false := by simp [nextP, endB, h13]
          have hc2 := cut_step hlt HC.out hst hnx
          have HC2 := Lib.hid hc2
          clear hc2 hst hnx cO
          go_wp2_with fail
          go_roundw
          case rel => exact ⟨k + 1, T, by omega, by go_num, HR.out, by have := HMM.out; omega, HC2.out, HB.out⟩
          case measure => simp [intOf]; omega
        have hee : endB s[k] = false := by unfold endB; rw [h10, h13]; rfl
        have hbb : blaB s[k] = false := by unfold blaB; rw [h32, h9]; rfl
        cases h35 : (s[k].toNat : Int) == 35
        case true =>
          have hc2 := cut_hash hlt HC.out hee h35
          have HC2 := Lib.hid hc2
          clear hc2 hee hbb cO
          obtain ⟨wo, rfl⟩ : ∃ wo : World, wo = wr := ⟨_, rfl⟩
          go_wp2_with fail
          go_loop [6] (fun v6 => ∃ k2 : Nat, k ≤ k2 ∧ k2 ≤ s.size ∧ v6 = .int .i64 (k2 : Nat) ∧ cutW s.data.toList = (T ++ (scanL true (s.data.toList.drop k2) k2).1, (scanL true (s.data.toList.drop k2) k2).2)) (fun v6 => s.size - (intOf v6).toNat)
          case atStart => exact ⟨k, Nat.le_refl _, hk, rfl, HC2.out⟩
          case round =>
            obtain ⟨k2, hkk, hk2, rfl, hcr⟩ := hrel
            have HCR := Lib.hid hcr
            clear hcr
            by_cases hlt2 : k2 < s.size
            · cases e10 : (s[k2].toNat : Int) == 10
              case true =>
                have hc3 := cut_line HCR.out (Or.inr ⟨hlt2, by simp [endB, e10]⟩)
                have hne : k < k2 := by
                  rcases Nat.lt_or_ge k k2 with h | h
                  · exact h
                  · obtain rfl : k2 = k := by omega
                    rw [h10] at e10; cases e10
                have HC3 := Lib.hid hc3
                clear hc3 h32 h9 h10 h13 h35
                have e10' : ((s[k2].toNat : Int) != 10) = false := by rw [bne, e10]; rfl
                go_wp2_with fail
                go_roundw
                case rel => exact ⟨k2, T, hk2, rfl, HR.out, by have := HMM.out; omega, HC3.out, HB.out⟩
                case measure => simp [intOf]; omega
              cases e13 : (s[k2].toNat : Int) == 13
              case true =>
                have hc3 := cut_line HCR.out (Or.inr ⟨hlt2, by simp [endB, e13]⟩)
                have hne : k < k2 := by
                  rcases Nat.lt_or_ge k k2 with h | h
                  · exact h
                  · obtain rfl : k2 = k := by omega
                    rw [h13] at e13; cases e13
                have HC3 := Lib.hid hc3
                clear hc3 h32 h9 h10 h13 h35
                have e10' : ((s[k2].toNat : Int) != 10) = true := by rw [bne, e10]; rfl
                have e13' : ((s[k2].toNat : Int) != 13) = false := by rw [bne, e13]; rfl
                go_wp2_with fail
                go_roundw
                case rel => exact ⟨k2, T, hk2, rfl, HR.out, by have := HMM.out; omega, HC3.out, HB.out⟩
                case measure => simp [intOf]; omega
              have en : endB s[k2] = false := by unfold endB; rw [e10, e13]; rfl
              have hc3 := cut_step (p := true) (q := true) hlt2 HCR.out (by simp [stopB]) (by unfold nextP; rw [en]; cases hasB s[k2] <;> rfl)
              have HC3 := Lib.hid hc3
              have e10' : ((s[k2].toNat : Int) != 10) = true := by rw [bne, e10]; rfl
              have e13' : ((s[k2].toNat : Int) != 13) = true := by rw [bne, e13]; rfl
              clear hc3 h32 h9 h10 h13 h35 en
              go_wp2_with fail
              go_round
              case rel => exact ⟨k2 + 1, by omega, by omega, by go_num, HC3.out⟩
              case measure => simp [intOf]; omega
            · obtain rfl : k2 = s.size := by omega
              have hc3 := cut_line HCR.out (Or.inl (Nat.le_refl _))
              have HC3 := Lib.hid hc3
              clear hc3 h32 h9 h10 h13 h35
              go_wp2_with fail
              go_roundw
              case rel => exact ⟨s.size, T, Nat.le_refl _, rfl, HR.out, by have := HMM.out; omega, HC3.out, HB.out⟩
              case measure => simp [intOf]; omega
        have hst : stopB false s[k] = true := by
          have : hasB s[k] = false := h35
          simp [stopB, hee, hbb, this]
        have hlk := HLN.out k
        have hcO := cO k hlt wr
        unfold OnePost at hcO
        obtain ⟨n, hn⟩ : ∃ n, n = longN (s.data.toList.drop k) := ⟨_, rfl⟩
        have hcw := cut_word hlt HC.out hst hn.symm
        rw [← hn] at hcO hlk
        have HCW := Lib.hid hcw
        clear hcw hn hee hbb hst cO
        by_cases hn0 : n = 0
        · subst hn0
          have ht : tellW s.data.toList = ([], k, 4) := by
            unfold tellW
            rw [len_text, if_neg (by omega), if_pos (by rw [HCW.out.1 rfl]; exact hlt), HCW.out.1 rfl]
          have fin : ∀ w', Below w.heap.size w w' → RWordsPost s.data.toList w (.returned (.tuple #[.slice none 0 0, .int .i64 (k : Nat), .int .i64 4])) w' := fun w' hb => ⟨_, by rw [ht], by rw [ht]; exact RowT.nil _ _, hb⟩
          have FIN := Lib.hid fin
          clear fin ht
          go_wp2_with fail
          refine hcO.mono ?_
          rintro e w2 ⟨rfl, hb2⟩
          have hb3 := HB.out.trans (hb2.mono HB.out.size)
          clear hcO
          go_wp2_with fail
          go_ret3
          exact FIN.out _ hb3
        · have hnp : 0 < n := by omega
          have hn00 : ((n : Int) == 0) = false := by rw [beq_eq_false_iff_ne]; omega
          go_wp2_with fail
          refine hcO.mono ?_
          rintro e w2 ⟨rfl, hb2⟩
          have hb3 := HB.out.trans (hb2.mono HB.out.size)
          have hR2 := HR.out
          unfold RowT at hR2
          rw [← HMM.out] at hR2
          have hown := (ownsRow_belowT hR2 hb2).alloc (.cells #[.string (s.extract k (k + n)), .int .i64 (k : Nat)] 35)
          have hbd := hb3.alloc hb3.size (.cells #[.string (s.extract k (k + n)), .int .i64 (k : Nat)] 35)
          have hm1 : m + 1 ≤ maxLen := by unfold maxLen; omega
          have hm2 : (m + 1) * 24 ≤ 140737488355328 := by omega
          have hsz := hb3.size
          have t1 : (0 : Int) ≤ (k : Int) := by omega
          have t2 : (k : Int) ≤ (k : Int) + (n : Int) := by omega
          have t3 : (k : Int) + (n : Int) ≤ (s.size : Int) := by omega
          clear hcO hb2 hR2
          go_wp2_with ((at_builtin; refine wpList_append_lies _ rfl _ _ 30 rfl w.heap.size 35 i0 _ 2 24 Tryz.underlying30 hi0 hz0 hz1 hz2 rfl (by decide) (.slice q m cc) m (T.flatMap tokC) rfl hown ⟨w2.heap.size, 0, none⟩ 1 1 [.string (s.extract k (k + n)), .int .i64 (k : Nat)] rfl rfl (World.news_of_block (cs := #[.string (s.extract k (k + n)), .int .i64 (k : Nat)]) (t := 35) (fr := (0, 0)) (heap_alloc_new w2 _)) (by simp [Value.oneCell']) (by omega) hm1 hm2 (by simp; omega) (w2.heap.size + 1) (by simp) ?_; intro g2 cap2 w3 hown3 hgrow hat hlt3))
          have hR3 : RowT w.heap.size (T ++ [((s.data.toList.drop k).take n, k)]) (.slice (some ⟨g2, 0, none⟩) (m + 1) cap2) w3 := by
            rw [tok_ext] at hown3
            unfold RowT
            rw [List.flatMap_append, List.length_append, ← HMM.out]
            exact hown3
          have hb4 := hbd.grown hgrow (by simp; omega) (fun j hj => own_geT hown hj)
          have HC2 := Lib.hid (HCW.out.2 hnp)
          have HR3 := Lib.hid hR3
          clear hown3 hgrow hat hlt3 hown hbd hi0 hz0 hz1 hz2 hR3 hb3 hsz
          go_wp2_with fail
          go_roundw
          case rel => exact ⟨k + n, _, by omega, by go_num, HR3.out, by rw [List.length_append, ← HMM.out]; simp; omega, HC2.out, hb4⟩
          case measure => simp [intOf]; omega
      · obtain rfl : k = s.size := by omega
        have hce := HC.out
        rw [List.drop_eq_nil_of_le (by rw [len_text]; exact Nat.le_refl _), scanL_nil, List.append_nil] at hce
        have ht : tellW s.data.toList = (T, 0, 0) := by
          unfold tellW
          rw [len_text, if_neg (by omega), hce, if_neg (by simp)]
        have fin : RWordsPost s.data.toList w (.returned (.tuple #[u5, .int .i64 0, .int .i64 0])) wr := ⟨_, by rw [ht]; rfl, by rw [ht]; exact HR.out, HB.out⟩
        have FIN := Lib.hid fin
        clear fin ht hce cO
        go_wp2_with fail
        go_ret3
        exact FIN.out
  · have hd1 : decide ((2000 : Int) < (s.size : Int)) = true := by simp; omega
    have ht : tellW s.data.toList = ([], 0, 2) := by unfold tellW; rw [len_text, if_pos (by omega)]
    have fin : RWordsPost s.data.toList w (.returned (.tuple #[.slice none 0 0, .int .i64 0, .int .i64 2])) w := ⟨_, by rw [ht]; rfl, by rw [ht]; exact RowT.nil _ _, Below.refl _ _⟩
    have FIN := Lib.hid fin
    clear fin ht hs
    go_enter Tryz.func9, Tryz.ntmps9
    go_wp2
    go_ret3
    exact FIN.out
end Go.Proofs.YtkhklndmbfbnoaaGreatDoor

/- Words in memory held against each other; the page's example. -/
namespace Go.Proofs.YtkhklndmbfbnoaaGreatDoor
open Go.ChangeShapes Go.WideShapes Go.ChangeAt Go.RowKit Go.Joins Go.Deep
set_option linter.unusedVariables false

def tk0 : List UInt8 × Nat := ([], 0)
/-- words in memory, as they are read -/
def IsToks (w : World) (fd : Value) (T : List (List UInt8 × Nat)) : Prop :=
  ∃ q cap, fd = .slice q T.length cap ∧ T.length ≤ 1000000 ∧ (0 < T.length → ∃ g, q = some ⟨g, 0, none⟩ ∧ g < w.heap.size ∧ T.length ≤ cap ∧ ∀ i, i < T.length → w.cell? ⟨g, i * 2, none⟩ = some (.string ⟨(T.getD i tk0).1.toArray⟩) ∧ w.cell? ⟨g, i * 2 + 1, none⟩ = some (.int .i64 ((T.getD i tk0).2 : Nat)))
theorem tokCells_get (T : List (List UInt8 × Nat)) (i : Nat) (h : i < T.length) : (T.flatMap tokC)[i * 2]? = some (.string ⟨(T.getD i tk0).1.toArray⟩) ∧ (T.flatMap tokC)[i * 2 + 1]? = some (.int .i64 ((T.getD i tk0).2 : Nat)) := by
  induction T generalizing i with
  | nil => exact absurd h (by simp)
  | cons x r ih =>
    cases i with
    | zero => exact ⟨rfl, rfl⟩
    | succ i =>
      have := ih i (by simpa using h)
      rw [show (i + 1) * 2 = i * 2 + 1 + 1 by omega]
      exact this
theorem RowT.toks {base : Nat} {T : List (List UInt8 × Nat)} {fd : Value} {w : World} (h : RowT base T fd w) (hl : T.length ≤ 1000000) : IsToks w fd T := by
  obtain ⟨hlen, ⟨rfl, h0⟩ | ⟨g, cap, cur, rfl, hbb, hg, hn, hm, hc, hx⟩⟩ := h
  · exact ⟨none, 0, by rw [h0], hl, fun hp => by omega⟩
  · refine ⟨_, cap, rfl, hl, fun hp => ⟨g, rfl, ?_, hn, fun i hi => ?_⟩⟩
    · rcases Nat.lt_or_ge g w.heap.size with h' | h'
      · exact h'
      · rw [Array.getElem?_eq_none h'] at hg; cases hg
    · obtain ⟨c1, c2⟩ := tokCells_get T i hi
      rw [← hx, List.getElem?_take] at c1 c2
      rw [if_pos (by omega)] at c1 c2
      rw [cell_of_block hg, cell_of_block hg]
      exact ⟨by simpa using c1, by simpa using c2⟩
theorem IsToks.below {w w' : World} {fd : Value} {T : List (List UInt8 × Nat)} (h : IsToks w fd T) (hb : Below w.heap.size w w') : IsToks w' fd T := by
  obtain ⟨q, cap, rfl, hl, hc⟩ := h
  refine ⟨q, cap, rfl, hl, fun hp => ?_⟩
  obtain ⟨g, rfl, hg, hcap, hcell⟩ := hc hp
  exact ⟨g, rfl, by have := hb.size; omega, hcap, fun i hi => ⟨cell_below (hcell i hi).1 hb, cell_below (hcell i hi).2 hb⟩⟩
theorem under_tok : Tryz.prog.underlying 35 = some (.struct (Tryz.prog.fieldsOf 35)) := by kernel_rfl
theorem held_tok : Tryz.prog.stoodInHeld 35 = false := by kernel_rfl
theorem neq_tok (s : ByteArray) (n : Int) (w : World) :
    (binOp .neq 35 (.agg #[.string s, .int .i64 n]) (.agg #[.string s, .int .i64 n])).run Tryz.prog w = .ok (.bool false) w := by
  rw [run_neq_struct, run_equalIn_agg w 9999 35 _ _ under_tok held_tok]
  simp [Program.fieldsOf, Tryz.underlying35, go_sem]
theorem scan_count : ∀ (f : Nat) (p : Bool) (l : List UInt8) (a : Nat), (scan f p l a).1.length ≤ f := by
  intro f
  induction f with
  | zero => intro p l a; simp [scan]
  | succ f ih =>
    intro p l a
    unfold scan
    split
    · simp
    · simp only [List.length_cons]
      exact Nat.succ_le_succ (ih _ _ _)
theorem tellW_len (l : List UInt8) : (tellW l).1.length ≤ 2001 := by
  unfold tellW
  split
  · simp
  · split
    · simp
    · have := scan_count (l.length + 1) false l 0
      show (scan (l.length + 1) false l 0).1.length ≤ 2001
      omega
theorem ex_tell : tellW [97, 60, 60, 51] = ([([97], 0), ([60, 60], 1), ([51], 3)], 0, 0) := by decide +kernel
theorem ex_num : numB [51, 48] = true ∧ numV [51, 48] = 30 := by decide +kernel
end Go.Proofs.YtkhklndmbfbnoaaGreatDoor
