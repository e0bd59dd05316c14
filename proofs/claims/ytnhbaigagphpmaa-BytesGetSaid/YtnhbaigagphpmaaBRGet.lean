/- The document's own Get. -/
import Derived.Test.YtnhbaigagphpmaaBGet
import Derived.Test.YtnhbaigagphpmaaNatBits
namespace Go.Proofs.Ytnhbaigagphpmaa
open Go.ChangeShapes Go.WideShapes Go.ChangeAt Go.RowKit Go.Joins Go.Deep
set_option linter.unusedVariables false

theorem getD_mem {l : List BY} {j : Nat} (h : j < l.length) : l.getD j default ∈ l := by simp [List.getD, h]
theorem no_iff {l : List BY} : cnt isNo l = 0 ↔ ∀ j, j < l.length → (l.getD j default).st ≠ 0 := by
  rw [cnt_zero]
  constructor
  · intro h j hj hh
    have := h _ (getD_mem hj)
    rw [isNo, hh] at this
    simp at this
  · intro h x hx
    obtain ⟨j, hj, rfl⟩ := List.getElem_of_mem hx
    have := h j hj
    simp [List.getD, hj] at this
    simp [isNo, this]
theorem may_st {x : BY} (h : mayY x = true) : x.st = 0 ∨ x.st = 1 ∨ x.st = 2 := by
  unfold mayY at h
  split at h
  · exact Or.inl ‹_›
  · split at h
    · exact Or.inr (Or.inl ‹_›)
    · split at h
      · exact Or.inr (Or.inr ‹_›)
      · cases h
theorem may_at {l : List BY} (h : maysY l = true) {j : Nat} (hj : j < l.length) : mayY (l.getD j default) = true := (List.all_eq_true.1 h) _ (getD_mem hj)
theorem may_num {x : BY} (h : mayY x = true) (h1 : x.st = 1) : x = digY x.n := by
  obtain ⟨s, n, b, o, i⟩ := x
  simp only at h1
  subst h1
  rw [mayY_1] at h
  simp at h
  obtain ⟨⟨⟨_, rfl⟩, rfl⟩, rfl⟩ := h
  rfl
theorem may_par {x : BY} (h : mayY x = true) (h1 : x.st = 2) : x = parY x.b x.o x.i ∧ 1 ≤ x.b ∧ x.b ≤ 32 ∧ 0 ≤ x.o ∧ x.o ≤ 32 := by
  obtain ⟨s, n, b, o, i⟩ := x
  simp only at h1
  subst h1
  rw [mayY_2] at h
  simp [upTo] at h
  obtain ⟨⟨⟨rfl, h2⟩, h3⟩, h4⟩ := h
  exact ⟨rfl, h2.1, h2.2, h3.1, h3.2⟩
/-- no part: all are numbers' -/
theorem all_num {l : List BY} (hm : maysY l = true) (h0 : cnt isNo l = 0) (h1 : cnt isPa l = 0) {j : Nat} (hj : j < l.length) : l.getD j default = digY (l.getD j default).n := by
  have h2 := no_iff.1 h0 j hj
  have h3 := cnt_zero.1 h1 _ (getD_mem hj)
  have h4 := may_at hm hj
  rcases may_st h4 with h | h | h
  · exact absurd h h2
  · exact may_num h4 h
  · rw [isPa, h] at h3; simp at h3
theorem ze_iff {l : List BY} : cntOf l 2 = l.length ↔ ∀ j, j < l.length → l.getD j default = digY 0 := by
  show cnt isZe l = l.length ↔ _
  rw [cnt_all]
  constructor
  · intro h j hj; exact eqY_iff.1 (h _ (getD_mem hj))
  · intro h x hx
    obtain ⟨j, hj, rfl⟩ := List.getElem_of_mem hx
    have := h j hj
    simp [List.getD, hj] at this
    exact eqY_iff.2 this
theorem fo_iff {l : List BY} : cntOf l 3 = l.length ↔ ∀ j, j < l.length → l.getD j default = parY (hdY l).b (hdY l).o (j : Nat) := by
  show cntF (hdY l) 0 l = l.length ↔ _
  rw [cntF_all]
  constructor
  · intro h j hj; have := follB_get h j hj; rw [Nat.zero_add] at this; exact this
  · intro h; exact follB_of fun j hj => by rw [Nat.zero_add]; exact h j hj
theorem get_no {big : Bool} {k : Int} {l : List BY} (h : 0 < cnt isNo l) : getS big k l = (noS, 7) := by unfold getS; rw [if_pos (show 0 < cntOf l 0 from h)]
theorem get_p0 {big : Bool} {l : List BY} (h0 : cnt isNo l = 0) : getS big 7 l = ptrR l := by unfold getS; rw [if_neg (show ¬ 0 < cntOf l 0 by show ¬ 0 < cnt isNo l; omega), if_pos rfl]
theorem get_n0 {big : Bool} {k : Int} {l : List BY} (hk : k ≠ 7) (h0 : cnt isNo l = 0) : getS big k l = numR big l := by unfold getS; rw [if_neg (show ¬ 0 < cntOf l 0 by show ¬ 0 < cnt isNo l; omega), if_neg hk]
theorem ptr_null {l : List BY} (hm : maysY l = true) (h0 : cnt isNo l = 0) (h1 : cnt isPa l = 0) (h : ∀ j, j < l.length → (l.getD j default).n = 0) : ptrR l = (⟨true, 0, 0, 0⟩, 0) := by
  unfold ptrR
  rw [if_pos (ze_iff.2 fun j hj => by have := all_num hm h0 h1 hj; rw [this, h j hj])]
theorem ptr_mixed1 {l : List BY} (hm : maysY l = true) (h0 : cnt isNo l = 0) (h1 : cnt isPa l = 0) {j : Nat} (hj : j < l.length) (h : (l.getD j default).n ≠ 0) : ptrR l = (noS, 8) := by
  unfold ptrR
  rw [if_neg (fun hh => h (by rw [ze_iff.1 hh j hj]; rfl)), if_neg (fun hh => by
    have h2 := fo_iff.1 hh j hj
    have h3 := all_num hm h0 h1 hj
    rw [h2] at h3
    have := congrArg BY.st h3
    simp [parY, digY] at this)]
  rfl
theorem ptr_part {l : List BY} (h1 : 0 < cnt isPa l) : ¬ cntOf l 2 = l.length := by
  intro hh
  obtain ⟨x, hx, hp⟩ := List.any_eq_true.1 (cnt_any.1 h1)
  have := cnt_all.1 (show cnt isZe l = l.length from hh) x hx
  rw [eqY_iff.1 this] at hp
  simp [isPa, digY] at hp
theorem ptr_mixed2 {l : List BY} (hl : 0 < l.length) (h1 : 0 < cnt isPa l) (h : (hdY l).st ≠ 2) : ptrR l = (noS, 8) := by
  unfold ptrR
  rw [if_neg (ptr_part h1), if_neg (fun hh => h (by
    have := fo_iff.1 hh 0 hl
    rw [show hdY l = l.getD 0 default from rfl, this]; rfl))]
  rfl
theorem putL_foll {big : Bool} {l : List BY} {b o : Int} (hb : 0 < b) : putL big l.length ⟨true, 0, b, o⟩ = l ↔ ∀ j, j < l.length → l.getD j default = parY b o (j : Nat) := by
  constructor
  · intro h j hj
    rw [← h, putL_get _ _ _ _ (by rw [← h, putL_len]; rw [← h, putL_len] at hj; exact hj)]
    unfold putY
    rw [if_pos hb]
  · intro h
    refine List.ext_getElem (putL_len _ _ _) fun i h1 h2 => ?_
    have h3 := h i h2
    have h4 := putL_get big l.length ⟨true, 0, b, o⟩ i h2
    have h5 : putY big l.length ⟨true, 0, b, o⟩ i = parY b o (i : Nat) := by unfold putY; rw [if_pos hb]
    rw [h5, ← h3] at h4
    simpa [List.getD, h1, h2] using h4
theorem ptr_same {big : Bool} {l : List BY} (hl : 0 < l.length) (hm : maysY l = true) (h1 : 0 < cnt isPa l) (h : (hdY l).st = 2) : ptrR l = if eqLY (putL big l.length ⟨true, 0, (hdY l).b, (hdY l).o⟩) l then (⟨true, 0, (hdY l).b, (hdY l).o⟩, 0) else (noS, 8) := by
  have h2 := (may_par (may_at hm hl) h).2.1
  unfold ptrR
  rw [if_neg (ptr_part h1)]
  by_cases hh : cntOf l 3 = l.length
  · rw [if_pos hh, if_pos (eqLY_iff.2 ((putL_foll (by show 0 < (hdY l).b; exact Int.lt_of_lt_of_le (by decide) h2)).2 (fo_iff.1 hh)))]
  · rw [if_neg hh, if_neg (fun hq => hh (fo_iff.2 ((putL_foll (by show 0 < (hdY l).b; exact Int.lt_of_lt_of_le (by decide) h2)).1 (eqLY_iff.1 hq))))]
    rfl
theorem num_mixed {big : Bool} {l : List BY} (h1 : 0 < cnt isPa l) : numR big l = (noS, 8) := by unfold numR; rw [if_pos (show 0 < cntOf l 1 from h1)]; rfl
theorem num_sum {big : Bool} {l : List BY} (hn : l.length = 1 ∨ l.length = 2 ∨ l.length = 4) (h1 : ¬ 0 < cnt isPa l) : numR big l = (⟨false, horI big l.length l l.length, 0, 0⟩, 0) := by unfold numR; rw [if_neg (show ¬ 0 < cntOf l 1 from h1), sum_hor big _ hn]
theorem or_by (H n : Int) (hH : 0 ≤ H ∧ H ≤ 16777215) (hn : 0 ≤ n ∧ n ≤ 255) : bits .or .i64 (H * 256) n = H * 256 + n := by
  obtain ⟨h1, h2⟩ := hH
  obtain ⟨n1, n2⟩ := hn
  obtain ⟨a, rfl⟩ : ∃ a : Nat, H = a := ⟨H.toNat, by omega⟩
  obtain ⟨c, rfl⟩ : ∃ c : Nat, n = c := ⟨n.toNat, by omega⟩
  have e : (a : Int) * 256 = ((a * 256 : Nat) : Int) := by omega
  rw [e, bits_or (by omega) (by omega)]
  have := Nat.shiftLeft_add_eq_or_of_lt (i := 8) (show c < 2 ^ 8 by omega) a
  rw [Nat.shiftLeft_eq] at this
  rw [show a * 256 = a * 2 ^ 8 by rfl, ← this]
  omega
def RGetPost (s : SC) (bad : Int) (w : World) (e : Ending) (w' : World) : Prop := e = .returned (.tuple #[scA s, .int .i64 bad]) ∧ Below w.heap.size w w'
def RelG1 (xs : List BY) (len : Nat) (v8 v9 : Value) : Prop := ∃ j : Nat, j ≤ len ∧ v9 = .int .i64 (j : Nat) ∧ v8 = .int .i64 (cnt isPa (xs.take j) : Nat) ∧ cnt isNo (xs.take j) = 0
def RelG2 (xs : List BY) (len : Nat) (v : Value) : Prop := ∃ j : Nat, j ≤ len ∧ v = .int .i64 (j : Nat) ∧ ∀ i, i < j → (xs.getD i default).n = 0
def RelG3 (big : Bool) (xs : List BY) (len : Nat) (v12 v13 : Value) : Prop := ∃ j : Nat, j ≤ len ∧ v13 = .int .i64 (j : Nat) ∧ v12 = .int .i64 (horI big len xs j)
set_option maxRecDepth 100000 in
set_option maxHeartbeats 6400000 in
theorem rGet_any (big : Bool) (p k : Int) (q : Option Addr) (len cap : Nat) (xs : List BY) (hp : mayA p) (hk : 1 ≤ k ∧ k ≤ 7) (hne : sizN p k = len) (w : World) (hx : IsBys w q len xs) (hm : maysY xs = true) :
    Calls Try.prog 14 #[.agg #[.bool big, .int .i64 p], .int .i64 k, .slice q len cap] w (RGetPost (getS big k xs).1 (getS big k xs).2 w) := by
  have hn := siz_cases hp hk
  rw [hne] at hn
  have hin := inB_of hm
  have hlen := hx.2.1
  have hnl : xs.length = 1 ∨ xs.length = 2 ∨ xs.length = 4 := by rw [hlen]; exact hn
  obtain ⟨b, off, rfl, hbb, hcells⟩ := hx.2.2 (by omega)
  have hl1 : 1 ≤ len := by omega
  have hl4 : len ≤ 4 := by omega
  have HX := Lib.hid hx
  have HM := Lib.hid hm
  have HI := Lib.hid hin
  have HL := Lib.hid hlen
  have HNL := Lib.hid hnl
  have HP := Lib.hid hp
  have HNE := Lib.hid hne
  have dP := At.new2 w (.cells #[.bool big, .int .i64 p] 38) #[.bool false, .int .i64 0, .int .i64 0, .int .i64 0] 33
  have dA := At.alloc (At.new w #[.bool big, .int .i64 p] 38) (.cells #[.bool false, .int .i64 0, .int .i64 0, .int .i64 0] 33)
  have hb0 := below_box2 w (.cells #[.bool big, .int .i64 p] 38) (.cells #[.bool false, .int .i64 0, .int .i64 0, .int .i64 0] 33)
  clear hp hne hx hm hn hin hlen hnl
  go_enter Try.func14, Try.ntmps14
  go_wp2_with fail
  generalize ((w.alloc (.cells #[.bool big, .int .i64 p] 38)).alloc (.cells #[.bool false, .int .i64 0, .int .i64 0, .int .i64 0] 33)) = w1 at *
  have HC : ∀ j, j < len → ByCells w1 b (off + j * 5) (xs.getD j default) := fun j hj => (hcells j hj).below hb0
  have hw1 := hb0.size
  clear hcells
  have HCC := Lib.hid HC
  clear HC
  go_loop [8, 9] (fun v8 v9 => RelG1 xs len v8 v9) (fun _ v9 => len - (intOf v9).toNat)
  case atStart => exact ⟨0, by omega, rfl, by simp [cnt], by simp [cnt]⟩
  case round =>
    obtain ⟨j, hj, rfl, rfl, hno⟩ := hrel
    by_cases hlt : j < len
    · have hcj := HCC.out j hlt
      have hsn := take_snocD xs j (by rw [HL.out]; omega)
      have hnx := cnt_next (f := hdY xs) hsn (by rw [List.length_take, HL.out]; omega)
      have h1 := cnt_le isPa (xs.take j)
      have h2 : (xs.take j).length ≤ 4 := by rw [List.length_take]; omega
      have hle : ∀ j, cnt isNo (xs.take j) ≤ cnt isNo xs := fun j => by
        conv => rhs; rw [← List.take_append_drop j xs]
        unfold cnt; rw [List.filter_append, List.length_append]; omega
      have HLE := Lib.hid (hle (j + 1))
      obtain ⟨x, hxx⟩ : ∃ x, x = xs.getD j default := ⟨_, rfl⟩
      rw [← hxx] at hcj hnx
      generalize cnt isPa (xs.take j) = m1 at *
      have hj3 : (j : Int) < (len : Int) := by omega
      obtain ⟨s, n, bb, o, i⟩ := x
      obtain ⟨p0, p1, p2, p3, p4⟩ := hcj
      dsimp only at p0 p1 p2 p3 p4 hnx
      have HN0 := Lib.hid hno
      have HNX := Lib.hid hnx
      clear hno hnx hsn hxx hle
      by_cases hs0 : s = 0
      · subst hs0
        have HE : Hid (getS big k xs = (noS, 7)) := Lib.hid (get_no (by have h1 := HNX.out.1; have h2 := HLE.out; rw [h1, HN0.out] at h2; have h3 : (if isNo ⟨0, n, bb, o, i⟩ = true then 1 else 0) = 1 := rfl; omega))
        have st := store4 dP (.bool false) (.int .i64 0) (.int .i64 0) (.int .i64 0)
        have E1 := store4_at dP (.bool false) (.int .i64 0) (.int .i64 0) (.int .i64 0)
        have E2 := store4_below hb0 (Nat.le_succ _) (.bool false) (.int .i64 0) (.int .i64 0) (.int .i64 0)
        clear dP hb0
        go_wp2_with fail
        generalize ((((w1.setCell ⟨(w.heap.size + 1), 0, none⟩ (.bool false)).setCell ⟨(w.heap.size + 1), 1, none⟩ (.int .i64 0)).setCell ⟨(w.heap.size + 1), 2, none⟩ (.int .i64 0)).setCell ⟨(w.heap.size + 1), 3, none⟩ (.int .i64 0)) = wz at E1 E2 ⊢
        have g0 : wz.cell? ⟨w.heap.size + 1, 0, none⟩ = some (.bool false) := E1.cell 0 rfl
        have g1 : wz.cell? ⟨w.heap.size + 1, 1, none⟩ = some (.int .i64 0) := E1.cell 1 rfl
        have g2 : wz.cell? ⟨w.heap.size + 1, 2, none⟩ = some (.int .i64 0) := E1.cell 2 rfl
        have g3 : wz.cell? ⟨w.heap.size + 1, 3, none⟩ = some (.int .i64 0) := E1.cell 3 rfl
        exact bodyPost_ret (v := .tuple #[.agg #[.bool false, .int .i64 0, .int .i64 0, .int .i64 0], .int .i64 7]) (by simp [results, Try.results14, go_sem, g0, g1, g2, g3]) rfl ⟨by rw [HE.out]; rfl, E2⟩
      by_cases hs2 : s = 2
      · subst hs2
        go_wp2
        go_round
        case rel => exact ⟨j + 1, by omega, by go_num, by rw [HNX.out.2.1]; go_num, by rw [HNX.out.1, HN0.out]; rfl⟩
        case measure => simp [intOf]; omega
      have t0 : (s == 0) = false := by simpa using hs0
      have t2 : (s == 2) = false := by simpa using hs2
      clear hs0 hs2
      go_wp2
      go_round
      case rel => exact ⟨j + 1, by omega, by go_num, by rw [HNX.out.2.1]; simp [isPa, t2], by rw [HNX.out.1, HN0.out]; simp [isNo, t0]⟩
      case measure => simp [intOf]; omega
    · obtain rfl : j = len := by omega
      have et : xs.take j = xs := List.take_of_length_le (by rw [HL.out]; omega)
      rw [et] at hno ⊢
      have HN0 := Lib.hid hno
      clear hno et
      have hpl := cnt_le isPa xs
      rw [HL.out] at hpl
      by_cases hk7 : k = 7
      · subst hk7
        by_cases hp0 : cnt isPa xs = 0
        · have HP0 := Lib.hid hp0
          rw [hp0]
          clear hp0 hpl
          go_wp2_with fail
          go_loop [10] (fun v => RelG2 xs j v) (fun v => j - (intOf v).toNat)
          case atStart => exact ⟨0, by omega, rfl, fun i hi => by omega⟩
          case round =>
            obtain ⟨i, hi, rfl, hz⟩ := hrel
            have HZ := Lib.hid hz
            clear hz
            by_cases hlt2 : i < j
            · have hci := HCC.out i hlt2
              obtain ⟨x, hxx⟩ : ∃ x, x = xs.getD i default := ⟨_, rfl⟩
              rw [← hxx] at hci
              have HXX := Lib.hid hxx
              have hj3 : (i : Int) < (j : Int) := by omega
              obtain ⟨s, n, bb, o, ii⟩ := x
              obtain ⟨p0, p1, p2, p3, p4⟩ := hci
              dsimp only at p0 p1 p2 p3 p4
              clear hxx
              by_cases hn0 : n = 0
              · subst hn0
                go_wp2
                go_round
                case rel => exact ⟨i + 1, by omega, by go_num, fun c hc => by
                  by_cases e : c = i
                  · subst e; rw [← HXX.out]
                  · exact HZ.out c (by omega)⟩
                case measure => simp [intOf]; omega
              · have t1 : (n == 0) = false := by simpa using hn0
                have t2 : (n != 0) = true := by simpa using hn0
                have HE : Hid (getS big 7 xs = (noS, 8)) := Lib.hid (by rw [get_p0 HN0.out]; exact ptr_mixed1 HM.out HN0.out HP0.out (j := i) (by rw [HL.out]; omega) (by rw [← HXX.out]; exact hn0))
                clear hn0
                have st := store4 dP (.bool false) (.int .i64 0) (.int .i64 0) (.int .i64 0)
                have E1 := store4_at dP (.bool false) (.int .i64 0) (.int .i64 0) (.int .i64 0)
                have E2 := store4_below hb0 (Nat.le_succ _) (.bool false) (.int .i64 0) (.int .i64 0) (.int .i64 0)
                clear dP hb0
                go_wp2_with fail
                generalize ((((w1.setCell ⟨(w.heap.size + 1), 0, none⟩ (.bool false)).setCell ⟨(w.heap.size + 1), 1, none⟩ (.int .i64 0)).setCell ⟨(w.heap.size + 1), 2, none⟩ (.int .i64 0)).setCell ⟨(w.heap.size + 1), 3, none⟩ (.int .i64 0)) = wz at E1 E2 ⊢
                have g0 : wz.cell? ⟨w.heap.size + 1, 0, none⟩ = some (.bool false) := E1.cell 0 rfl
                have g1 : wz.cell? ⟨w.heap.size + 1, 1, none⟩ = some (.int .i64 0) := E1.cell 1 rfl
                have g2 : wz.cell? ⟨w.heap.size + 1, 2, none⟩ = some (.int .i64 0) := E1.cell 2 rfl
                have g3 : wz.cell? ⟨w.heap.size + 1, 3, none⟩ = some (.int .i64 0) := E1.cell 3 rfl
                exact bodyPost_ret (v := .tuple #[.agg #[.bool false, .int .i64 0, .int .i64 0, .int .i64 0], .int .i64 8]) (by simp [results, Try.results14, go_sem, g0, g1, g2, g3]) rfl ⟨by rw [HE.out]; rfl, E2⟩
            · have HE : Hid (getS big 7 xs = (⟨true, 0, 0, 0⟩, 0)) := Lib.hid (by rw [get_p0 HN0.out]; exact ptr_null HM.out HN0.out HP0.out (fun c hc => HZ.out c (by rw [HL.out] at hc; omega)))
              have st := store4 dP (.bool true) (.int .i64 0) (.int .i64 0) (.int .i64 0)
              have E1 := store4_at dP (.bool true) (.int .i64 0) (.int .i64 0) (.int .i64 0)
              have E2 := store4_below hb0 (Nat.le_succ _) (.bool true) (.int .i64 0) (.int .i64 0) (.int .i64 0)
              clear dP hb0
              go_wp2_with fail
              generalize ((((w1.setCell ⟨(w.heap.size + 1), 0, none⟩ (.bool true)).setCell ⟨(w.heap.size + 1), 1, none⟩ (.int .i64 0)).setCell ⟨(w.heap.size + 1), 2, none⟩ (.int .i64 0)).setCell ⟨(w.heap.size + 1), 3, none⟩ (.int .i64 0)) = wz at E1 E2 ⊢
              have g0 : wz.cell? ⟨w.heap.size + 1, 0, none⟩ = some (.bool true) := E1.cell 0 rfl
              have g1 : wz.cell? ⟨w.heap.size + 1, 1, none⟩ = some (.int .i64 0) := E1.cell 1 rfl
              have g2 : wz.cell? ⟨w.heap.size + 1, 2, none⟩ = some (.int .i64 0) := E1.cell 2 rfl
              have g3 : wz.cell? ⟨w.heap.size + 1, 3, none⟩ = some (.int .i64 0) := E1.cell 3 rfl
              exact bodyPost_ret (v := .tuple #[.agg #[.bool true, .int .i64 0, .int .i64 0, .int .i64 0], .int .i64 0]) (by simp [results, Try.results14, go_sem, g0, g1, g2, g3]) rfl ⟨by rw [HE.out]; rfl, E2⟩
        · have t0 : ((cnt isPa xs : Int) == 0) = false := by rw [beq_eq_false_iff_ne]; omega
          have HPP := Lib.hid (show 0 < cnt isPa xs by omega)
          have hc0 := HCC.out 0 (by omega)
          have hx0 : Hid (xs.getD 0 default = hdY xs) := Lib.hid rfl
          rw [hx0.out] at hc0
          have hl0 : 0 < xs.length := by rw [HL.out]; omega
          have hsame := fun h => ptr_same (big := big) hl0 HM.out HPP.out h
          have hmix := fun h => ptr_mixed2 hl0 HPP.out h
          have hpar := fun h => may_par (may_at HM.out hl0) h
          have hg := get_p0 (big := big) HN0.out
          rw [show xs.getD 0 default = hdY xs from rfl] at hpar
          generalize cnt isPa xs = mp at *
          have a1 : decide (0 < j) = true := by simp; omega
          have a2 : (0 : Int) < (j : Int) := by omega
          have HG := Lib.hid hg
          have HS := Lib.hid hsame
          have HMX := Lib.hid hmix
          have HPA := Lib.hid hpar
          clear hp0 hsame hmix hpar hg hx0
          obtain ⟨hy, hhy⟩ : ∃ hy, hy = hdY xs := ⟨_, rfl⟩
          rw [← hhy] at hc0 HS HMX HPA
          clear hhy
          obtain ⟨s, n, bb, o, i⟩ := hy
          obtain ⟨p0, p1, p2, p3, p4⟩ := hc0
          simp only [Nat.zero_mul, Nat.add_zero] at p0 p1 p2 p3 p4
          have a3 : 0 < j := by omega
          have u2 := cell_alloc p2 (.cells #[.bool false, .int .i64 0, .int .i64 0, .int .i64 0] 33)
          have u3 := cell_alloc p3 (.cells #[.bool false, .int .i64 0, .int .i64 0, .int .i64 0] 33)
          go_upto_region 17 with (fail)
          go_region
          have dS := (At.new w1 #[.bool true, .int .i64 0, .int .i64 bb, .int .i64 o] 33).drew
          replace dP := (At.alloc dP (.cells #[.bool true, .int .i64 0, .int .i64 bb, .int .i64 o] 33)).drew
          replace dA := (At.alloc dA (.cells #[.bool true, .int .i64 0, .int .i64 bb, .int .i64 o] 33)).drew
          replace hb0 := (hb0.alloc hb0.size (.cells #[.bool true, .int .i64 0, .int .i64 bb, .int .i64 o] 33)).drew
          have x0 : (w1.alloc (.cells #[.bool true, .int .i64 0, .int .i64 bb, .int .i64 o] 33)).drew.cell? ⟨b, off, none⟩ = some (.int .i64 s) := cell_alloc p0 _
          clear u2 u3 p0 p1 p2 p3 p4 HCC
          generalize (w1.alloc (.cells #[.bool true, .int .i64 0, .int .i64 bb, .int .i64 o] 33)).drew = w2 at *
          generalize w1.heap.size = SB at *
          by_cases hs2 : s = 2
          · subst hs2
            have hbx := HPA.out rfl
            have hS2 := HS.out rfl
            have HS2 := Lib.hid hS2
            have hmay : mayS 7 ⟨true, 0, bb, o⟩ = true := by
              obtain ⟨_, h1, h2, h3, h4⟩ := hbx
              have : mayS 7 ⟨true, 0, bb, o⟩ = mayP ⟨true, 0, bb, o⟩ := by simp [mayS]
              rw [this, mayP_eq]
              simp [upTo] at h1 h2 h3 h4 ⊢; omega
            have cP := fun w => rPut_any big p 7 HP.out ⟨true, 0, bb, o⟩ hmay w
            rw [HNE.out] at cP
            unfold scV at cP
            dsimp only at cP
            have cEq := fun w B h h2 => EqBytes_any (some ⟨B, 0, none⟩) j j (putL big j ⟨true, 0, bb, o⟩) (some ⟨b, off, none⟩) j cap xs w h h2
            have hpl : (putL big j ⟨true, 0, bb, o⟩).length = j := putL_len _ _ _
            have HPL := Lib.hid hpl
            rw [HL.out] at hS2
            have HS2 := Lib.hid hS2
            have a0 : w2.cell? ⟨w.heap.size, 0, none⟩ = some (.bool big) := dA.cell 0 rfl
            have a1 : w2.cell? ⟨w.heap.size, 1, none⟩ = some (.int .i64 p) := dA.cell 1 rfl
            have s0 : w2.cell? ⟨SB, 0, none⟩ = some (.bool true) := dS.cell 0 rfl
            have s1 : w2.cell? ⟨SB, 1, none⟩ = some (.int .i64 0) := dS.cell 1 rfl
            have s2 : w2.cell? ⟨SB, 2, none⟩ = some (.int .i64 bb) := dS.cell 2 rfl
            have s3 : w2.cell? ⟨SB, 3, none⟩ = some (.int .i64 o) := dS.cell 3 rfl
            clear hbx hS2 hmay HPA HMX HS hpl
            generalize putL big j ⟨true, 0, bb, o⟩ = PL at *
            cases hq : eqLY PL xs
            all_goals
              rw [hq] at cEq
              have HQ := Lib.hid hq
              clear hq
              go_wp2_with fail
              refine (cP _).mono ?_
              rintro e w3 ⟨B, rfl, hBge, hB, hb3⟩
              replace dP := At.below' hb3 dP
              replace dS := At.below' hb3 dS
              replace hb0 := hb0.trans (hb3.mono hb0.size)
              clear hb3 a0 a1 s0 s1 s2 s3 dA x0
              go_wp2_with fail
              refine (cEq _ B (bys_of_at hB HPL.out (by omega)) (HX.out.below hb0)).mono ?_
              rintro e w4 ⟨rfl, hb3⟩
              replace dP := At.below' hb3 dP
              replace dS := At.below' hb3 dS
              replace hb0 := hb0.trans (hb3.mono hb0.size)
              clear hb3 hB
            · have HE : Hid (getS big 7 xs = (noS, 8)) := Lib.hid (by rw [HG.out, HS2.out, HQ.out]; rfl)
              clear HS2
              have st := store4 dP (.bool false) (.int .i64 0) (.int .i64 0) (.int .i64 0)
              have E1 := store4_at dP (.bool false) (.int .i64 0) (.int .i64 0) (.int .i64 0)
              have E2 := store4_below hb0 (Nat.le_succ _) (.bool false) (.int .i64 0) (.int .i64 0) (.int .i64 0)
              clear dP hb0
              go_wp2_with fail
              generalize ((((w4.setCell ⟨(w.heap.size + 1), 0, none⟩ (.bool false)).setCell ⟨(w.heap.size + 1), 1, none⟩ (.int .i64 0)).setCell ⟨(w.heap.size + 1), 2, none⟩ (.int .i64 0)).setCell ⟨(w.heap.size + 1), 3, none⟩ (.int .i64 0)) = wz at E1 E2 ⊢
              have g0 : wz.cell? ⟨w.heap.size + 1, 0, none⟩ = some (.bool false) := E1.cell 0 rfl
              have g1 : wz.cell? ⟨w.heap.size + 1, 1, none⟩ = some (.int .i64 0) := E1.cell 1 rfl
              have g2 : wz.cell? ⟨w.heap.size + 1, 2, none⟩ = some (.int .i64 0) := E1.cell 2 rfl
              have g3 : wz.cell? ⟨w.heap.size + 1, 3, none⟩ = some (.int .i64 0) := E1.cell 3 rfl
              exact bodyPost_ret (v := .tuple #[.agg #[.bool false, .int .i64 0, .int .i64 0, .int .i64 0], .int .i64 8]) (by simp [results, Try.results14, go_sem, g0, g1, g2, g3]) rfl ⟨by rw [HE.out]; rfl, E2⟩
            · have HE : Hid (getS big 7 xs = (⟨true, 0, bb, o⟩, 0)) := Lib.hid (by rw [HG.out, HS2.out, HQ.out]; rfl)
              clear HS2
              have s0 : w4.cell? ⟨SB, 0, none⟩ = some (.bool true) := dS.cell 0 rfl
              have s1 : w4.cell? ⟨SB, 1, none⟩ = some (.int .i64 0) := dS.cell 1 rfl
              have s2 : w4.cell? ⟨SB, 2, none⟩ = some (.int .i64 bb) := dS.cell 2 rfl
              have s3 : w4.cell? ⟨SB, 3, none⟩ = some (.int .i64 o) := dS.cell 3 rfl
              have st := store4 dP (.bool true) (.int .i64 0) (.int .i64 bb) (.int .i64 o)
              have E1 := store4_at dP (.bool true) (.int .i64 0) (.int .i64 bb) (.int .i64 o)
              have E2 := store4_below hb0 (Nat.le_succ _) (.bool true) (.int .i64 0) (.int .i64 bb) (.int .i64 o)
              clear dP hb0
              go_wp2_with fail
              generalize ((((w4.setCell ⟨(w.heap.size + 1), 0, none⟩ (.bool true)).setCell ⟨(w.heap.size + 1), 1, none⟩ (.int .i64 0)).setCell ⟨(w.heap.size + 1), 2, none⟩ (.int .i64 bb)).setCell ⟨(w.heap.size + 1), 3, none⟩ (.int .i64 o)) = wz at E1 E2 ⊢
              have g0 : wz.cell? ⟨w.heap.size + 1, 0, none⟩ = some (.bool true) := E1.cell 0 rfl
              have g1 : wz.cell? ⟨w.heap.size + 1, 1, none⟩ = some (.int .i64 0) := E1.cell 1 rfl
              have g2 : wz.cell? ⟨w.heap.size + 1, 2, none⟩ = some (.int .i64 bb) := E1.cell 2 rfl
              have g3 : wz.cell? ⟨w.heap.size + 1, 3, none⟩ = some (.int .i64 o) := E1.cell 3 rfl
              exact bodyPost_ret (v := .tuple #[.agg #[.bool true, .int .i64 0, .int .i64 bb, .int .i64 o], .int .i64 0]) (by simp [results, Try.results14, go_sem, g0, g1, g2, g3]) rfl ⟨by rw [HE.out]; rfl, E2⟩
          · have t2 : (s == 2) = false := by simpa using hs2
            have t3 : (s != 2) = true := by simpa using hs2
            have HE : Hid (getS big 7 xs = (noS, 8)) := Lib.hid (by rw [HG.out]; exact HMX.out hs2)
            clear hs2
            have st := store4 dP (.bool false) (.int .i64 0) (.int .i64 0) (.int .i64 0)
            have E1 := store4_at dP (.bool false) (.int .i64 0) (.int .i64 0) (.int .i64 0)
            have E2 := store4_below hb0 (Nat.le_succ _) (.bool false) (.int .i64 0) (.int .i64 0) (.int .i64 0)
            clear dP hb0
            go_wp2_with fail
            generalize ((((w2.setCell ⟨(w.heap.size + 1), 0, none⟩ (.bool false)).setCell ⟨(w.heap.size + 1), 1, none⟩ (.int .i64 0)).setCell ⟨(w.heap.size + 1), 2, none⟩ (.int .i64 0)).setCell ⟨(w.heap.size + 1), 3, none⟩ (.int .i64 0)) = wz at E1 E2 ⊢
            have g0 : wz.cell? ⟨w.heap.size + 1, 0, none⟩ = some (.bool false) := E1.cell 0 rfl
            have g1 : wz.cell? ⟨w.heap.size + 1, 1, none⟩ = some (.int .i64 0) := E1.cell 1 rfl
            have g2 : wz.cell? ⟨w.heap.size + 1, 2, none⟩ = some (.int .i64 0) := E1.cell 2 rfl
            have g3 : wz.cell? ⟨w.heap.size + 1, 3, none⟩ = some (.int .i64 0) := E1.cell 3 rfl
            exact bodyPost_ret (v := .tuple #[.agg #[.bool false, .int .i64 0, .int .i64 0, .int .i64 0], .int .i64 8]) (by simp [results, Try.results14, go_sem, g0, g1, g2, g3]) rfl ⟨by rw [HE.out]; rfl, E2⟩
      · have t7 : (k == 7) = false := by simpa using hk7
        have hg := get_n0 (big := big) hk7 HN0.out
        have HG := Lib.hid hg
        clear hg hk7
        by_cases hp0 : 0 < cnt isPa xs
        · have HE : Hid (getS big k xs = (noS, 8)) := Lib.hid (by rw [HG.out]; exact num_mixed hp0)
          have t0 : decide ((0 : Int) < (cnt isPa xs : Int)) = true := by simp; omega
          generalize cnt isPa xs = mp at *
          have st := store4 dP (.bool false) (.int .i64 0) (.int .i64 0) (.int .i64 0)
          have E1 := store4_at dP (.bool false) (.int .i64 0) (.int .i64 0) (.int .i64 0)
          have E2 := store4_below hb0 (Nat.le_succ _) (.bool false) (.int .i64 0) (.int .i64 0) (.int .i64 0)
          clear dP hb0
          go_wp2_with fail
          generalize ((((w1.setCell ⟨(w.heap.size + 1), 0, none⟩ (.bool false)).setCell ⟨(w.heap.size + 1), 1, none⟩ (.int .i64 0)).setCell ⟨(w.heap.size + 1), 2, none⟩ (.int .i64 0)).setCell ⟨(w.heap.size + 1), 3, none⟩ (.int .i64 0)) = wz at E1 E2 ⊢
          have g0 : wz.cell? ⟨w.heap.size + 1, 0, none⟩ = some (.bool false) := E1.cell 0 rfl
          have g1 : wz.cell? ⟨w.heap.size + 1, 1, none⟩ = some (.int .i64 0) := E1.cell 1 rfl
          have g2 : wz.cell? ⟨w.heap.size + 1, 2, none⟩ = some (.int .i64 0) := E1.cell 2 rfl
          have g3 : wz.cell? ⟨w.heap.size + 1, 3, none⟩ = some (.int .i64 0) := E1.cell 3 rfl
          exact bodyPost_ret (v := .tuple #[.agg #[.bool false, .int .i64 0, .int .i64 0, .int .i64 0], .int .i64 8]) (by simp [results, Try.results14, go_sem, g0, g1, g2, g3]) rfl ⟨by rw [HE.out]; rfl, E2⟩
        · have hsum := num_sum (big := big) HNL.out hp0
          rw [HL.out] at hsum
          have HE : Hid (getS big k xs = (⟨false, horI big j xs j, 0, 0⟩, 0)) := Lib.hid (by rw [HG.out]; exact hsum)
          have hp1 : cnt isPa xs = 0 := by omega
          rw [hp1]
          have hbd := fun i => hor_bd big j xs HI.out i
          have HBD := Lib.hid hbd
          have a0 : w1.cell? ⟨w.heap.size, 0, none⟩ = some (.bool big) := dA.cell 0 rfl
          clear hsum hp0 hp1 hbd hpl
          go_wp2_with fail
          go_loop [12, 13] (fun v12 v13 => RelG3 big xs j v12 v13) (fun _ v13 => j - (intOf v13).toNat)
          case atStart => exact ⟨0, by omega, rfl, rfl⟩
          case round =>
            obtain ⟨i, hi, rfl, rfl⟩ := hrel
            by_cases hlt2 : i < j
            · have hj3 : (i : Int) < (j : Int) := by omega
              have hH := HBD.out i
              have hH2 : horI big j xs i ≤ 16777215 := by
                have : i = 0 ∨ i = 1 ∨ i = 2 ∨ i = 3 := by omega
                rcases this with rfl | rfl | rfl | rfl <;> omega
              have hstep : horI big j xs (i + 1) = horI big j xs i * 256 + (xs.getD (if big then i else j - 1 - i) default).n := rfl
              have hni := HI.out (if big then i else j - 1 - i)
              have hci := HCC.out (if big then i else j - 1 - i) (by split <;> omega)
              have hor := or_by _ _ ⟨hH.1, hH2⟩ hni
              have hH1 := hH.1
              generalize horI big j xs i = H at *
              clear hH
              cases big
              · simp only [Bool.false_eq_true, if_false] at hci hstep hor hni
                obtain ⟨kk, hkk⟩ : ∃ kk, kk = j - 1 - i := ⟨_, rfl⟩
                rw [← hkk] at hci hstep hor hni
                have hik : (j : Int) - 1 - (i : Int) = (kk : Nat) := by omega
                have hkj : kk < j := by omega
                have hkj2 : (kk : Int) < (j : Int) := by omega
                generalize xs.getD kk default = x at *
                obtain ⟨s, n, bb, o, ii⟩ := x
                obtain ⟨p0, p1, p2, p3, p4⟩ := hci
                dsimp only at p0 p1 p2 p3 p4 hstep hor hni
                have HST := Lib.hid hstep
                clear hstep hkk hni
                go_wp2
                go_round
                case rel => exact ⟨i + 1, by omega, by go_num, by rw [HST.out]⟩
                case measure => simp [intOf]; omega
              · simp only [if_true] at hci hstep hor hni
                generalize xs.getD i default = x at *
                obtain ⟨s, n, bb, o, ii⟩ := x
                obtain ⟨p0, p1, p2, p3, p4⟩ := hci
                dsimp only at p0 p1 p2 p3 p4 hstep hor hni
                have HST := Lib.hid hstep
                clear hstep hni
                go_wp2
                go_round
                case rel => exact ⟨i + 1, by omega, by go_num, by rw [HST.out]⟩
                case measure => simp [intOf]; omega
            · obtain rfl : i = j := by omega
              generalize horI big i xs i = H at *
              have st := store4 dP (.bool false) (.int .i64 H) (.int .i64 0) (.int .i64 0)
              have E1 := store4_at dP (.bool false) (.int .i64 H) (.int .i64 0) (.int .i64 0)
              have E2 := store4_below hb0 (Nat.le_succ _) (.bool false) (.int .i64 H) (.int .i64 0) (.int .i64 0)
              clear dP hb0
              go_wp2_with fail
              generalize ((((w1.setCell ⟨(w.heap.size + 1), 0, none⟩ (.bool false)).setCell ⟨(w.heap.size + 1), 1, none⟩ (.int .i64 H)).setCell ⟨(w.heap.size + 1), 2, none⟩ (.int .i64 0)).setCell ⟨(w.heap.size + 1), 3, none⟩ (.int .i64 0)) = wz at E1 E2 ⊢
              have g0 : wz.cell? ⟨w.heap.size + 1, 0, none⟩ = some (.bool false) := E1.cell 0 rfl
              have g1 : wz.cell? ⟨w.heap.size + 1, 1, none⟩ = some (.int .i64 H) := E1.cell 1 rfl
              have g2 : wz.cell? ⟨w.heap.size + 1, 2, none⟩ = some (.int .i64 0) := E1.cell 2 rfl
              have g3 : wz.cell? ⟨w.heap.size + 1, 3, none⟩ = some (.int .i64 0) := E1.cell 3 rfl
              exact bodyPost_ret (v := .tuple #[.agg #[.bool false, .int .i64 H, .int .i64 0, .int .i64 0], .int .i64 0]) (by simp [results, Try.results14, go_sem, g0, g1, g2, g3]) rfl ⟨by rw [HE.out]; rfl, E2⟩
end Go.Proofs.Ytnhbaigagphpmaa
