/- Package mem: rows of bytes, and of blocks, cloned. -/
import Derived.Test.YtnhbaigagphpmaaKRLoad
import Derived.Deep.AppendLies
namespace Go.Proofs.Ytnhbaigagphpmaa
open Go.ChangeShapes Go.WideShapes Go.ChangeAt Go.RowKit Go.Joins Go.Deep
set_option linter.unusedVariables false

/-- bytes that are the call's own -/
def OwnB (w : World) (base : Nat) (q : Option Addr) (c : Nat) (ys : List BY) : Prop :=
  ys.length ≤ c ∧ (q = none → c = 0) ∧ (0 < ys.length → ∃ g, q = some ⟨g, 0, none⟩ ∧ base ≤ g ∧ BRow w g ys)
def CloneBPost (ys : List BY) (l : Nat) (w : World) (e : Ending) (w' : World) : Prop :=
  ∃ q c, e = .returned (.slice q l c) ∧ OwnB w' w.heap.size q c ys ∧ Below w.heap.size w w'
theorem ys_cells {w : World} {b off l : Nat} {ys : List BY} (hl : ys.length = l) (h : ∀ i, i < l → ByCells w b (off + i * 5) (ys.getD i default)) : ∀ j u, (flatY ys)[j]? = some u → w.cell? ((⟨b, off, none⟩ : Addr).add j) = some u := by
  intro j u hu
  have hj : j < l * 5 := by
    rcases Nat.lt_or_ge j (l * 5) with h' | h'
    · exact h'
    · rw [List.getElem?_eq_none (by rw [flatY_len, hl]; exact h')] at hu; cases hu
  obtain ⟨i, c, hc, rfl⟩ : ∃ i c, c < 5 ∧ j = i * 5 + c := ⟨j / 5, j % 5, Nat.mod_lt _ (by decide), by omega⟩
  have h1 := flat_get ys i (by omega) c hc
  rw [show flatY ys = ys.flatMap byCells from rfl, h1] at hu
  have h2 := h i (by omega)
  rw [Addr.add_lit, ← Nat.add_assoc]
  have : c = 0 ∨ c = 1 ∨ c = 2 ∨ c = 3 ∨ c = 4 := by omega
  rcases this with rfl | rfl | rfl | rfl | rfl <;> simp [byCells] at hu <;> subst hu
  · exact h2.1
  · exact h2.2.1
  · exact h2.2.2.1
  · exact h2.2.2.2.1
  · exact h2.2.2.2.2
theorem flatY_one (ys : List BY) : ∀ u ∈ flatY ys, u.oneCell' = true := by
  intro u hu
  simp only [flatY, List.mem_flatMap, byCells, List.mem_cons, List.not_mem_nil, or_false] at hu
  obtain ⟨x, _, rfl | rfl | rfl | rfl | rfl⟩ := hu <;> rfl
theorem ownY_own {w : World} {base : Nat} {v : Value} {L : List BY} (h : w.ownsRow base 67 5 v L.length (flatY L)) (hv : ¬ v = .slice none 0 0) : ∃ g cap, v = .slice (some ⟨g, 0, none⟩) L.length cap ∧ base ≤ g ∧ BRow w g L ∧ L.length ≤ cap := by
  obtain ⟨hl, ⟨rfl, hn⟩ | ⟨g, cap, cur, rfl, hb, hg, hn, hm, hc, hx⟩⟩ := h
  · exact absurd rfl hv
  · refine ⟨g, cap, rfl, hb, ⟨cur, hg, ?_, fun i hi c hcc => ?_⟩, hn⟩
    · have := congrArg List.length hx
      rw [List.length_take, flatY_len] at this
      simp at this
      omega
    · have h1 := flat_get L i hi c hcc
      have h2 : (flatY L)[i * 5 + c]? = (byCells (L.getD i default))[c]? := h1
      rw [← hx, List.getElem?_take] at h2
      split at h2
      · simpa using h2
      · rename_i hh
        exact absurd (by omega) hh
theorem nilB_some (ad : Addr) (l c : Nat) (w : World) : (binOp .eql 24 (.slice (some ad) l c) (.slice none 0 0)).run Try.prog w = .ok (.bool false) w := by kernel_rfl
theorem nilB_none (w : World) : (binOp .eql 24 (.slice none 0 0) (.slice none 0 0)).run Try.prog w = .ok (.bool true) w := by kernel_rfl
theorem nilK_some (ad : Addr) (l c : Nat) (w : World) : (binOp .eql 53 (.slice (some ad) l c) (.slice none 0 0)).run Try.prog w = .ok (.bool false) w := by kernel_rfl
theorem nilK_none (w : World) : (binOp .eql 53 (.slice none 0 0) (.slice none 0 0)).run Try.prog w = .ok (.bool true) w := by kernel_rfl
set_option maxRecDepth 100000 in
set_option maxHeartbeats 1600000 in
theorem cloneB_any (q : Option Addr) (l c : Nat) (ys : List BY) (w : World) (h : IsBys w q l ys) (hc : q = none → c = 0) :
    Calls Try.prog 68 #[.slice q l c] w (CloneBPost ys l w) := by
  obtain ⟨hl, hlen, hcc⟩ := h
  cases q with
  | none =>
    obtain rfl := hc rfl
    have h0 : l = 0 := by
      rcases Nat.eq_zero_or_pos l with h0 | h0
      · exact h0
      · obtain ⟨_, _, he, _⟩ := hcc h0; cases he
    subst h0
    have fin : CloneBPost ys 0 w (.returned (.slice none 0 0)) w := ⟨none, 0, rfl, ⟨by omega, fun _ => rfl, fun h => by omega⟩, Below.refl _ _⟩
    have hnil := fun w => nilB_none w
    clear hl hlen hcc hc
    go_enter Try.func68, Try.ntmps68
    go_wp2
    go_ret
    exact fin
  | some ad =>
    have hnews : ∀ j u, (flatY ys)[j]? = some u → w.cell? (ad.add j) = some u := by
      rcases Nat.eq_zero_or_pos l with h0 | h0
      · intro j u hu
        have : ys = [] := List.length_eq_zero_iff.1 (by omega)
        subst this
        simp [flatY] at hu
      · obtain ⟨b, off, he, _, hcells⟩ := hcc h0
        cases he
        exact ys_cells hlen hcells
    have hnews2 := fun j u hu => (World.cell?_alloc_lt w (.cells #[] 67) (ad.add j) (World.block_lt_of_cell? w _ (hnews j u hu))).trans (hnews j u hu)
    have hown0 := ownsRow_lit w w.heap.size 67 5 0 #[] (Nat.le_refl _) rfl (by decide)
    have hfl := flatY_len ys
    rw [hlen] at hfl
    have hone := flatY_one ys
    obtain ⟨j0, gi, gz0, gz1, gz2⟩ := info_parts Try.infoByte
    have HL := Lib.hid hlen
    have HF := Lib.hid hfl
    have HN := Lib.hid hnews2
    have HO := Lib.hid hone
    have hnil := fun w => nilB_some ad l c w
    clear hlen hfl hnews hnews2 hone hcc hc
    go_enter Try.func68, Try.ntmps68
    go_wp2_with (at_builtin; go_must (refine wpList_append_own _ rfl _ _ 24 rfl w.heap.size 67 j0 _ 5 40 Try.underlying24 gi gz0 gz1 gz2 rfl (by decide) _ 0 [] rfl hown0 ad l c (flatY ys) rfl HF.out HN.out HO.out (by unfold maxLen; omega) (by omega) (by simp) ?_))
    intro v3 w4 hown3 hgrow hne
    have hbel : Below w.heap.size w w4 := ((Below.refl _ _).alloc (Nat.le_refl _) _).grown hgrow (by simp) (fun k hk => by simp [Value.ownBlock] at hk; omega)
    have hown4 : w4.ownsRow w.heap.size 67 5 v3 ys.length (flatY ys) := by rw [HL.out]; exact hown3
    obtain ⟨g, cap, rfl, hge, hrow, hcap⟩ := ownY_own hown4 hne
    have fin : CloneBPost ys l w (.returned (.slice (some ⟨g, 0, none⟩) ys.length cap)) w4 := ⟨_, cap, by rw [HL.out], ⟨hcap, (fun h => by cases h), fun _ => ⟨g, rfl, hge, hrow⟩⟩, hbel⟩
    clear hown0 hown3 hown4 hgrow hne gi gz0 gz1 gz2 hrow hcap
    go_wp2_with fail
    go_ret
    exact fin
/-- a block that holds a row of blocks -/
def KRow (w : World) (B : Nat) (m : List BK) : Prop :=
  ∃ cs, At w B cs 97 ∧ m.length * 2 ≤ cs.size ∧ ∀ i, i < m.length → cs[i * 2]? = some (.int .i64 (m.getD i default).st) ∧ cs[i * 2 + 1]? = some (.slice (m.getD i default).q (m.getD i default).ys.length (m.getD i default).c)
theorem KRow.lt {w : World} {B : Nat} {m : List BK} (h : KRow w B m) : B < w.heap.size := by obtain ⟨cs, h, _⟩ := h; exact h.lt
theorem KRow.below {w w' : World} {B C : Nat} {m : List BK} (h : KRow w B m) (hb : Below C w w') (hC : B < C) : KRow w' B m := by
  obtain ⟨cs, h, h1⟩ := h; exact ⟨cs, h.below hb hC, h1⟩
theorem KRow.cells {w : World} {B : Nat} {m : List BK} (h : KRow w B m) (i : Nat) (hi : i < m.length) : w.cell? ⟨B, i * 2, none⟩ = some (.int .i64 (m.getD i default).st) ∧ w.cell? ⟨B, i * 2 + 1, none⟩ = some (.slice (m.getD i default).q (m.getD i default).ys.length (m.getD i default).c) := by
  obtain ⟨cs, h, _, h2⟩ := h
  exact ⟨h.cell _ (h2 i hi).1, h.cell _ (h2 i hi).2⟩
theorem KRow.free {w : World} {B : Nat} {m : List BK} (h : KRow w B m) (i : Nat) : w.frozen? ⟨B, i, none⟩ = false := by obtain ⟨cs, h, _⟩ := h; exact At.free h i
/-- another header for block i -/
theorem KRow.set {w : World} {B : Nat} {m : List BK} (h : KRow w B m) (i : Nat) (hi : i < m.length) (q : Option Addr) (c : Nat) : KRow (w.setCell ⟨B, i * 2 + 1, none⟩ (.slice q (m.getD i default).ys.length c)) B (m.set i ⟨(m.getD i default).st, q, c, (m.getD i default).ys⟩) := by
  obtain ⟨cs, h, h1, h2⟩ := h
  refine ⟨_, At.set h (i * 2 + 1) _ (by omega), by simpa using h1, fun j hj => ?_⟩
  have hj' : j < m.length := by simpa using hj
  have hx := h2 j hj'
  rw [Array.set!_eq_setIfInBounds, Array.getElem?_setIfInBounds, Array.getElem?_setIfInBounds]
  by_cases e : j = i
  · subst e
    have e2 : (m.set j ⟨(m.getD j default).st, q, c, (m.getD j default).ys⟩).getD j default = ⟨(m.getD j default).st, q, c, (m.getD j default).ys⟩ := by simp [List.getD, hj']
    rw [e2, if_neg (by omega), if_pos rfl, if_pos (by omega)]
    exact ⟨hx.1, rfl⟩
  · have e2 : (m.set i ⟨(m.getD i default).st, q, c, (m.getD i default).ys⟩).getD j default = m.getD j default := by
      simp only [List.getD_eq_getElem?_getD]
      rw [List.getElem?_set_ne (by omega)]
    rw [e2, if_neg (by omega), if_neg (by omega)]
    exact hx
def bkL (x : BK) : List Value := [.int .i64 x.st, .slice x.q x.ys.length x.c]
def flatK (m : List BK) : List Value := m.flatMap bkL
theorem flatK_len (m : List BK) : (flatK m).length = m.length * 2 := by
  induction m with
  | nil => rfl
  | cons x r ih => simp only [flatK, List.flatMap_cons, List.length_append, bkL, List.length_cons, List.length_nil] at ih ⊢; omega
theorem flatK_get (m : List BK) : ∀ i, i < m.length → ∀ c, c < 2 → (flatK m)[i * 2 + c]? = (bkL (m.getD i default))[c]? := by
  induction m with
  | nil => intro i h; simp at h
  | cons x r ih =>
    intro i h c hc
    cases i with
    | zero =>
      simp only [flatK, List.flatMap_cons, Nat.zero_mul, Nat.zero_add, List.getD_cons_zero]
      rw [List.getElem?_append_left (by simp [bkL]; omega)]
    | succ i =>
      have := ih i (by simpa using h) c hc
      unfold flatK at this ⊢
      rw [List.flatMap_cons, List.getElem?_append_right (by simp [bkL]; omega), List.getD_cons_succ, ← this]
      congr 1
      simp [bkL]
      omega
theorem flatK_one (m : List BK) : ∀ u ∈ flatK m, u.oneCell' = true := by
  intro u hu
  simp only [flatK, List.mem_flatMap, bkL, List.mem_cons, List.not_mem_nil, or_false] at hu
  obtain ⟨x, _, rfl | rfl⟩ := hu <;> rfl
theorem ownK_own {w : World} {base : Nat} {v : Value} {L : List BK} (h : w.ownsRow base 97 2 v L.length (flatK L)) (hv : ¬ v = .slice none 0 0) : ∃ g cap, v = .slice (some ⟨g, 0, none⟩) L.length cap ∧ base ≤ g ∧ KRow w g L ∧ L.length ≤ cap := by
  obtain ⟨hl, ⟨rfl, hn⟩ | ⟨g, cap, cur, rfl, hb, hg, hn, hm, hc, hx⟩⟩ := h
  · exact absurd rfl hv
  · have hget : ∀ i, i < L.length → ∀ c, c < 2 → cur[i * 2 + c]? = (bkL (L.getD i default))[c]? := fun i hi c hcc => by
      have h1 := flatK_get L i hi c hcc
      rw [← hx, List.getElem?_take] at h1
      split at h1
      · simpa using h1
      · rename_i hh
        exact absurd (by omega) hh
    refine ⟨g, cap, rfl, hb, ⟨cur, hg, ?_, fun i hi => ⟨hget i hi 0 (by decide), hget i hi 1 (by decide)⟩⟩, hn⟩
    have := congrArg List.length hx
    rw [List.length_take, flatK_len] at this
    simp at this
    omega
theorem ms_cells {w : World} {b off l : Nat} {m : List BK} (hl : m.length = l) (h : ∀ i, i < l → BkCells w b (off + i * 2) (m.getD i default)) : ∀ j u, (flatK m)[j]? = some u → w.cell? ((⟨b, off, none⟩ : Addr).add j) = some u := by
  intro j u hu
  have hj : j < l * 2 := by
    rcases Nat.lt_or_ge j (l * 2) with h' | h'
    · exact h'
    · rw [List.getElem?_eq_none (by rw [flatK_len, hl]; exact h')] at hu; cases hu
  obtain ⟨i, c, hc, rfl⟩ : ∃ i c, c < 2 ∧ j = i * 2 + c := ⟨j / 2, j % 2, Nat.mod_lt _ (by decide), by omega⟩
  have h1 := flatK_get m i (by omega) c hc
  rw [h1] at hu
  have h2 := h i (by omega)
  rw [Addr.add_lit, ← Nat.add_assoc]
  have : c = 0 ∨ c = 1 := by omega
  rcases this with rfl | rfl <;> simp [bkL] at hu <;> subst hu
  · exact h2.1
  · exact h2.2.1
theorem Try.infoBlock : (Try.prog.info? 97).map (fun i => (i.zero, i.size, i.bytes)) = some (some (.agg #[.int .i64 0, .slice none 0 0]), 2, 32) := by kernel_rfl
def CloneKPost (m : List BK) (l : Nat) (w : World) (e : Ending) (w' : World) : Prop :=
  ∃ B cap, e = .returned (.slice (some ⟨B, 0, none⟩) l cap) ∧ w.heap.size ≤ B ∧ KRow w' B m ∧ l ≤ cap ∧ Below w.heap.size w w'
set_option maxRecDepth 100000 in
set_option maxHeartbeats 1600000 in
theorem cloneK_any (q : Option Addr) (l c : Nat) (m : List BK) (w : World) (h : IsMem w q l m) (h0 : 0 < l) :
    Calls Try.prog 67 #[.slice q l c] w (CloneKPost m l w) := by
  obtain ⟨hl, hlen, hcc⟩ := h
  obtain ⟨b, off, rfl, _, hcells⟩ := hcc h0
  have hnews := ms_cells hlen hcells
  have hnews2 := fun j u hu => (World.cell?_alloc_lt w (.cells #[] 97) ((⟨b, off, none⟩ : Addr).add j) (World.block_lt_of_cell? w _ (hnews j u hu))).trans (hnews j u hu)
  have hown0 := ownsRow_lit w w.heap.size 97 2 0 #[] (Nat.le_refl _) rfl (by decide)
  have hfl := flatK_len m
  rw [hlen] at hfl
  have hone := flatK_one m
  obtain ⟨j0, gi, gz0, gz1, gz2⟩ := info_parts Try.infoBlock
  have HL := Lib.hid hlen
  have HF := Lib.hid hfl
  have HN := Lib.hid hnews2
  have HO := Lib.hid hone
  have hnil := fun w => nilK_some ⟨b, off, none⟩ l c w
  clear hlen hfl hnews hnews2 hone hcc hcells
  go_enter Try.func67, Try.ntmps67
  go_wp2_with (at_builtin; go_must (refine wpList_append_own _ rfl _ _ 53 rfl w.heap.size 97 j0 _ 2 32 Try.underlying53 gi gz0 gz1 gz2 rfl (by decide) _ 0 [] rfl hown0 ⟨b, off, none⟩ l c (flatK m) rfl HF.out HN.out HO.out (by unfold maxLen; omega) (by omega) (by simp) ?_))
  intro v3 w4 hown3 hgrow hne
  have hbel : Below w.heap.size w w4 := ((Below.refl _ _).alloc (Nat.le_refl _) _).grown hgrow (by simp) (fun k hk => by simp [Value.ownBlock] at hk; omega)
  have hown4 : w4.ownsRow w.heap.size 97 2 v3 m.length (flatK m) := by rw [HL.out]; exact hown3
  obtain ⟨g, cap, rfl, hge, hrow, hcap⟩ := ownK_own hown4 hne
  have fin : CloneKPost m l w (.returned (.slice (some ⟨g, 0, none⟩) m.length cap)) w4 := ⟨g, cap, by rw [HL.out], hge, hrow, by rw [← HL.out]; exact hcap, hbel⟩
  clear hown0 hown3 hown4 hgrow hne gi gz0 gz1 gz2 hrow hcap
  go_wp2_with fail
  go_ret
  exact fin
end Go.Proofs.Ytnhbaigagphpmaa
