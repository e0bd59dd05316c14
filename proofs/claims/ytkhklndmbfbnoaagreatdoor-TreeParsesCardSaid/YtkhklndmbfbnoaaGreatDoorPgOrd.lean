/- Nodes in memory, as they are read, held against each other. -/
import Derived.Test.YtkhklndmbfbnoaaGreatDoorTParseC
import Derived.Deep.RegionHeld3
namespace Go.Proofs.YtkhklndmbfbnoaaGreatDoor
open Go.ChangeShapes Go.WideShapes Go.ChangeAt Go.RowKit Go.Joins Go.Deep
set_option linter.unusedVariables false

def IsIns (w : World) (v : Value) (l : List Int) : Prop :=
  ∃ q cap, v = .slice q l.length cap ∧ l.length ≤ maxLen ∧ l.length ≤ cap ∧ (0 < l.length → ∃ g o, q = some ⟨g, o, none⟩ ∧ g < w.heap.size ∧ ∀ i, i < l.length → w.cell? ⟨g, o + i, none⟩ = some (.int .i64 (l.getD i 0)))
theorem IsIns.below {w w' : World} {v : Value} {l : List Int} (h : IsIns w v l) (hb : Below w.heap.size w w') : IsIns w' v l := by
  obtain ⟨q, cap, rfl, hl, hcap, hc⟩ := h
  refine ⟨q, cap, rfl, hl, hcap, fun hp => ?_⟩
  obtain ⟨g, o, rfl, hg, hcell⟩ := hc hp
  exact ⟨g, o, rfl, by have := hb.size; omega, fun i hi => cell_below (hcell i hi) hb⟩
def IsNds (w : World) (v : Value) (X : List NX) : Prop :=
  ∃ q cap, v = .slice q X.length cap ∧ X.length ≤ maxLen ∧ X.length ≤ cap ∧ (0 < X.length → ∃ g, q = some ⟨g, 0, none⟩ ∧ g < w.heap.size ∧ ∀ i x, X[i]? = some x → w.cell? ⟨g, i * 4, none⟩ = some (.int .i64 x.x.op) ∧ w.cell? ⟨g, i * 4 + 1, none⟩ = some (txV x.x.name) ∧ w.cell? ⟨g, i * 4 + 2, none⟩ = some (.int .i64 x.x.n) ∧ w.cell? ⟨g, i * 4 + 3, none⟩ = some (.slice x.q x.x.ps.length x.c) ∧ IsIns w (.slice x.q x.x.ps.length x.c) x.x.ps)
theorem IsNds.below {w w' : World} {v : Value} {X : List NX} (h : IsNds w v X) (hb : Below w.heap.size w w') : IsNds w' v X := by
  obtain ⟨q, cap, rfl, hl, hcap, hc⟩ := h
  refine ⟨q, cap, rfl, hl, hcap, fun hp => ?_⟩
  obtain ⟨g, rfl, hg, hcell⟩ := hc hp
  refine ⟨g, rfl, by have := hb.size; omega, fun i x hx => ?_⟩
  obtain ⟨a0, a1, a2, a3, ai⟩ := hcell i x hx
  exact ⟨cell_below a0 hb, cell_below a1 hb, cell_below a2 hb, cell_below a3 hb, ai.below hb⟩
theorem PsOK.ints {F : Nat → Prop} {w : World} {base : Nat} {x : NX} (h : PsOK F w base x) : IsIns w (.slice x.q x.x.ps.length x.c) x.x.ps := by
  refine ⟨_, _, rfl, ?_, ?_, fun hp => ?_⟩
  · rcases h with ⟨h1, _, h3⟩ | ⟨hc, _⟩
    · rw [h1]; exact Nat.zero_le _
    · exact hc.2
  · rcases h with ⟨h1, _, h3⟩ | ⟨hc, _⟩
    · rw [h1]; exact Nat.zero_le _
    · exact hc.1
  · rcases h with ⟨h1, _, h3⟩ | ⟨hc, b, cs, h1, h2, hf, hA, h4⟩
    · rw [h1] at hp; exact absurd hp (by simp)
    · exact ⟨b, 0, h1, hA.lt, fun i hi => by rw [Nat.zero_add]; exact hA.cell i (h4 i hi)⟩
theorem ndC_get (X : List NX) (i : Nat) (x : NX) (h : X[i]? = some x) : (X.flatMap ndC)[i * 4]? = some (.int .i64 x.x.op) ∧ (X.flatMap ndC)[i * 4 + 1]? = some (txV x.x.name) ∧ (X.flatMap ndC)[i * 4 + 2]? = some (.int .i64 x.x.n) ∧ (X.flatMap ndC)[i * 4 + 3]? = some (.slice x.q x.x.ps.length x.c) := by
  induction X generalizing i with
  | nil => simp at h
  | cons y r ih =>
    cases i with
    | zero =>
      obtain rfl : y = x := by simpa using h
      exact ⟨rfl, rfl, rfl, rfl⟩
    | succ i =>
      have := ih i (by simpa using h)
      rw [show (i + 1) * 4 = i * 4 + 1 + 1 + 1 + 1 by omega]
      exact this
theorem NRow.nds {F : Nat → Prop} {w : World} {base : Nat} {nv : Value} {X : List NX} (h : NRow F w base nv X) : IsNds w nv X := by
  obtain ⟨⟨hlen, ⟨rfl, h0⟩ | ⟨g, cap, cur, rfl, hbb, hg, hn, hm, hc, hx⟩⟩, hP⟩ := h
  · exact ⟨none, 0, by rw [h0], by omega, by omega, fun hp => by omega⟩
  · refine ⟨_, cap, rfl, Nat.le_trans hn hm, hn, fun _ => ⟨g, rfl, ?_, fun i x hxi => ?_⟩⟩
    · rcases Nat.lt_or_ge g w.heap.size with h' | h'
      · exact h'
      · rw [Array.getElem?_eq_none h'] at hg; cases hg
    · have hi : i < X.length := (List.getElem?_eq_some_iff.1 hxi).1
      obtain ⟨c0, c1, c2, c3⟩ := ndC_get X i x hxi
      rw [← hx, List.getElem?_take] at c0 c1 c2 c3
      rw [if_pos (by omega)] at c0 c1 c2 c3
      have hmm := List.mem_of_getElem? hxi
      rw [cell_of_block hg, cell_of_block hg, cell_of_block hg, cell_of_block hg]
      exact ⟨by simpa using c0, by simpa using c1, by simpa using c2, by simpa using c3, (hP x hmm).ints⟩
set_option maxRecDepth 100000 in
set_option maxHeartbeats 800000 in
theorem eqNums_same (v v2 : Value) (l : List Int) (w : World) (h : IsIns w v l) (h2 : IsIns w v2 l) :
    Calls Tryz.prog 64 #[v, v2] w fun e w' => e = .returned (.bool true) ∧ Below w.heap.size w w' := by
  obtain ⟨q, cap, rfl, hl, _, hc⟩ := h
  obtain ⟨q2, cap2, rfl, _, _, hc2⟩ := h2
  obtain ⟨n, hn⟩ : ∃ n, n = l.length := ⟨_, rfl⟩
  rw [← hn] at hc hc2 hl ⊢
  unfold maxLen at hl
  clear hn
  go_enter Tryz.func64, Tryz.ntmps64
  go_wp2
  go_loopw [5] (fun v wr => ∃ i : Nat, i ≤ n ∧ v = .int .i64 (i : Nat) ∧ Below w.heap.size w wr) (fun v _ => n - (intOf v).toNat)
  case atStart => exact ⟨0, Nat.zero_le _, rfl, Below.refl _ _⟩
  case round =>
    obtain ⟨i, hi, rfl, hbr⟩ := hrel
    by_cases hlt : i < n
    · obtain ⟨g, o, rfl, hg, hcell⟩ := hc (by omega)
      obtain ⟨g2, o2, rfl, hg2, hcell2⟩ := hc2 (by omega)
      have c1 := cell_below (hcell i hlt) hbr
      have d1 := cell_below (hcell2 i hlt) hbr
      have hj3 : (i : Int) < (n : Int) := by omega
      generalize l.getD i 0 = x at *
      clear hcell hcell2 hc hc2
      go_wp2
      go_quiet (fail)
      go_wp2
      go_roundw
      case rel => exact ⟨i + 1, by omega, by go_num, hbr.trans (Joins.below_draws _ _ _)⟩
      case measure => simp [intOf]; omega
    · obtain rfl : i = n := by omega
      clear hc hc2
      go_wp2
      go_ret
      exact ⟨rfl, hbr⟩
set_option maxRecDepth 100000 in
set_option maxHeartbeats 800000 in
theorem slEqual_same (v v2 : Value) (l : List Int) (w : World) (h : IsIns w v l) (h2 : IsIns w v2 l) :
    Calls Tryz.prog 92 #[v, v2] w fun e w' => e = .returned (.bool true) ∧ Below w.heap.size w w' := by
  obtain ⟨q, cap, rfl, hl, _, hc⟩ := h
  obtain ⟨q2, cap2, rfl, _, _, hc2⟩ := h2
  obtain ⟨n, hn⟩ : ∃ n, n = l.length := ⟨_, rfl⟩
  rw [← hn] at hc hc2 hl ⊢
  unfold maxLen at hl
  clear hn
  go_enter Tryz.func92, Tryz.ntmps92
  go_wp2
  go_loopw [13] (fun v wr => ∃ i : Nat, i ≤ n ∧ v = .int .i64 (i : Nat) ∧ Below w.heap.size w wr) (fun v _ => n - (intOf v).toNat)
  case atStart => exact ⟨0, Nat.zero_le _, rfl, Below.refl _ _⟩
  case round =>
    obtain ⟨i, hi, rfl, hbr⟩ := hrel
    by_cases hlt : i < n
    · obtain ⟨g, o, rfl, hg, hcell⟩ := hc (by omega)
      obtain ⟨g2, o2, rfl, hg2, hcell2⟩ := hc2 (by omega)
      have c1 := cell_below (hcell i hlt) hbr
      have d1 := cell_below (hcell2 i hlt) hbr
      have hj3 : (i : Int) < (n : Int) := by omega
      generalize l.getD i 0 = x at *
      clear hcell hcell2 hc hc2
      go_wp2
      go_quiet (fail)
      go_wp2
      go_roundw
      case rel => exact ⟨i + 1, by omega, by go_num, hbr.trans (Joins.below_draws _ _ _)⟩
      case measure => simp [intOf]; omega
    · obtain rfl : i = n := by omega
      clear hc hc2
      go_wp2
      go_ret
      exact ⟨rfl, hbr⟩
set_option maxHeartbeats 800000 in
theorem eqNode_same (x y : NX) (hxy : x.x = y.x) (w : World) (h : IsIns w (.slice x.q x.x.ps.length x.c) x.x.ps) (h2 : IsIns w (.slice y.q y.x.ps.length y.c) y.x.ps) :
    Calls Tryz.prog 36 #[ndV x, ndV y] w fun e w' => e = .returned (.bool true) ∧ Below w.heap.size w w' := by
  obtain ⟨⟨op, name, n, ps⟩, q, c⟩ := x
  obtain ⟨⟨op2, name2, n2, ps2⟩, q2, c2⟩ := y
  obtain ⟨rfl, rfl, rfl, rfl⟩ : op = op2 ∧ name = name2 ∧ n = n2 ∧ ps = ps2 := by injection hxy with a b c d; exact ⟨a, b, c, d⟩
  have cE : ∀ w', Below w.heap.size w w' → Calls Tryz.prog 64 #[.slice q ps.length c, .slice q2 ps.length c2] w' fun e w9 => e = .returned (.bool true) ∧ Below w'.heap.size w' w9 := fun w' hb => eqNums_same _ _ ps w' (h.below hb) (h2.below hb)
  have HE := Lib.hid cE
  clear h h2 hxy cE
  unfold ndV
  dsimp only
  go_enter Tryz.func36, Tryz.ntmps36
  have hb0 := (boxT w (.cells #[.int .i64 op, txV name, .int .i64 n, .slice q ps.length c] 83))
  have hb1 := hb0.trans ((boxT (w.alloc (.cells #[.int .i64 op, txV name, .int .i64 n, .slice q ps.length c] 83)) (.cells #[.int .i64 op, txV name, .int .i64 n, .slice q2 ps.length c2] 83)).mono hb0.size)
  go_wp2_with fail
  refine (HE.out _ hb1).mono ?_
  rintro e w1 ⟨rfl, hb2⟩
  go_wp2_with fail
  go_ret
  exact ⟨rfl, hb1.trans (hb2.mono hb1.size)⟩
set_option maxHeartbeats 800000 in
theorem isSame_same (x y : NX) (hxy : x.x = y.x) (w : World) (h : IsIns w (.slice x.q x.x.ps.length x.c) x.x.ps) (h2 : IsIns w (.slice y.q y.x.ps.length y.c) y.x.ps) :
    Calls Tryz.prog 68 #[ndV x, ndV y] w fun e w' => e = .returned (.bool true) ∧ Below w.heap.size w w' := by
  obtain ⟨⟨op, name, n, ps⟩, q, c⟩ := x
  obtain ⟨⟨op2, name2, n2, ps2⟩, q2, c2⟩ := y
  obtain ⟨rfl, rfl, rfl, rfl⟩ : op = op2 ∧ name = name2 ∧ n = n2 ∧ ps = ps2 := by injection hxy with a b c d; exact ⟨a, b, c, d⟩
  have cE : ∀ w', Below w.heap.size w w' → Calls Tryz.prog 92 #[.slice q ps.length c, .slice q2 ps.length c2] w' fun e w9 => e = .returned (.bool true) ∧ Below w'.heap.size w' w9 := fun w' hb => slEqual_same _ _ ps w' (h.below hb) (h2.below hb)
  have HE := Lib.hid cE
  clear h h2 hxy cE
  unfold ndV
  dsimp only
  go_enter Tryz.func68, Tryz.ntmps68
  have hb0 := (boxT w (.cells #[.int .i64 op, txV name, .int .i64 n, .slice q ps.length c] 83))
  have hb1 := hb0.trans ((boxT (w.alloc (.cells #[.int .i64 op, txV name, .int .i64 n, .slice q ps.length c] 83)) (.cells #[.int .i64 op, txV name, .int .i64 n, .slice q2 ps.length c2] 83)).mono hb0.size)
  go_wp2_with fail
  refine (HE.out _ hb1).mono ?_
  rintro e w1 ⟨rfl, hb2⟩
  go_wp2_with fail
  go_ret
  exact ⟨rfl, hb1.trans (hb2.mono hb1.size)⟩
set_option maxRecDepth 100000 in
set_option maxHeartbeats 1600000 in
theorem eqNodes_same (v v2 : Value) (X Y : List NX) (hXY : X.map NX.x = Y.map NX.x) (w : World) (h : IsNds w v X) (h2 : IsNds w v2 Y) :
    Calls Tryz.prog 14 #[v, v2] w fun e w' => e = .returned (.bool true) ∧ Below w.heap.size w w' := by
  obtain ⟨q, cap, rfl, hl, hcap, hc⟩ := h
  obtain ⟨q2, cap2, rfl, hl2, hcap2, hc2⟩ := h2
  obtain ⟨n, hn⟩ : ∃ n, n = X.length := ⟨_, rfl⟩
  have hn2 : Y.length = n := by rw [hn, ← List.length_map (f := NX.x), ← hXY, List.length_map]
  rw [hn2] at hc2 hcap2 ⊢
  rw [← hn] at hc hl hcap ⊢
  have HN := Lib.hid (And.intro hn (And.intro hn2 hXY))
  unfold maxLen at hl
  clear hn hn2 hXY hl2
  go_enter Tryz.func14, Tryz.ntmps14
  go_wp2
  go_loopw [5] (fun v wr => ∃ i : Nat, i ≤ n ∧ v = .int .i64 (i : Nat) ∧ Below w.heap.size w wr) (fun v _ => n - (intOf v).toNat)
  case atStart => exact ⟨0, Nat.zero_le _, rfl, Below.refl _ _⟩
  case round =>
    obtain ⟨i, hi, rfl, hbr⟩ := hrel
    by_cases hlt : i < n
    · obtain ⟨g, rfl, hg, hcell⟩ := hc (by omega)
      obtain ⟨g2, rfl, hg2, hcell2⟩ := hc2 (by omega)
      obtain ⟨x, hx⟩ : ∃ x, X[i]? = some x := ⟨_, List.getElem?_eq_getElem (by rw [← HN.out.1]; exact hlt)⟩
      obtain ⟨y, hy⟩ : ∃ y, Y[i]? = some y := ⟨_, List.getElem?_eq_getElem (by rw [HN.out.2.1]; exact hlt)⟩
      have hxy : x.x = y.x := by
        have h1 : (X.map NX.x)[i]? = some x.x := by rw [List.getElem?_map, hx]; rfl
        have h2 : (Y.map NX.x)[i]? = some y.x := by rw [List.getElem?_map, hy]; rfl
        rw [HN.out.2.2, h2] at h1
        injection h1 with h1
        exact h1.symm
      obtain ⟨a0, a1, a2, a3, ai⟩ := hcell i x hx
      obtain ⟨b0, b1, b2, b3, bi⟩ := hcell2 i y hy
      have ai := ai.below hbr
      have bi := bi.below hbr
      have c0 := cell_below a0 hbr
      have c1 := cell_below a1 hbr
      have c2 := cell_below a2 hbr
      have c3 := cell_below a3 hbr
      have d0 := cell_below b0 hbr
      have d1 := cell_below b1 hbr
      have d2 := cell_below b2 hbr
      have d3 := cell_below b3 hbr
      have hj3 : (i : Int) < (n : Int) := by omega
      have cN : ∀ w', Below wr.heap.size wr w' → Calls Tryz.prog 36 #[ndV x, ndV y] w' fun e w9 => e = .returned (.bool true) ∧ Below w'.heap.size w' w9 := fun w' hb => eqNode_same x y hxy w' (ai.below hb) (bi.below hb)
      have HC := Lib.hid cN
      clear hcell hcell2 hc hc2 a0 a1 a2 a3 ai b0 b1 b2 b3 bi hxy hx hy cN
      unfold ndV at HC
      go_wp2
      go_region_held3 (fun w' => w'.cell? ⟨g, i * 4, none⟩ = some (.int .i64 x.x.op) ∧ w'.cell? ⟨g, i * 4 + 1, none⟩ = some (txV x.x.name) ∧ w'.cell? ⟨g, i * 4 + 2, none⟩ = some (.int .i64 x.x.n) ∧ w'.cell? ⟨g, i * 4 + 3, none⟩ = some (.slice x.q x.x.ps.length x.c) ∧ w'.cell? ⟨g2, i * 4, none⟩ = some (.int .i64 y.x.op) ∧ w'.cell? ⟨g2, i * 4 + 1, none⟩ = some (txV y.x.name) ∧ w'.cell? ⟨g2, i * 4 + 2, none⟩ = some (.int .i64 y.x.n) ∧ w'.cell? ⟨g2, i * 4 + 3, none⟩ = some (.slice y.q y.x.ps.length y.c)) (first | exact ⟨c0, c1, c2, c3, d0, d1, d2, d3⟩ | exact ⟨cell_below c0 hb9, cell_below c1 hb9, cell_below c2 hb9, cell_below c3 hb9, cell_below d0 hb9, cell_below d1 hb9, cell_below d2 hb9, cell_below d3 hb9⟩) (first | (go_at_call 36; refine (HC.out _ ((Below.refl wr.heap.size wr).drew)).mono ?_; rintro e w9 ⟨rfl, hb9d⟩; have hb9 : Below wr.heap.size wr w9 := ((Below.refl wr.heap.size wr).drew).trans hb9d))
      go_wp2
      go_roundw
      case rel => exact ⟨i + 1, by omega, by go_num, hbr.trans (hb9.mono hbr.size)⟩
      case measure => simp [intOf]; omega
    · obtain rfl : i = n := by omega
      clear hc hc2
      go_wp2
      go_ret
      exact ⟨rfl, hbr⟩
set_option maxRecDepth 100000 in
set_option maxHeartbeats 1600000 in
theorem equalFunc_same (v v2 : Value) (X Y : List NX) (hXY : X.map NX.x = Y.map NX.x) (w : World) (h : IsNds w v X) (h2 : IsNds w v2 Y) :
    Calls Tryz.prog 67 #[v, v2, .func (.func 68) #[] #[]] w fun e w' => e = .returned (.bool true) ∧ Below w.heap.size w w' := by
  obtain ⟨q, cap, rfl, hl, hcap, hc⟩ := h
  obtain ⟨q2, cap2, rfl, hl2, hcap2, hc2⟩ := h2
  obtain ⟨n, hn⟩ : ∃ n, n = X.length := ⟨_, rfl⟩
  have hn2 : Y.length = n := by rw [hn, ← List.length_map (f := NX.x), ← hXY, List.length_map]
  rw [hn2] at hc2 hcap2 ⊢
  rw [← hn] at hc hl hcap ⊢
  have HN := Lib.hid (And.intro hn (And.intro hn2 hXY))
  unfold maxLen at hl
  clear hn hn2 hXY hl2
  go_enter Tryz.func67, Tryz.ntmps67
  go_wp2
  go_loopw [17] (fun v wr => ∃ i : Nat, i ≤ n ∧ v = .int .i64 (i : Nat) ∧ Below w.heap.size w wr) (fun v _ => n - (intOf v).toNat)
  case atStart => exact ⟨0, Nat.zero_le _, rfl, Below.refl _ _⟩
  case round =>
    obtain ⟨i, hi, rfl, hbr⟩ := hrel
    by_cases hlt : i < n
    · obtain ⟨g, rfl, hg, hcell⟩ := hc (by omega)
      obtain ⟨g2, rfl, hg2, hcell2⟩ := hc2 (by omega)
      obtain ⟨x, hx⟩ : ∃ x, X[i]? = some x := ⟨_, List.getElem?_eq_getElem (by rw [← HN.out.1]; exact hlt)⟩
      obtain ⟨y, hy⟩ : ∃ y, Y[i]? = some y := ⟨_, List.getElem?_eq_getElem (by rw [HN.out.2.1]; exact hlt)⟩
      have hxy : x.x = y.x := by
        have h1 : (X.map NX.x)[i]? = some x.x := by rw [List.getElem?_map, hx]; rfl
        have h2 : (Y.map NX.x)[i]? = some y.x := by rw [List.getElem?_map, hy]; rfl
        rw [HN.out.2.2, h2] at h1
        injection h1 with h1
        exact h1.symm
      obtain ⟨a0, a1, a2, a3, ai⟩ := hcell i x hx
      obtain ⟨b0, b1, b2, b3, bi⟩ := hcell2 i y hy
      have ai := ai.below hbr
      have bi := bi.below hbr
      have c0 := cell_below a0 hbr
      have c1 := cell_below a1 hbr
      have c2 := cell_below a2 hbr
      have c3 := cell_below a3 hbr
      have d0 := cell_below b0 hbr
      have d1 := cell_below b1 hbr
      have d2 := cell_below b2 hbr
      have d3 := cell_below b3 hbr
      have hj3 : (i : Int) < (n : Int) := by omega
      have cN : ∀ w', Below wr.heap.size wr w' → Calls Tryz.prog 68 #[ndV x, ndV y] w' fun e w9 => e = .returned (.bool true) ∧ Below w'.heap.size w' w9 := fun w' hb => isSame_same x y hxy w' (ai.below hb) (bi.below hb)
      have HC := Lib.hid cN
      clear hcell hcell2 hc hc2 a0 a1 a2 a3 ai b0 b1 b2 b3 bi hxy hx hy cN
      unfold ndV at HC
      have hbx : Below wr.heap.size wr ((wr.alloc (.cells #[.int .i64 x.x.op, txV x.x.name, .int .i64 x.x.n, .slice x.q x.x.ps.length x.c] 83)).alloc (.cells #[.int .i64 y.x.op, txV y.x.name, .int .i64 y.x.n, .slice y.q y.x.ps.length y.c] 83)) := (boxT wr _).trans ((boxT _ _).mono (boxT wr (.cells #[.int .i64 x.x.op, txV x.x.name, .int .i64 x.x.n, .slice x.q x.x.ps.length x.c] 83)).size)
      have f0 := cell_below d0 (boxT wr (.cells #[.int .i64 x.x.op, txV x.x.name, .int .i64 x.x.n, .slice x.q x.x.ps.length x.c] 83))
      have f1 := cell_below d1 (boxT wr (.cells #[.int .i64 x.x.op, txV x.x.name, .int .i64 x.x.n, .slice x.q x.x.ps.length x.c] 83))
      have f2 := cell_below d2 (boxT wr (.cells #[.int .i64 x.x.op, txV x.x.name, .int .i64 x.x.n, .slice x.q x.x.ps.length x.c] 83))
      have f3 := cell_below d3 (boxT wr (.cells #[.int .i64 x.x.op, txV x.x.name, .int .i64 x.x.n, .slice x.q x.x.ps.length x.c] 83))
      go_wp2_with fail
      refine (HC.out _ hbx).mono ?_
      rintro e w9 ⟨rfl, hb9d⟩
      have hb9 : Below wr.heap.size wr w9 := hbx.trans (hb9d.mono hbx.size)
      go_wp2_with fail
      go_roundw
      case rel => exact ⟨i + 1, by omega, by go_num, hbr.trans (hb9.mono hbr.size)⟩
      case measure => simp [intOf]; omega
    · obtain rfl : i = n := by omega
      clear hc hc2
      go_wp2
      go_ret
      exact ⟨rfl, hbr⟩
end Go.Proofs.YtkhklndmbfbnoaaGreatDoor

/- Package tree, page: nodes that are in order. -/
namespace Go.Proofs.YtkhklndmbfbnoaaGreatDoor
open Go.ChangeShapes Go.WideShapes Go.ChangeAt Go.RowKit Go.Joins Go.Deep
set_option linter.unusedVariables false

/-- what is no part yet, behind each node -/
def OrdS (X : List NX) (S : Nat → List Int) : Prop := S 0 = [] ∧ (∀ i x, X[i]? = some x → ∃ r, S i = r ++ x.x.ps ∧ S (i + 1) = r ++ [((i : Nat) : Int)]) ∧ (S X.length).length = 1
theorem ownsRow_take {w : World} {base e b m cap rho : Nat} {xs ys : List Value} (h : w.ownsRow base e 1 (.slice (some ⟨b, 0, none⟩) m cap) m (xs ++ ys)) (hr : xs.length = rho) (hm : rho ≤ m) : w.ownsRow base e 1 (.slice (some ⟨b, 0, none⟩) rho cap) rho xs := by
  obtain ⟨hl, ⟨h0, _⟩ | ⟨k, cap', cur, he, hbb, hg, hn, hmm, hc, hx⟩⟩ := h
  · cases h0
  · cases he
    refine ⟨by rw [hr, Nat.mul_one], Or.inr ⟨b, cap, cur, rfl, hbb, hg, by omega, by omega, hc, ?_⟩⟩
    have : (cur.toList.take (m * 1)).take rho = (xs ++ ys).take rho := by rw [hx]
    rw [List.take_take, List.take_append_of_le_length (by omega)] at this
    rw [Nat.mul_one] at this ⊢
    rw [show min rho m = rho by omega] at this
    rw [this, ← hr, List.take_length]
def RelOrd (S : Nat → List Int) (n : Nat) (w : World) (v v3 : Value) (wr : World) : Prop := ∃ (i : Nat) (V3 : Value), i ≤ n ∧ v = .int .i64 (i : Nat) ∧ v3 = V3 ∧ wr.ownsRow w.heap.size 3 1 V3 (S i).length (ints (S i)) ∧ Below w.heap.size w wr ∧ (S i).length ≤ i
set_option maxRecDepth 100000 in
set_option maxHeartbeats 1600000 in
theorem inOrder_yes (v : Value) (X : List NX) (S : Nat → List Int) (hS : OrdS X S) (hX3 : X.length ≤ 1000) (w : World) (h : IsNds w v X) :
    Calls Tryz.prog 66 #[v] w fun e w' => e = .returned (.bool true) ∧ Below w.heap.size w w' := by
  obtain ⟨q, cap, rfl, hl, hcap, hc⟩ := h
  obtain ⟨n, hn⟩ : ∃ n, n = X.length := ⟨_, rfl⟩
  have hS3 := hS.2.2
  rw [← hn] at hc hcap hS3 hX3 ⊢
  replace hl := hX3
  have HN := Lib.hid (And.intro hn hS)
  have hS0 := hS.1
  clear hn hS
  go_enter Tryz.func66, Tryz.ntmps66
  go_wp2
  go_loopw [9, 3] (fun v v3 wr => RelOrd S n w v v3 wr) (fun v _ _ => n - (intOf v).toNat)
  case atStart => exact ⟨0, _, Nat.zero_le _, rfl, rfl, by rw [hS0]; exact ⟨rfl, Or.inl ⟨rfl, rfl⟩⟩, Below.refl _ _, by rw [hS0]; exact Nat.zero_le _⟩
  case round =>
    obtain ⟨i, V3, hi, rfl, rfl, hown, hbr, hli⟩ := hrel
    by_cases hlt : i < n
    · obtain ⟨g, rfl, hg, hcell⟩ := hc (by omega)
      obtain ⟨x, hx⟩ : ∃ x, X[i]? = some x := ⟨_, List.getElem?_eq_getElem (by rw [← HN.out.1]; exact hlt)⟩
      obtain ⟨r, hr1, hr2⟩ := HN.out.2.2.1 i x hx
      obtain ⟨a0, a1, a2, a3, ai⟩ := hcell i x hx
      have ai := ai.below hbr
      have c0 := cell_below a0 hbr
      have c1 := cell_below a1 hbr
      have c2 := cell_below a2 hbr
      have c3 := cell_below a3 hbr
      have hj3 : (i : Int) < (n : Int) := by omega
      obtain ⟨k, hk⟩ : ∃ k, k = x.x.ps.length := ⟨_, rfl⟩
      obtain ⟨rho, hrho⟩ : ∃ rho, rho = r.length := ⟨_, rfl⟩
      obtain ⟨m, hm⟩ : ∃ m, m = (S i).length := ⟨_, rfl⟩
      have hmk : m = rho + k := by rw [hm, hr1, List.length_append, ← hrho, ← hk]
      have HR := Lib.hid (And.intro hr1 hr2)
      have HRL := Lib.hid hrho
      have HRI : Hid (r.length ≤ i) := Lib.hid (by omega)
      rw [← hm, hr1] at hown
      rw [show ints (r ++ x.x.ps) = ints r ++ ints x.x.ps from by simp [ints]] at hown
      have e1 : IntKind.i64.wrap ((m : Int) - (k : Int)) = (rho : Int) := by rw [IntKind.wrap_i64]; omega
      have e2 : ¬ (rho : Int) < 0 := by omega
      have e3 : decide ((rho : Int) < 0) = false := decide_eq_false e2
      have e4 : (0 : Int) ≤ (rho : Int) := by omega
      have e5 : (rho : Int) ≤ (m : Int) := by omega
      have e6 : m - rho = k := by omega
      have hm1 : rho + 1 ≤ maxLen := by unfold maxLen; omega
      have hm2 : (rho + 1) * 8 ≤ 140737488355328 := by omega
      rw [← hk] at c3 ai
      have hbx := boxT wr (.cells #[.int .i64 x.x.op, txV x.x.name, .int .i64 x.x.n, .slice x.q x.x.ps.length x.c] 83)
      have hPi := ai.below hbx
      clear hcell hc a0 a1 a2 a3 ai hr1 hr2 hx
      have HB1 := Lib.hid hbx
      obtain ⟨w1, hw1⟩ : ∃ w1, wr.alloc (.cells #[.int .i64 x.x.op, txV x.x.name, .int .i64 x.x.n, .slice x.q x.x.ps.length x.c] 83) = w1 := ⟨_, rfl⟩
      rw [hw1] at HB1 hPi hbx
      rw [← hk] at hw1
      obtain ⟨hlm, ⟨rfl, hm0⟩ | ⟨b, cap3, cur, rfl, hbb, hgb, hnb, hmb, hcb, hxb⟩⟩ := id hown
      · obtain ⟨rfl, rfl, rfl⟩ : m = 0 ∧ rho = 0 ∧ k = 0 := by omega
        have hps : x.x.ps = [] := List.eq_nil_of_length_eq_zero hk.symm
        have hrn : r = [] := List.eq_nil_of_length_eq_zero hrho.symm
        have hAi : IsIns w1 (.slice none 0 0) x.x.ps := by rw [hps]; exact ⟨none, 0, rfl, by simp, by simp, fun h => absurd h (by simp)⟩
        have hown4 : wr.ownsRow w.heap.size 3 1 (.slice none 0 0) 0 (ints r) := by rw [hrn]; exact ⟨rfl, Or.inl ⟨rfl, rfl⟩⟩
        have HOW4 := Lib.hid hown4
        clear hown hlm hbx hrn hps hown4 e6
        have cE : ∀ w', Below w1.heap.size w1 w' → Calls Tryz.prog 92 #[.slice none 0 0, .slice x.q 0 x.c] w' fun e w9 => e = .returned (.bool true) ∧ Below w'.heap.size w' w9 := fun w' hb => slEqual_same _ _ x.x.ps w' (hAi.below hb) (hPi.below hb)
        have HE := Lib.hid cE
        have HA := Lib.hid (And.intro hAi hPi)
        have bx3 : w1.cell? ⟨wr.heap.size, 3, none⟩ = some (.slice x.q 0 x.c) := by rw [← hw1]; exact (At.new wr _ _).cell 3 rfl
        have HLI := Lib.hid (And.intro hli (And.intro hm (And.intro hk hrho)))
        clear hAi hPi cE hm hmk hk hrho hli hS0 hS3
        go_wp2_with fail
        try rw [hw1]
        go_region_held3 (fun w' => w'.cell? ⟨wr.heap.size, 3, none⟩ = some (.slice x.q 0 x.c)) (first | exact bx3 | exact cell_below bx3 hb9) (first | (go_at_call 92; refine (HE.out _ ((Below.refl w1.heap.size w1).drew)).mono ?_; rintro e w9 ⟨rfl, hb9d⟩; have hb9 : Below w1.heap.size w1 w9 := ((Below.refl w1.heap.size w1).drew).trans hb9d))
        have hbw : Below wr.heap.size wr w9 := HB1.out.trans (hb9.mono HB1.out.size)
        have hown9 := ownsRow_belowT HOW4.out hbw
        obtain ⟨i0, hi0, hz0, hz1, hz2⟩ := info_parts Tryz.infoInt
        have hownP := ownsRow_belowT hown9 (boxT w9 (.cells #[.int .i64 (i : Nat)] 3))
        have hszw : w.heap.size ≤ w9.heap.size := by have := hbr.size; have := hbw.size; omega
        have hszP : w.heap.size ≤ (w9.alloc (.cells #[.int .i64 (i : Nat)] 3)).heap.size := by show _ ≤ (w9.heap.push _).size; simp; omega
        go_wp2_with (at_builtin; refine wpList_append_lies _ rfl _ _ 23 rfl w.heap.size 3 i0 _ 1 8 Tryz.underlying23 hi0 hz0 hz1 hz2 rfl (by decide) (.slice none 0 0) 0 (ints r) rfl hownP ⟨w9.heap.size, 0, none⟩ 1 1 [.int .i64 (i : Nat)] rfl rfl (World.news_of_block (cs := #[.int .i64 (i : Nat)]) (t := 3) (fr := (0, 0)) (heap_alloc_new w9 _)) (by simp [Value.oneCell']) (by omega) hm1 hm2 hszP _ rfl ?_; intro k2 cap2 w8 hown3 hgrow hat hlt3)
        have hb8 : Below w.heap.size w w8 := (((hbr.trans (hbw.mono hbr.size)).trans ((boxT w9 (.cells #[.int .i64 (i : Nat)] 3)).mono hszw))).grown hgrow (Nat.le_trans (Nat.le_refl _) (((hbr.trans (hbw.mono hbr.size)).trans ((boxT w9 (.cells #[.int .i64 (i : Nat)] 3)).mono hszw))).size) (fun j hj => own_geT hownP hj)
        have HO3 := Lib.hid hown3
        have HB8 := Lib.hid hb8
        clear hown3 hgrow hat hlt3 hownP hszP hi0 hz0 hz1 hz2 hown9 hb8
        go_wp2_with fail
        go_roundw
        case rel => exact ⟨i + 1, _, by omega, by go_num, rfl, by rw [HR.out.2, List.length_append, ← HRL.out, ← ints_push]; exact HO3.out, HB8.out, by rw [HR.out.2, List.length_append]; have := HRI.out; show _ + 1 ≤ _; omega⟩
        case measure => simp [intOf]; omega

      · have hb0 : b < wr.heap.size := by
          rcases Nat.lt_or_ge b wr.heap.size with h' | h'
          · exact h'
          · rw [Array.getElem?_eq_none h'] at hgb; cases hgb
        have hown4 : wr.ownsRow w.heap.size 3 1 (.slice (some ⟨b, 0, none⟩) rho cap3) rho (ints r) := ownsRow_take hown (by simp [ints, hrho]) (by omega)
        have HOW4 := Lib.hid hown4
        have e7 : (m : Int) ≤ (cap3 : Int) := by omega
        by_cases hcr : cap3 = rho
        · obtain rfl : rho = cap3 := hcr.symm
          obtain rfl : rho = m := by omega
          obtain rfl : k = 0 := by omega
          have hps : x.x.ps = [] := List.eq_nil_of_length_eq_zero hk.symm
          have hAi : IsIns w1 (.slice (some ⟨b, 0, none⟩) 0 0) x.x.ps := by rw [hps]; exact ⟨_, 0, rfl, by simp, by simp, fun h => absurd h (by simp)⟩
          clear hown hlm hbx hown4 hgb hcb hxb hps
          have cE : ∀ w', Below w1.heap.size w1 w' → Calls Tryz.prog 92 #[.slice (some ⟨b, 0, none⟩) 0 0, .slice x.q 0 x.c] w' fun e w9 => e = .returned (.bool true) ∧ Below w'.heap.size w' w9 := fun w' hb => slEqual_same _ _ x.x.ps w' (hAi.below hb) (hPi.below hb)
          have HE := Lib.hid cE
          have HA := Lib.hid (And.intro hAi hPi)
          have bx3 : w1.cell? ⟨wr.heap.size, 3, none⟩ = some (.slice x.q 0 x.c) := by rw [← hw1]; exact (At.new wr _ _).cell 3 rfl
          have HLI := Lib.hid (And.intro hli (And.intro hm (And.intro hk hrho)))
          clear hAi hPi cE hm hmk hk hrho hli hS0 hS3
          go_wp2_with fail
          try rw [hw1]
          go_region_held3 (fun w' => w'.cell? ⟨wr.heap.size, 3, none⟩ = some (.slice x.q 0 x.c)) (first | exact bx3 | exact cell_below bx3 hb9) (first | (go_at_call 92; refine (HE.out _ ((Below.refl w1.heap.size w1).drew)).mono ?_; rintro e w9 ⟨rfl, hb9d⟩; have hb9 : Below w1.heap.size w1 w9 := ((Below.refl w1.heap.size w1).drew).trans hb9d))
          have hbw : Below wr.heap.size wr w9 := HB1.out.trans (hb9.mono HB1.out.size)
          have hown9 := ownsRow_belowT HOW4.out hbw
          obtain ⟨i0, hi0, hz0, hz1, hz2⟩ := info_parts Tryz.infoInt
          have hownP := ownsRow_belowT hown9 (boxT w9 (.cells #[.int .i64 (i : Nat)] 3))
          have hszw : w.heap.size ≤ w9.heap.size := by have := hbr.size; have := hbw.size; omega
          have hszP : w.heap.size ≤ (w9.alloc (.cells #[.int .i64 (i : Nat)] 3)).heap.size := by show _ ≤ (w9.heap.push _).size; simp; omega
          go_wp2_with (at_builtin; refine wpList_append_lies _ rfl _ _ 23 rfl w.heap.size 3 i0 _ 1 8 Tryz.underlying23 hi0 hz0 hz1 hz2 rfl (by decide) (.slice (some ⟨b, 0, none⟩) rho rho) rho (ints r) rfl hownP ⟨w9.heap.size, 0, none⟩ 1 1 [.int .i64 (i : Nat)] rfl rfl (World.news_of_block (cs := #[.int .i64 (i : Nat)]) (t := 3) (fr := (0, 0)) (heap_alloc_new w9 _)) (by simp [Value.oneCell']) (by omega) hm1 hm2 hszP _ rfl ?_; intro k2 cap2 w8 hown3 hgrow hat hlt3)
          have hb8 : Below w.heap.size w w8 := (((hbr.trans (hbw.mono hbr.size)).trans ((boxT w9 (.cells #[.int .i64 (i : Nat)] 3)).mono hszw))).grown hgrow (Nat.le_trans (Nat.le_refl _) (((hbr.trans (hbw.mono hbr.size)).trans ((boxT w9 (.cells #[.int .i64 (i : Nat)] 3)).mono hszw))).size) (fun j hj => own_geT hownP hj)
          have HO3 := Lib.hid hown3
          have HB8 := Lib.hid hb8
          clear hown3 hgrow hat hlt3 hownP hszP hi0 hz0 hz1 hz2 hown9 hb8
          go_wp2_with fail
          go_roundw
          case rel => exact ⟨i + 1, _, by omega, by go_num, rfl, by rw [HR.out.2, List.length_append, ← HRL.out, ← ints_push]; exact HO3.out, HB8.out, by rw [HR.out.2, List.length_append]; have := HRI.out; show _ + 1 ≤ _; omega⟩
          case measure => simp [intOf]; omega

        · have hAi : IsIns w1 (.slice (some ⟨b, rho, none⟩) k (cap3 - rho)) x.x.ps := by
            rw [hk]
            refine ⟨_, _, rfl, by omega, by omega, fun hp => ⟨b, rho, rfl, by have := hbx.size; omega, fun j hj => ?_⟩⟩
            refine cell_below ?_ hbx
            rw [cell_of_block hgb]
            have h9 : (cur.toList.take (m * 1))[rho + j]? = (ints r ++ ints x.x.ps)[rho + j]? := by rw [hxb]
            rw [Nat.mul_one, List.getElem?_take, if_pos (by omega), List.getElem?_append_right (by simp [ints]; omega)] at h9
            rw [show rho + j - (ints r).length = j by simp [ints]; omega] at h9
            rw [show (ints x.x.ps)[j]? = some (.int .i64 (x.x.ps.getD j 0)) by simp [ints, List.getD_eq_getElem?_getD, List.getElem?_eq_getElem hj]] at h9
            simpa using h9
          clear hown hlm hbx hown4 hgb hcb hxb
          have cE : ∀ w', Below w1.heap.size w1 w' → Calls Tryz.prog 92 #[.slice (some ⟨b, rho, none⟩) k (cap3 - rho), .slice x.q k x.c] w' fun e w9 => e = .returned (.bool true) ∧ Below w'.heap.size w' w9 := fun w' hb => slEqual_same _ _ x.x.ps w' (hAi.below hb) (hPi.below hb)
          have HE := Lib.hid cE
          have HA := Lib.hid (And.intro hAi hPi)
          have bx3 : w1.cell? ⟨wr.heap.size, 3, none⟩ = some (.slice x.q k x.c) := by rw [← hw1]; exact (At.new wr _ _).cell 3 rfl
          have HLI := Lib.hid (And.intro hli (And.intro hm (And.intro hk hrho)))
          clear hAi hPi cE hm hmk hk hrho hli hS0 hS3
          go_wp2_with fail
          try rw [hw1]
          go_region_held3 (fun w' => w'.cell? ⟨wr.heap.size, 3, none⟩ = some (.slice x.q k x.c)) (first | exact bx3 | exact cell_below bx3 hb9) (first | (go_at_call 92; refine (HE.out _ ((Below.refl w1.heap.size w1).drew)).mono ?_; rintro e w9 ⟨rfl, hb9d⟩; have hb9 : Below w1.heap.size w1 w9 := ((Below.refl w1.heap.size w1).drew).trans hb9d))
          have hbw : Below wr.heap.size wr w9 := HB1.out.trans (hb9.mono HB1.out.size)
          have hown9 := ownsRow_belowT HOW4.out hbw
          obtain ⟨i0, hi0, hz0, hz1, hz2⟩ := info_parts Tryz.infoInt
          have hownP := ownsRow_belowT hown9 (boxT w9 (.cells #[.int .i64 (i : Nat)] 3))
          have hszw : w.heap.size ≤ w9.heap.size := by have := hbr.size; have := hbw.size; omega
          have hszP : w.heap.size ≤ (w9.alloc (.cells #[.int .i64 (i : Nat)] 3)).heap.size := by show _ ≤ (w9.heap.push _).size; simp; omega
          go_wp2_with (at_builtin; refine wpList_append_lies _ rfl _ _ 23 rfl w.heap.size 3 i0 _ 1 8 Tryz.underlying23 hi0 hz0 hz1 hz2 rfl (by decide) (.slice (some ⟨b, 0, none⟩) rho cap3) rho (ints r) rfl hownP ⟨w9.heap.size, 0, none⟩ 1 1 [.int .i64 (i : Nat)] rfl rfl (World.news_of_block (cs := #[.int .i64 (i : Nat)]) (t := 3) (fr := (0, 0)) (heap_alloc_new w9 _)) (by simp [Value.oneCell']) (by omega) hm1 hm2 hszP _ rfl ?_; intro k2 cap2 w8 hown3 hgrow hat hlt3)
          have hb8 : Below w.heap.size w w8 := (((hbr.trans (hbw.mono hbr.size)).trans ((boxT w9 (.cells #[.int .i64 (i : Nat)] 3)).mono hszw))).grown hgrow (Nat.le_trans (Nat.le_refl _) (((hbr.trans (hbw.mono hbr.size)).trans ((boxT w9 (.cells #[.int .i64 (i : Nat)] 3)).mono hszw))).size) (fun j hj => own_geT hownP hj)
          have HO3 := Lib.hid hown3
          have HB8 := Lib.hid hb8
          clear hown3 hgrow hat hlt3 hownP hszP hi0 hz0 hz1 hz2 hown9 hb8
          go_wp2_with fail
          go_roundw
          case rel => exact ⟨i + 1, _, by omega, by go_num, rfl, by rw [HR.out.2, List.length_append, ← HRL.out, ← ints_push]; exact HO3.out, HB8.out, by rw [HR.out.2, List.length_append]; have := HRI.out; show _ + 1 ≤ _; omega⟩
          case measure => simp [intOf]; omega

    · obtain rfl : i = n := by omega
      have e1 : (((S i).length : Nat) : Int) == 1 := by rw [hS3]; rfl
      obtain ⟨hlm, ⟨rfl, hm0⟩ | ⟨b, cap3, cur, rfl, _⟩⟩ := id hown
      · omega
      · clear hc hown
        rw [hS3]
        go_wp2
        go_ret
        exact ⟨rfl, hbr⟩
end Go.Proofs.YtkhklndmbfbnoaaGreatDoor
