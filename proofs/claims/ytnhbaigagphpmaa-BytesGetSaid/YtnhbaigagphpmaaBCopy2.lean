/- Rows of bytes copied, and written over; the bytes of any scalar that may be, and of one that may not. -/
import Derived.Test.YtnhbaigagphpmaaBPutN
import Derived.Test.YtnhbaigagphpmaaBRPut
import Derived.Deep.DeepMust
import Derived.Deep.AppendLies
namespace Go.Proofs.Ytnhbaigagphpmaa
open Go.ChangeShapes Go.WideShapes Go.ChangeAt Go.RowKit Go.Joins Go.Deep
set_option linter.unusedVariables false

theorem mayS_kind {k : Int} {s : SC} (h : mayS k s = true) : 1 ≤ k ∧ k ≤ 7 := by
  unfold mayS at h
  split at h
  · omega
  · simp [mayN] at h; omega
theorem Put_any (big : Bool) (p k : Int) (hp : mayA p) (s : SC) (hm : mayS k s = true) (w : World) :
    Calls Try.prog 39 #[.agg #[.bool big, .int .i64 p], .int .i64 k, scV s] w (PutPost (putL big (sizN p k) s) (sizN p k) w) := by
  by_cases hs : 0 < s.b
  · exact Put_p big p k hp (mayS_kind hm) s hm hs w
  · exact Put_n big p k hp (mayS_kind hm) s hm hs w
theorem mayS_cases {k : Int} {s : SC} (h : mayS k s = true) : (∃ n, s = ⟨false, n, 0, 0⟩) ∨ s = ⟨true, 0, 0, 0⟩ ∨ ∃ b o, 0 < b ∧ s = ⟨true, 0, b, o⟩ := by
  obtain ⟨p, n, b, o⟩ := s
  unfold mayS at h
  split at h
  · by_cases hb : b = 0
    · subst hb
      have : (⟨p, n, 0, o⟩ : SC) = ⟨true, 0, 0, 0⟩ := eqS_iff.1 (by simpa [mayP] using h)
      exact Or.inr (Or.inl this)
    · simp [mayP, hb, upTo] at h
      obtain ⟨⟨⟨rfl, rfl⟩, h1⟩, h2⟩ := h
      exact Or.inr (Or.inr ⟨b, o, by omega, rfl⟩)
  · simp [mayN] at h
    obtain ⟨⟨⟨⟨⟨_, rfl⟩, rfl⟩, rfl⟩, _⟩, _⟩ := h
    exact Or.inl ⟨n, rfl⟩
theorem rPut_any (big : Bool) (p k : Int) (hp : mayA p) (s : SC) (hm : mayS k s = true) (w : World) :
    Calls Try.prog 30 #[.agg #[.bool big, .int .i64 p], .int .i64 k, scV s] w (RowPost (putL big (sizN p k) s) (sizN p k) w) := by
  rcases mayS_cases hm with ⟨n, rfl⟩ | rfl | ⟨b, o, hb, rfl⟩
  · exact rPut_n big p k hp (mayS_kind hm) n w
  · exact rPut_z big p k hp (mayS_kind hm) w
  · exact rPut_p big p k hp (mayS_kind hm) b o hb w
set_option maxHeartbeats 800000 in
theorem Put_no (big : Bool) (p k : Int) (s : SC) (h : ¬ (mayA p ∧ mayS k s = true)) (w : World) :
    Calls Try.prog 39 #[.agg #[.bool big, .int .i64 p], .int .i64 k, scV s] w fun e w' => e = .returned (.tuple #[.slice none 0 0, .int .i64 1]) ∧ Below w.heap.size w w' := by
  by_cases h1 : mayA p ∧ 1 ≤ k ∧ k ≤ 7
  · have hm : mayS k s = false := by
      cases hq : mayS k s
      · rfl
      · exact absurd ⟨h1.1, hq⟩ h
    have cS := fun w => Size_yes big p k h1.1 h1.2 w
    have cI := fun w => isScalar_any k s w
    rw [hm] at cI
    obtain ⟨ps, sn, sb, so⟩ := s
    unfold scV at *
    dsimp only at *
    generalize sizN p k = n at *
    have dS := At.new2 w (.cells #[.bool big, .int .i64 p] 38) #[.bool ps, .int .i64 sn, .int .i64 sb, .int .i64 so] 33
    have hb0 := below_box2 w (.cells #[.bool big, .int .i64 p] 38) (.cells #[.bool ps, .int .i64 sn, .int .i64 sb, .int .i64 so] 33)
    clear hm h h1
    go_enter Try.func39, Try.ntmps39
    go_wp2_with fail
    refine (cS _).mono ?_
    rintro e w1 ⟨rfl, hb1⟩
    replace dS := At.below' hb1 dS
    replace hb0 := hb0.trans (hb1.mono hb0.size)
    clear hb1
    have s0 : w1.cell? ⟨w.heap.size + 1, 0, none⟩ = some (.bool ps) := dS.cell 0 rfl
    have s1 : w1.cell? ⟨w.heap.size + 1, 1, none⟩ = some (.int .i64 sn) := dS.cell 1 rfl
    have s2 : w1.cell? ⟨w.heap.size + 1, 2, none⟩ = some (.int .i64 sb) := dS.cell 2 rfl
    have s3 : w1.cell? ⟨w.heap.size + 1, 3, none⟩ = some (.int .i64 so) := dS.cell 3 rfl
    go_wp2_with fail
    refine (cI _).mono ?_
    rintro e w2 ⟨rfl, hb1⟩
    replace hb0 := hb0.trans (hb1.mono hb0.size)
    clear hb1 s0 s1 s2 s3 dS
    go_wp2_with fail
    go_ret2
    exact ⟨rfl, hb0⟩
  · have cS := fun w => Size_no big p k h1 w
    obtain ⟨ps, sn, sb, so⟩ := s
    unfold scV at *
    dsimp only at *
    have hb0 := below_box2 w (.cells #[.bool big, .int .i64 p] 38) (.cells #[.bool ps, .int .i64 sn, .int .i64 sb, .int .i64 so] 33)
    clear h h1
    go_enter Try.func39, Try.ntmps39
    go_wp2_with fail
    refine (cS _).mono ?_
    rintro e w1 ⟨rfl, hb1⟩
    replace hb0 := hb0.trans (hb1.mono hb0.size)
    clear hb1
    go_wp2_with fail
    go_ret2
    exact ⟨rfl, hb0⟩

/-- a block that holds a row of bytes, with spare room behind it -/
def BRow (w : World) (B : Nat) (xs : List BY) : Prop :=
  ∃ cs, At w B cs 67 ∧ xs.length * 5 ≤ cs.size ∧ ∀ i, i < xs.length → ∀ c, c < 5 → cs[i * 5 + c]? = (byCells (xs.getD i default))[c]?
theorem BRow.of_at {w : World} {B : Nat} {xs : List BY} (h : At w B (byC xs) 67) : BRow w B xs :=
  ⟨_, h, by rw [byC_size]; exact Nat.le_refl _, fun i hi c hc => by simp only [byC, List.getElem?_toArray]; exact flat_get xs i hi c hc⟩
theorem BRow.lt {w : World} {B : Nat} {xs : List BY} (h : BRow w B xs) : B < w.heap.size := by obtain ⟨cs, h, _⟩ := h; exact h.lt
theorem BRow.below {w w' : World} {B C : Nat} {xs : List BY} (h : BRow w B xs) (hb : Below C w w') (hC : B < C) : BRow w' B xs := by
  obtain ⟨cs, h, h1⟩ := h; exact ⟨cs, h.below hb hC, h1⟩
theorem BRow.below' {w w' : World} {B : Nat} {xs : List BY} (hb : Below w.heap.size w w') (h : BRow w B xs) : BRow w' B xs := h.below hb h.lt
theorem BRow.isBys {w : World} {B n : Nat} {xs : List BY} (h : BRow w B xs) (hn : xs.length = n) (hm : n ≤ 1000) : IsBys w (some ⟨B, 0, none⟩) n xs := by
  obtain ⟨cs, h, _, h2⟩ := h
  refine ⟨hm, hn, fun _ => ⟨B, 0, rfl, h.lt, fun i hi => ?_⟩⟩
  simp only [Nat.zero_add]
  have hh := fun c hc => h2 i (by omega) c hc
  exact ⟨h.cell _ (hh 0 (by decide)), h.cell _ (hh 1 (by decide)), h.cell _ (hh 2 (by decide)), h.cell _ (hh 3 (by decide)), h.cell _ (hh 4 (by decide))⟩
theorem set5_get (cs : Array Value) (k : Nat) (hk : k + 4 < cs.size) (x : BY) (m : Nat) : (set5 cs k x)[m]? = if m = k + 4 then some (.int .i64 x.i) else if m = k + 3 then some (.int .i64 x.o) else if m = k + 2 then some (.int .i64 x.b) else if m = k + 1 then some (.int .i64 x.n) else if m = k then some (.int .i64 x.st) else cs[m]? := by
  unfold set5
  simp only [Array.set!_eq_setIfInBounds, Array.getElem?_setIfInBounds, Array.size_setIfInBounds]
  by_cases h4 : m = k + 4
  · subst h4; simp [hk]
  by_cases h3 : m = k + 3
  · subst h3; simp; omega
  by_cases h2 : m = k + 2
  · subst h2; simp; omega
  by_cases h1 : m = k + 1
  · subst h1; simp; omega
  by_cases h0 : m = k
  · subst h0; simp; omega
  simp [h0, h1, h2, h3, h4, Ne.symm h0, Ne.symm h1, Ne.symm h2, Ne.symm h3, Ne.symm h4]
theorem set5_size (cs : Array Value) (k : Nat) (x : BY) : (set5 cs k x).size = cs.size := by simp [set5]
/-- what the walk asks of a byte stored, and what it leaves -/
theorem BRow.store {w : World} {B : Nat} {xs : List BY} (h : BRow w B xs) (i : Nat) (hi : i < xs.length) (x : BY) : ∃ v0 v1 v2 v3 v4,
    ((w.cell? ⟨B, i * 5, none⟩ = some v0 ∧ w.frozen? ⟨B, i * 5, none⟩ = false)
    ∧ ((w.setCell ⟨B, i * 5, none⟩ (.int .i64 x.st)).cell? ⟨B, i * 5 + 1, none⟩ = some v1 ∧ (w.setCell ⟨B, i * 5, none⟩ (.int .i64 x.st)).frozen? ⟨B, i * 5 + 1, none⟩ = false)
    ∧ (((w.setCell ⟨B, i * 5, none⟩ (.int .i64 x.st)).setCell ⟨B, i * 5 + 1, none⟩ (.int .i64 x.n)).cell? ⟨B, i * 5 + 2, none⟩ = some v2 ∧ ((w.setCell ⟨B, i * 5, none⟩ (.int .i64 x.st)).setCell ⟨B, i * 5 + 1, none⟩ (.int .i64 x.n)).frozen? ⟨B, i * 5 + 2, none⟩ = false)
    ∧ ((((w.setCell ⟨B, i * 5, none⟩ (.int .i64 x.st)).setCell ⟨B, i * 5 + 1, none⟩ (.int .i64 x.n)).setCell ⟨B, i * 5 + 2, none⟩ (.int .i64 x.b)).cell? ⟨B, i * 5 + 3, none⟩ = some v3 ∧ (((w.setCell ⟨B, i * 5, none⟩ (.int .i64 x.st)).setCell ⟨B, i * 5 + 1, none⟩ (.int .i64 x.n)).setCell ⟨B, i * 5 + 2, none⟩ (.int .i64 x.b)).frozen? ⟨B, i * 5 + 3, none⟩ = false)
    ∧ (((((w.setCell ⟨B, i * 5, none⟩ (.int .i64 x.st)).setCell ⟨B, i * 5 + 1, none⟩ (.int .i64 x.n)).setCell ⟨B, i * 5 + 2, none⟩ (.int .i64 x.b)).setCell ⟨B, i * 5 + 3, none⟩ (.int .i64 x.o)).cell? ⟨B, i * 5 + 4, none⟩ = some v4 ∧ ((((w.setCell ⟨B, i * 5, none⟩ (.int .i64 x.st)).setCell ⟨B, i * 5 + 1, none⟩ (.int .i64 x.n)).setCell ⟨B, i * 5 + 2, none⟩ (.int .i64 x.b)).setCell ⟨B, i * 5 + 3, none⟩ (.int .i64 x.o)).frozen? ⟨B, i * 5 + 4, none⟩ = false))
    ∧ BRow (((((w.setCell ⟨B, i * 5, none⟩ (.int .i64 x.st)).setCell ⟨B, i * 5 + 1, none⟩ (.int .i64 x.n)).setCell ⟨B, i * 5 + 2, none⟩ (.int .i64 x.b)).setCell ⟨B, i * 5 + 3, none⟩ (.int .i64 x.o)).setCell ⟨B, i * 5 + 4, none⟩ (.int .i64 x.i)) B (xs.set i x) := by
  obtain ⟨cs, h, h1, h2⟩ := h
  have hk : i * 5 + 4 < cs.size := by omega
  refine ⟨_, _, _, _, _, store5 h (i * 5) hk (.int .i64 x.st) (.int .i64 x.n) (.int .i64 x.b) (.int .i64 x.o) (.int .i64 x.i), _, store5_at h (i * 5) hk x, by rw [set5_size]; simpa using h1, fun j hj c hc => ?_⟩
  rw [set5_get cs (i * 5) hk]
  have hj' : j < xs.length := by simpa using hj
  by_cases e : j = i
  · subst e
    have e2 : (xs.set j x).getD j default = x := by simp [List.getD, hj']
    rw [e2]
    have : c = 0 ∨ c = 1 ∨ c = 2 ∨ c = 3 ∨ c = 4 := by omega
    rcases this with rfl | rfl | rfl | rfl | rfl <;> simp [byCells]
  · have e2 : (xs.set i x).getD j default = xs.getD j default := by
      simp only [List.getD_eq_getElem?_getD]
      rw [List.getElem?_set_ne (by omega)]
    rw [e2, if_neg (by omega), if_neg (by omega), if_neg (by omega), if_neg (by omega), if_neg (by omega)]
    exact h2 j hj' c hc
end Go.Proofs.Ytnhbaigagphpmaa

/- Rows of bytes copied, and written over. -/
namespace Go.Proofs.Ytnhbaigagphpmaa
open Go.ChangeShapes Go.WideShapes Go.ChangeAt Go.RowKit Go.Joins Go.Deep
set_option linter.unusedVariables false

def flatY (xs : List BY) : List Value := xs.flatMap byCells
theorem flatY_len (xs : List BY) : (flatY xs).length = xs.length * 5 := by
  have := byC_size xs
  simpa [byC, flatY] using this
theorem flatY_snoc (xs : List BY) (x : BY) : flatY (xs ++ [x]) = flatY xs ++ byCells x := by simp [flatY]
theorem ownY_ge {w : World} {base b : Nat} {e : TypeId} {size : Nat} {v : Value} {n : Nat} {xs : List Value} (h : w.ownsRow base e size v n xs) (hb : v.ownBlock = some b) : base ≤ b := by
  obtain ⟨hl, ⟨rfl, _⟩ | ⟨g, cap, cur, rfl, hbs, hg, h1⟩⟩ := h
  · simp [Value.ownBlock] at hb
  · simp [Value.ownBlock] at hb; omega
theorem ownY_row {w : World} {base : Nat} {v : Value} {L : List BY} (h : w.ownsRow base 67 5 v L.length (flatY L)) (h0 : 0 < L.length) : ∃ g cap, v = .slice (some ⟨g, 0, none⟩) L.length cap ∧ base ≤ g ∧ BRow w g L := by
  obtain ⟨hl, ⟨rfl, hn⟩ | ⟨g, cap, cur, rfl, hb, hg, hn, hm, hc, hx⟩⟩ := h
  · omega
  · refine ⟨g, cap, rfl, hb, cur, hg, ?_, fun i hi c hcc => ?_⟩
    · have := congrArg List.length hx
      rw [List.length_take, flatY_len] at this
      simp at this
      omega
    · have h1 := flat_get L i hi c hcc
      have h2 : (flatY L)[i * 5 + c]? = (byCells (L.getD i default))[c]? := h1
      rw [← hx, List.getElem?_take] at h2
      split at h2
      · simpa using h2
      · rename_i hh
        exact absurd (by omega) hh
def RelCopy (xs : List BY) (len : Nat) (w0 : World) (v3 v4 : Value) (wr : World) : Prop :=
  ∃ j : Nat, j ≤ len ∧ v4 = .int .i64 (j : Nat) ∧ wr.ownsRow w0.heap.size 67 5 v3 j (flatY (xs.take j)) ∧ Below w0.heap.size w0 wr
def CopyPost (xs : List BY) (len : Nat) (w : World) (e : Ending) (w' : World) : Prop :=
  ∃ B cap, e = .returned (.slice (some ⟨B, 0, none⟩) len cap) ∧ w.heap.size ≤ B ∧ BRow w' B xs ∧ Below w.heap.size w w'
set_option maxHeartbeats 1600000 in
theorem CopyBytes_any (p : Option Addr) (len cap : Nat) (xs : List BY) (w : World) (h : IsBys w p len xs) (h0 : 0 < len) :
    Calls Try.prog 8 #[.slice p len cap] w (CopyPost xs len w) := by
  obtain ⟨hl, hlen, hc⟩ := h
  obtain ⟨b, off, rfl, hbb, hcells⟩ := hc h0
  clear hc
  go_enter Try.func8, Try.ntmps8
  go_wp2
  go_loopw [3, 4] (fun v3 v4 wr => RelCopy xs len w v3 v4 wr) (fun _ v4 _ => len - (intOf v4).toNat)
  case atStart => exact ⟨0, by omega, rfl, World.ownsRow_nil _ _ _ _, Below.refl _ _⟩
  case round =>
    obtain ⟨j, hj, rfl, hown, hbr⟩ := hrel
    by_cases hlt : j < len
    · have hcj := (hcells j hlt).below hbr
      have hsn := take_snocD xs j (by omega)
      obtain ⟨x, hx⟩ : ∃ x, x = xs.getD j default := ⟨_, rfl⟩
      rw [← hx] at hcj hsn
      have hj3 : (j : Int) < (len : Int) := by omega
      obtain ⟨s, n, bb, o, i⟩ := x
      obtain ⟨p0, p1, p2, p3, p4⟩ := hcj
      dsimp only at *
      have HS := Lib.hid hsn
      have HL := Lib.hid hlen
      have hown0 := hown.alloc (.cells #[.int .i64 s, .int .i64 n, .int .i64 bb, .int .i64 o, .int .i64 i] 67)
      have hbA := hbr.alloc hbr.size (.cells #[.int .i64 s, .int .i64 n, .int .i64 bb, .int .i64 o, .int .i64 i] 67)
      obtain ⟨i0, hi0, hz0, hz1, hz2⟩ := info_parts Try.infoByte
      clear hsn hx hlen hown
      go_wp2_with ((at_builtin; go_must (refine wpList_append_own _ rfl _ _ 24 rfl w.heap.size 67 i0 _ 5 40 Try.underlying24 hi0 hz0 hz1 hz2 rfl (by decide) _ j (flatY (xs.take j)) rfl hown0 ⟨wr.heap.size, 0, none⟩ 1 1 [.int .i64 s, .int .i64 n, .int .i64 bb, .int .i64 o, .int .i64 i] rfl rfl (World.news_of_block (cs := #[.int .i64 s, .int .i64 n, .int .i64 bb, .int .i64 o, .int .i64 i]) (t := 67) (fr := (0, 0)) (heap_alloc_new wr _)) (by simp [Value.oneCell']) (by unfold maxLen; omega) (by omega) hbA.size ?_)))
      intro v3 w4 hown3 hgrow _
      have hbF := hbA.grown hgrow hbA.size (fun i hi => ownY_ge hown0 hi)
      have hown4 : w4.ownsRow w.heap.size 67 5 v3 (j + 1) (flatY (xs.take (j + 1))) := by rw [HS.out, flatY_snoc]; exact hown3
      clear hown0 hbA hgrow hown3 hi0 hz0 hz1 hz2 p0 p1 p2 p3 p4
      go_wp2_with fail
      go_roundw
      case rel => exact ⟨j + 1, by omega, by go_num, hown4, hbF⟩
      case measure => simp [intOf]; omega
    · obtain rfl : j = len := by omega
      have e : xs.take j = xs := List.take_of_length_le (by omega)
      rw [e] at hown
      have hown2 : wr.ownsRow w.heap.size 67 5 u3 xs.length (flatY xs) := by rw [hlen]; exact hown
      obtain ⟨g, cap2, rfl, hge, hrow⟩ := ownY_row hown2 (by omega)
      have HL := Lib.hid hlen
      have fin : CopyPost xs j w (.returned (.slice (some ⟨g, 0, none⟩) xs.length cap2)) wr := ⟨g, cap2, by rw [hlen], hge, hrow, hbr⟩
      clear hown hown2 e hrow hlen hcells
      go_wp2
      go_ret
      exact fin
theorem CopyBytes_0 (cap : Nat) (p : Option Addr) (w : World) :
    Calls Try.prog 8 #[.slice p 0 cap] w fun e w' => e = .returned (.slice none 0 0) ∧ w = w' := by
  go_enter Try.func8, Try.ntmps8
  go_wp2
  go_loopw [3, 4] (fun v3 v4 wr => v3 = .slice none 0 0 ∧ v4 = .int .i64 0 ∧ w = wr) (fun _ v4 _ => 0)
  case atStart => exact ⟨rfl, rfl, rfl⟩
  case round =>
    obtain ⟨rfl, rfl, rfl⟩ := hrel
    go_wp2
    go_ret
    exact ⟨rfl, rfl⟩
def RelSp (len B : Nat) (w0 : World) (v : Value) (wr : World) : Prop := ∃ (j : Nat) (L : List BY), j ≤ len ∧ v = .int .i64 (j : Nat) ∧ L.length = len ∧ BRow wr B L ∧ Below B w0 wr
set_option maxHeartbeats 1600000 in
theorem spoil_any (B len cap : Nat) (xs : List BY) (w : World) (h : BRow w B xs) (hl : xs.length = len) (hm : len ≤ 1000) :
    Calls Try.prog 50 #[.slice (some ⟨B, 0, none⟩) len cap] w fun e w' => e = .returned (.tuple #[]) ∧ Below B w w' := by
  have HH := Lib.hid h
  have HL := Lib.hid hl
  clear h hl
  go_enter Try.func50, Try.ntmps50
  go_wp2
  go_loopw [2] (fun v wr => RelSp len B w v wr) (fun v _ => len - (intOf v).toNat)
  case atStart => exact ⟨0, xs, by omega, rfl, HL.out, HH.out, Below.refl _ _⟩
  case round =>
    obtain ⟨j, L, hj, rfl, hLl, hrow, hbr⟩ := hrel
    by_cases hlt : j < len
    · have hj3 : (j : Int) < (len : Int) := by omega
      obtain ⟨v0, v1, v2, v3, v4, st, hr2⟩ := hrow.store j (by omega) ⟨-9, 0, 0, 0, 0⟩
      have hb2 := store5_below hbr (Nat.le_refl B) (j * 5) (.int .i64 (-9)) (.int .i64 0) (.int .i64 0) (.int .i64 0) (.int .i64 0)
      have HR := Lib.hid hr2
      have HL2 := Lib.hid hLl
      dsimp only at *
      clear hr2 hLl hrow hbr
      go_wp2
      go_roundw
      case rel => exact ⟨j + 1, _, by omega, by go_num, by rw [List.length_set]; exact HL2.out, HR.out, hb2⟩
      case measure => simp [intOf]; omega
    · clear hLl
      go_wp2
      go_end0
      exact ⟨rfl, hbr⟩
theorem spoil_0 (cap : Nat) (p : Option Addr) (w : World) :
    Calls Try.prog 50 #[.slice p 0 cap] w fun e w' => e = .returned (.tuple #[]) ∧ w = w' := by
  go_enter Try.func50, Try.ntmps50
  go_wp2
  go_loopw [2] (fun v4 wr => v4 = .int .i64 0 ∧ w = wr) (fun v4 _ => 0)
  case atStart => exact ⟨rfl, rfl⟩
  case round =>
    obtain ⟨rfl, rfl⟩ := hrel
    go_wp2
    go_end0
    exact ⟨rfl, rfl⟩
end Go.Proofs.Ytnhbaigagphpmaa
