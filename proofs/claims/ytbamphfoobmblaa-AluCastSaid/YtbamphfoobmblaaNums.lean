/- What the laws of layer 2 play over: scripts that are not too heavy, and numbers of a kind. -/
import Derived.Test.YtbamphfoobmblaaCalls
namespace Go.Proofs.Ytbamphfoobmblaa
open Go.ChangeShapes Go.WideShapes Go.ChangeAt Go.RowKit Go.Joins Go.Deep
set_option linter.unusedVariables false

theorem Try.infoInt : (Try.prog.info? 3).map (fun i => (i.zero, i.size, i.bytes)) = some (some (.int .i64 0), 1, 8) := by kernel_rfl
def SomeInt (w : World) (e : Ending) (w' : World) : Prop := ∃ n : Int, e = .returned (.int .i64 n) ∧ w = w'
set_option maxHeartbeats 400000 in
theorem texts_any (p : Option Addr) (len cap : Nat) (ss : List ByteArray) (w : World) (h : IsStrs w p len ss) : Calls Try.prog 37 #[.slice p len cap] w (SomeInt w) := by
  obtain ⟨hm, hz, hsz, hp⟩ := h
  unfold maxLen at hm
  go_enter Try.func37, Try.ntmps37
  go_wp2
  go_loop [3, 4] (fun n i => ∃ (k : Nat) (m : Int), k ≤ len ∧ i = .int .i64 k ∧ n = .int .i64 m) (fun _ i => len - (intOf i).toNat)
  case atStart => exact ⟨0, _, Nat.zero_le _, rfl, rfl⟩
  case round =>
    obtain ⟨k, m, hk, rfl, rfl⟩ := hrel
    by_cases hlt : k < len
    · obtain ⟨b, off, rfl, hb, hc⟩ := hp (by omega)
      have hcell := hc k hlt
      clear hc hp
      go_wp2
      · go_round
        case rel => exact ⟨k + 1, _, by omega, by go_num, rfl⟩
        case measure => simp [intOf]; omega
      · go_ret
        exact ⟨_, rfl, rfl⟩
    · go_wp2
      go_ret
      exact ⟨_, rfl, rfl⟩
def HeavyOut (w : World) (ln la : Nat) (n s a : Value) (e : Ending) (w' : World) : Prop := ∃ b : Bool, e = .returned (.bool b) ∧ (b = false → ln + la ≤ 100) ∧ w.alloc (.cells #[n, s, a] 26) = w'
set_option maxHeartbeats 400000 in
theorem heavy_out (pn : Option Addr) (ln cn : Nat) (ps : Option Addr) (ls cs : Nat) (ss : List ByteArray) (pa : Option Addr) (la ca : Nat) (w : World) (h : IsStrs w ps ls ss) (h1 : ln ≤ 17592186044416) (h2 : la ≤ 17592186044416) :
    Calls Try.prog 23 #[.agg #[.slice pn ln cn, .slice ps ls cs, .slice pa la ca]] w (HeavyOut w ln la (.slice pn ln cn) (.slice ps ls cs) (.slice pa la ca)) := by
  have hs := h.below (below_alloc1 w (.cells #[.slice pn ln cn, .slice ps ls cs, .slice pa la ca] 26))
  by_cases hg : (100 : Int) < ↑ln + ↑la
  · go_enter Try.func23, Try.ntmps23
    go_wp2
    go_ret
    exact ⟨_, rfl, (fun h => by cases h), rfl⟩
  · have hd : decide ((100 : Int) < ↑ln + ↑la) = false := by simpa using hg
    go_enter Try.func23, Try.ntmps23
    go_wp2_with (go_at_call 37; refine (texts_any _ _ _ ss _ hs).mono ?_; rintro e w' ⟨n, rfl, rfl⟩)
    go_ret
    exact ⟨_, rfl, (fun _ => by omega), rfl⟩

theorem wf_i64 {n : Int} (h : -9223372036854775808 ≤ n) (h' : n ≤ 9223372036854775807) : (Lit.int .i64 n).wf = true := by
  simp [Lit.wf, IntKind.min, IntKind.max, IntKind.signed, IntKind.bits]; omega
/-- a row of the call's own, read as integers -/
theorem ints_own {w : World} {B : Nat} {v : Value} {n : Nat} {xs : List Int} (h : w.ownsRow B 3 1 v n (xs.map (Value.int .i64))) (hv : v ≠ .slice none 0 0) (hw : ∀ x ∈ xs, (Lit.int .i64 x).wf = true) :
    ∃ p cap, v = .slice p n cap ∧ IsInts w p n xs := by
  have hl : xs.length = n := by have := h.1; simpa using this
  obtain ⟨g, cap, rfl, hb, hg, hn, hx⟩ := ownsRow_cells h hv
  refine ⟨_, _, rfl, hn, ⟨hl, hw⟩, fun _ => ⟨g, 0, rfl, hg, fun i hi => ?_⟩⟩
  have := hx i (.int .i64 (xs.getD i 0)) (by rw [List.getElem?_map, List.getD_eq_getElem?_getD, List.getElem?_eq_getElem (by omega)]; rfl)
  simpa using this
theorem yields_one (w : World) (t : TypeId) (x : Value) (hx : x.oneCell' = true) : Yields (w.alloc (.cells #[x] t)) 1 (some ⟨w.heap.size, 0, none⟩) 1 1 [x] := by
  refine ⟨rfl, fun u hu => by simp at hu; subst hu; exact hx, Or.inr ⟨_, rfl, fun j u hu => ?_⟩⟩
  match j, hu with
  | 0, hu => simp at hu; subst hu; simp [Addr.add]
def NumsPost (w : World) (e : Ending) (w' : World) : Prop := ∃ p len cap zs, e = .returned (.slice p len cap) ∧ IsInts w' p len zs ∧ Below w.heap.size w w'

theorem below_box (w : World) (o : Obj) : Below w.heap.size w (w.alloc o) := (Below.refl _ _).alloc (Nat.le_refl _) _
set_option maxHeartbeats 800000 in
theorem numbers_no (pn : Option Addr) (ln cn : Nat) (zs : List Int) (ps : Option Addr) (ls cs : Nat) (pa : Option Addr) (la ca : Nat) (k : Int) (w : World) (hn : IsInts w pn ln zs) (hcn : pn = none → cn = 0) (hl : ln ≤ 100) (hk : ¬ (1 ≤ k ∧ k ≤ 6)) :
    Calls Try.prog 24 #[.agg #[.slice pn ln cn, .slice ps ls cs, .slice pa la ca], .int .i64 k] w (NumsPost w) := by
  have hb1 := below_box w (.cells #[.slice pn ln cn, .slice ps ls cs, .slice pa la ca] 26)
  have hyn := ((hn.below hb1).below (below_box (w.alloc (.cells #[.slice pn ln cn, .slice ps ls cs, .slice pa la ca] 26)) (.cells #[.int .i64 0, .int .i64 1, .int .i64 (-1)] 3))).yields hcn
  have hown2 := ownsRow_lit (w.alloc (.cells #[.slice pn ln cn, .slice ps ls cs, .slice pa la ca] 26)) (w.heap.size + 1) 3 1 3 #[.int .i64 0, .int .i64 1, .int .i64 (-1)] (by simp) rfl (by decide)
  simp only [World.size_alloc] at hown2
  obtain ⟨j0, gi, gz0, gz1, gz2⟩ := info_parts Try.infoInt
  have cW := fun w => rWidth_any k w
  rw [width_no hk] at cW
  go_enter Try.func24, Try.ntmps24
  go_wp2_with (first | (go_at_call 26; refine (cW _).mono ?_; rintro e w' ⟨rfl, rfl⟩) | (at_builtin; refine wpList_append_any rfl _ _ 22 rfl (w.heap.size + 1) 3 j0 (.int .i64 0) 1 8 Try.underlying22 gi gz0 gz1 gz2 rfl (by decide) _ 3 _ rfl hown2 (fun h => by cases h) _ _ _ _ rfl hyn ?_ ?_ ?_ ?_))
  · unfold maxLen; omega
  · omega
  · simp
  · intro v2 w2 hown3 hgrow3 hne3
    have hbel : Below w.heap.size w w2 := hb1.trans (((Below.refl _ _).alloc (by simp) _).grown hgrow3 (by simp; omega) (fun k hk => by simp [Value.ownBlock] at hk; omega))
    have hown4 : w2.ownsRow (w.heap.size + 1) 3 1 v2 (3 + ln) ((0 :: 1 :: -1 :: zs).map (Value.int .i64)) := hown3
    obtain ⟨p, cap, rfl, hI⟩ := ints_own hown4 hne3 (by
      intro x hx
      rcases List.mem_cons.1 hx with rfl | hx
      · exact wf_i64 (by decide) (by decide)
      rcases List.mem_cons.1 hx with rfl | hx
      · exact wf_i64 (by decide) (by decide)
      rcases List.mem_cons.1 hx with rfl | hx
      · exact wf_i64 (by decide) (by decide)
      exact hn.2.1.2 x hx)
    clear hown2 hown3 hown4 hgrow3 hne3 hyn
    go_wp2_with fail
    go_ret
    exact ⟨_, _, _, _, rfl, hI, hbel⟩
def RelL (w0 : World) (B ln : Nat) (v i : Value) (wr : World) : Prop :=
  ∃ (j : Nat) (xs : List Int), j ≤ 6 ∧ j ≤ ln ∧ i = .int .i64 j ∧ (∀ x ∈ xs, (Lit.int .i64 x).wf = true) ∧ wr.ownsRow B 3 1 v (13 + j) (xs.map (Value.int .i64)) ∧ v ≠ .slice none 0 0 ∧ Below B w0 wr

set_option maxHeartbeats 1600000 in
set_option maxRecDepth 100000 in
theorem numbers_8 (pn : Option Addr) (ln cn : Nat) (zs : List Int) (ps : Option Addr) (ls cs : Nat) (pa : Option Addr) (la ca : Nat) (k : Int) (w : World) (hn : IsInts w pn ln zs) (hcn : pn = none → cn = 0) (hl : ln ≤ 100) (hk : widthI k = 8) :
    Calls Try.prog 24 #[.agg #[.slice pn ln cn, .slice ps ls cs, .slice pa la ca], .int .i64 k] w (NumsPost w) := by
  have hb1 := below_box w (.cells #[.slice pn ln cn, .slice ps ls cs, .slice pa la ca] 26)
  have hown2 := ownsRow_lit (w.alloc (.cells #[.slice pn ln cn, .slice ps ls cs, .slice pa la ca] 26)) (w.heap.size + 1) 3 1 13 #[.int .i64 0, .int .i64 1, .int .i64 2, .int .i64 7, .int .i64 127, .int .i64 128, .int .i64 129, .int .i64 255, .int .i64 254, .int .i64 256, .int .i64 (-1), .int .i64 8, .int .i64 7] (by simp) rfl (by decide)
  simp only [World.size_alloc] at hown2
  have hown4 : ((w.alloc (.cells #[.slice pn ln cn, .slice ps ls cs, .slice pa la ca] 26)).alloc (.cells #[.int .i64 0, .int .i64 1, .int .i64 2, .int .i64 7, .int .i64 127, .int .i64 128, .int .i64 129, .int .i64 255, .int .i64 254, .int .i64 256, .int .i64 (-1), .int .i64 8, .int .i64 7] 3)).ownsRow (w.heap.size + 1) 3 1 (.slice (some ⟨w.heap.size + 1, 0, none⟩) 13 13) (13 + 0) (([0, 1, 2, 7, 127, 128, 129, 255, 254, 256, -1, 8, 7] : List Int).map (Value.int .i64)) := hown2
  clear hown2
  obtain ⟨j0, gi, gz0, gz1, gz2⟩ := info_parts Try.infoInt
  have cW := fun w => rWidth_any k w
  have hW : isW 8 := by unfold isW; decide
  rw [hk] at cW
  clear hk
  go_enter Try.func24, Try.ntmps24
  go_wp2_with (first | (go_at_call 26; refine (cW _).mono ?_; rintro e w' ⟨rfl, rfl⟩))
  go_loopw [7, 8] (fun v i wr => RelL (w.alloc (.cells #[.slice pn ln cn, .slice ps ls cs, .slice pa la ca] 26)) (w.heap.size + 1) ln v i wr) (fun _ i _ => 6 - (intOf i).toNat)
  case atStart => exact ⟨0, _, by omega, by omega, rfl, (by decide), hown4, (fun h => by cases h), (Below.refl _ _).alloc (by simp) _⟩
  case round =>
    obtain ⟨j, xs, hj1, hj2, rfl, hwf, hown, hne, hb⟩ := hrel
    clear hown4
    have hc0 : wr.cell? ⟨w.heap.size, 0, none⟩ = some (.slice pn ln cn) := (hb.cell (p := ⟨w.heap.size, 0, none⟩) (by simp)).trans (by simp)
    have hsz : w.heap.size + 1 ≤ wr.heap.size := by have := hb.size; simpa using this
    by_cases hlt : j < ln ∧ j < 6
    · obtain ⟨hlt1, hlt2⟩ := hlt
      obtain ⟨hzl, hzw⟩ := hn.2.1
      obtain ⟨b0, off, rfl, hbb, hcells⟩ := hn.2.2 (by omega)
      obtain ⟨N, hN⟩ : ∃ N, N = zs.getD j 0 := ⟨_, rfl⟩
      have hcN : wr.cell? ⟨b0, off + j, none⟩ = some (.int .i64 N) := by
        rw [hN]; exact ((hb.cell (p := ⟨b0, off + j, none⟩) (by simp; omega)).trans (World.cell?_alloc_lt _ _ _ hbb)).trans (hcells j hlt1)
      clear hN hcells hzw hzl
      have hlt3 : decide ((j : Int) < 6) = true := by simp; omega
      have hlt4 : decide ((j : Int) < ln) = true := by simp; omega
      have hlt5 : (j : Int) < 6 := by omega
      have hlt6 : (j : Int) < ln := by omega
      have hy := yields_one wr 3 (.int .i64 (wrapI N 8)) rfl
      have hownA := hown.alloc (.cells #[.int .i64 (wrapI N 8)] 3)
      go_wp2_with (first | (go_at_call 38; refine (rWrap_any _ _ hW _).mono ?_; rintro e w' ⟨rfl, rfl⟩) | (at_builtin; refine wpList_append_any rfl _ _ 22 rfl (w.heap.size + 1) 3 j0 (.int .i64 0) 1 8 Try.underlying22 gi gz0 gz1 gz2 rfl (by decide) _ (13 + j) _ rfl hownA hne _ _ _ _ rfl hy ?_ ?_ ?_ ?_))
      · unfold maxLen; omega
      · omega
      · simp; omega
      · intro v2 w2 hown3 hgrow3 hne3
        have hrow : w2.ownsRow (w.heap.size + 1) 3 1 v2 (13 + (j + 1)) ((xs ++ [wrapI N 8]).map (Value.int .i64)) := by
          rw [List.map_append]; exact hown3
        have hbn : Below (w.heap.size + 1) (w.alloc (.cells #[.slice (some ⟨b0, off, none⟩) ln cn, .slice ps ls cs, .slice pa la ca] 26)) w2 := by
          obtain ⟨g, cap, rfl, hg1, hg2, _, _⟩ := ownsRow_cells hown hne
          exact (hb.alloc (by omega) _).grown hgrow3 (by simp; omega) (fun k hk => by simp [Value.ownBlock] at hk; omega)
        have hwx := wrapI_isN hW N
        have hwf2 : ∀ x ∈ xs ++ [wrapI N 8], (Lit.int .i64 x).wf = true := by
          intro x hx
          rcases List.mem_append.1 hx with hx | hx
          · exact hwf x hx
          · simp at hx; subst hx
            obtain ⟨p0, p1⟩ := isN_32 hW hwx
            exact wf_i64 (by omega) (by omega)
        clear hown hown3 hownA hgrow3 hy hwx hwf hcN
        go_wp2_with fail
        go_roundw
        case rel => exact ⟨j + 1, _, by omega, by omega, by go_num, hwf2, hrow, hne3, hbn⟩
        case measure => simp [intOf]; omega
    · obtain ⟨p, cap, rfl, hI⟩ := ints_own hown hne hwf
      clear hown hwf hne
      by_cases hlt1 : j < ln
      · have hlt3 : decide ((j : Int) < 6) = false := by simp; omega
        have hlt4 : decide ((j : Int) < ln) = true := by simp; omega
        go_wp2_with fail
        go_ret
        exact ⟨_, _, _, _, rfl, hI, hb1.trans (hb.mono (by simp))⟩
      · have hlt4 : decide ((j : Int) < ln) = false := by simp; omega
        go_wp2_with fail
        go_ret
        exact ⟨_, _, _, _, rfl, hI, hb1.trans (hb.mono (by simp))⟩
set_option maxHeartbeats 1600000 in
set_option maxRecDepth 100000 in
theorem numbers_16 (pn : Option Addr) (ln cn : Nat) (zs : List Int) (ps : Option Addr) (ls cs : Nat) (pa : Option Addr) (la ca : Nat) (k : Int) (w : World) (hn : IsInts w pn ln zs) (hcn : pn = none → cn = 0) (hl : ln ≤ 100) (hk : widthI k = 16) :
    Calls Try.prog 24 #[.agg #[.slice pn ln cn, .slice ps ls cs, .slice pa la ca], .int .i64 k] w (NumsPost w) := by
  have hb1 := below_box w (.cells #[.slice pn ln cn, .slice ps ls cs, .slice pa la ca] 26)
  have hown2 := ownsRow_lit (w.alloc (.cells #[.slice pn ln cn, .slice ps ls cs, .slice pa la ca] 26)) (w.heap.size + 1) 3 1 13 #[.int .i64 0, .int .i64 1, .int .i64 2, .int .i64 7, .int .i64 32767, .int .i64 32768, .int .i64 32769, .int .i64 65535, .int .i64 65534, .int .i64 65536, .int .i64 (-1), .int .i64 16, .int .i64 15] (by simp) rfl (by decide)
  simp only [World.size_alloc] at hown2
  have hown4 : ((w.alloc (.cells #[.slice pn ln cn, .slice ps ls cs, .slice pa la ca] 26)).alloc (.cells #[.int .i64 0, .int .i64 1, .int .i64 2, .int .i64 7, .int .i64 32767, .int .i64 32768, .int .i64 32769, .int .i64 65535, .int .i64 65534, .int .i64 65536, .int .i64 (-1), .int .i64 16, .int .i64 15] 3)).ownsRow (w.heap.size + 1) 3 1 (.slice (some ⟨w.heap.size + 1, 0, none⟩) 13 13) (13 + 0) (([0, 1, 2, 7, 32767, 32768, 32769, 65535, 65534, 65536, -1, 16, 15] : List Int).map (Value.int .i64)) := hown2
  clear hown2
  obtain ⟨j0, gi, gz0, gz1, gz2⟩ := info_parts Try.infoInt
  have cW := fun w => rWidth_any k w
  have hW : isW 16 := by unfold isW; decide
  rw [hk] at cW
  clear hk
  go_enter Try.func24, Try.ntmps24
  go_wp2_with (first | (go_at_call 26; refine (cW _).mono ?_; rintro e w' ⟨rfl, rfl⟩))
  go_loopw [7, 8] (fun v i wr => RelL (w.alloc (.cells #[.slice pn ln cn, .slice ps ls cs, .slice pa la ca] 26)) (w.heap.size + 1) ln v i wr) (fun _ i _ => 6 - (intOf i).toNat)
  case atStart => exact ⟨0, _, by omega, by omega, rfl, (by decide), hown4, (fun h => by cases h), (Below.refl _ _).alloc (by simp) _⟩
  case round =>
    obtain ⟨j, xs, hj1, hj2, rfl, hwf, hown, hne, hb⟩ := hrel
    clear hown4
    have hc0 : wr.cell? ⟨w.heap.size, 0, none⟩ = some (.slice pn ln cn) := (hb.cell (p := ⟨w.heap.size, 0, none⟩) (by simp)).trans (by simp)
    have hsz : w.heap.size + 1 ≤ wr.heap.size := by have := hb.size; simpa using this
    by_cases hlt : j < ln ∧ j < 6
    · obtain ⟨hlt1, hlt2⟩ := hlt
      obtain ⟨hzl, hzw⟩ := hn.2.1
      obtain ⟨b0, off, rfl, hbb, hcells⟩ := hn.2.2 (by omega)
      obtain ⟨N, hN⟩ : ∃ N, N = zs.getD j 0 := ⟨_, rfl⟩
      have hcN : wr.cell? ⟨b0, off + j, none⟩ = some (.int .i64 N) := by
        rw [hN]; exact ((hb.cell (p := ⟨b0, off + j, none⟩) (by simp; omega)).trans (World.cell?_alloc_lt _ _ _ hbb)).trans (hcells j hlt1)
      clear hN hcells hzw hzl
      have hlt3 : decide ((j : Int) < 6) = true := by simp; omega
      have hlt4 : decide ((j : Int) < ln) = true := by simp; omega
      have hlt5 : (j : Int) < 6 := by omega
      have hlt6 : (j : Int) < ln := by omega
      have hy := yields_one wr 3 (.int .i64 (wrapI N 16)) rfl
      have hownA := hown.alloc (.cells #[.int .i64 (wrapI N 16)] 3)
      go_wp2_with (first | (go_at_call 38; refine (rWrap_any _ _ hW _).mono ?_; rintro e w' ⟨rfl, rfl⟩) | (at_builtin; refine wpList_append_any rfl _ _ 22 rfl (w.heap.size + 1) 3 j0 (.int .i64 0) 1 8 Try.underlying22 gi gz0 gz1 gz2 rfl (by decide) _ (13 + j) _ rfl hownA hne _ _ _ _ rfl hy ?_ ?_ ?_ ?_))
      · unfold maxLen; omega
      · omega
      · simp; omega
      · intro v2 w2 hown3 hgrow3 hne3
        have hrow : w2.ownsRow (w.heap.size + 1) 3 1 v2 (13 + (j + 1)) ((xs ++ [wrapI N 16]).map (Value.int .i64)) := by
          rw [List.map_append]; exact hown3
        have hbn : Below (w.heap.size + 1) (w.alloc (.cells #[.slice (some ⟨b0, off, none⟩) ln cn, .slice ps ls cs, .slice pa la ca] 26)) w2 := by
          obtain ⟨g, cap, rfl, hg1, hg2, _, _⟩ := ownsRow_cells hown hne
          exact (hb.alloc (by omega) _).grown hgrow3 (by simp; omega) (fun k hk => by simp [Value.ownBlock] at hk; omega)
        have hwx := wrapI_isN hW N
        have hwf2 : ∀ x ∈ xs ++ [wrapI N 16], (Lit.int .i64 x).wf = true := by
          intro x hx
          rcases List.mem_append.1 hx with hx | hx
          · exact hwf x hx
          · simp at hx; subst hx
            obtain ⟨p0, p1⟩ := isN_32 hW hwx
            exact wf_i64 (by omega) (by omega)
        clear hown hown3 hownA hgrow3 hy hwx hwf hcN
        go_wp2_with fail
        go_roundw
        case rel => exact ⟨j + 1, _, by omega, by omega, by go_num, hwf2, hrow, hne3, hbn⟩
        case measure => simp [intOf]; omega
    · obtain ⟨p, cap, rfl, hI⟩ := ints_own hown hne hwf
      clear hown hwf hne
      by_cases hlt1 : j < ln
      · have hlt3 : decide ((j : Int) < 6) = false := by simp; omega
        have hlt4 : decide ((j : Int) < ln) = true := by simp; omega
        go_wp2_with fail
        go_ret
        exact ⟨_, _, _, _, rfl, hI, hb1.trans (hb.mono (by simp))⟩
      · have hlt4 : decide ((j : Int) < ln) = false := by simp; omega
        go_wp2_with fail
        go_ret
        exact ⟨_, _, _, _, rfl, hI, hb1.trans (hb.mono (by simp))⟩
set_option maxHeartbeats 1600000 in
set_option maxRecDepth 100000 in
theorem numbers_32 (pn : Option Addr) (ln cn : Nat) (zs : List Int) (ps : Option Addr) (ls cs : Nat) (pa : Option Addr) (la ca : Nat) (k : Int) (w : World) (hn : IsInts w pn ln zs) (hcn : pn = none → cn = 0) (hl : ln ≤ 100) (hk : widthI k = 32) :
    Calls Try.prog 24 #[.agg #[.slice pn ln cn, .slice ps ls cs, .slice pa la ca], .int .i64 k] w (NumsPost w) := by
  have hb1 := below_box w (.cells #[.slice pn ln cn, .slice ps ls cs, .slice pa la ca] 26)
  have hown2 := ownsRow_lit (w.alloc (.cells #[.slice pn ln cn, .slice ps ls cs, .slice pa la ca] 26)) (w.heap.size + 1) 3 1 13 #[.int .i64 0, .int .i64 1, .int .i64 2, .int .i64 7, .int .i64 2147483647, .int .i64 2147483648, .int .i64 2147483649, .int .i64 4294967295, .int .i64 4294967294, .int .i64 4294967296, .int .i64 (-1), .int .i64 32, .int .i64 31] (by simp) rfl (by decide)
  simp only [World.size_alloc] at hown2
  have hown4 : ((w.alloc (.cells #[.slice pn ln cn, .slice ps ls cs, .slice pa la ca] 26)).alloc (.cells #[.int .i64 0, .int .i64 1, .int .i64 2, .int .i64 7, .int .i64 2147483647, .int .i64 2147483648, .int .i64 2147483649, .int .i64 4294967295, .int .i64 4294967294, .int .i64 4294967296, .int .i64 (-1), .int .i64 32, .int .i64 31] 3)).ownsRow (w.heap.size + 1) 3 1 (.slice (some ⟨w.heap.size + 1, 0, none⟩) 13 13) (13 + 0) (([0, 1, 2, 7, 2147483647, 2147483648, 2147483649, 4294967295, 4294967294, 4294967296, -1, 32, 31] : List Int).map (Value.int .i64)) := hown2
  clear hown2
  obtain ⟨j0, gi, gz0, gz1, gz2⟩ := info_parts Try.infoInt
  have cW := fun w => rWidth_any k w
  have hW : isW 32 := by unfold isW; decide
  rw [hk] at cW
  clear hk
  go_enter Try.func24, Try.ntmps24
  go_wp2_with (first | (go_at_call 26; refine (cW _).mono ?_; rintro e w' ⟨rfl, rfl⟩))
  go_loopw [7, 8] (fun v i wr => RelL (w.alloc (.cells #[.slice pn ln cn, .slice ps ls cs, .slice pa la ca] 26)) (w.heap.size + 1) ln v i wr) (fun _ i _ => 6 - (intOf i).toNat)
  case atStart => exact ⟨0, _, by omega, by omega, rfl, (by decide), hown4, (fun h => by cases h), (Below.refl _ _).alloc (by simp) _⟩
  case round =>
    obtain ⟨j, xs, hj1, hj2, rfl, hwf, hown, hne, hb⟩ := hrel
    clear hown4
    have hc0 : wr.cell? ⟨w.heap.size, 0, none⟩ = some (.slice pn ln cn) := (hb.cell (p := ⟨w.heap.size, 0, none⟩) (by simp)).trans (by simp)
    have hsz : w.heap.size + 1 ≤ wr.heap.size := by have := hb.size; simpa using this
    by_cases hlt : j < ln ∧ j < 6
    · obtain ⟨hlt1, hlt2⟩ := hlt
      obtain ⟨hzl, hzw⟩ := hn.2.1
      obtain ⟨b0, off, rfl, hbb, hcells⟩ := hn.2.2 (by omega)
      obtain ⟨N, hN⟩ : ∃ N, N = zs.getD j 0 := ⟨_, rfl⟩
      have hcN : wr.cell? ⟨b0, off + j, none⟩ = some (.int .i64 N) := by
        rw [hN]; exact ((hb.cell (p := ⟨b0, off + j, none⟩) (by simp; omega)).trans (World.cell?_alloc_lt _ _ _ hbb)).trans (hcells j hlt1)
      clear hN hcells hzw hzl
      have hlt3 : decide ((j : Int) < 6) = true := by simp; omega
      have hlt4 : decide ((j : Int) < ln) = true := by simp; omega
      have hlt5 : (j : Int) < 6 := by omega
      have hlt6 : (j : Int) < ln := by omega
      have hy := yields_one wr 3 (.int .i64 (wrapI N 32)) rfl
      have hownA := hown.alloc (.cells #[.int .i64 (wrapI N 32)] 3)
      go_wp2_with (first | (go_at_call 38; refine (rWrap_any _ _ hW _).mono ?_; rintro e w' ⟨rfl, rfl⟩) | (at_builtin; refine wpList_append_any rfl _ _ 22 rfl (w.heap.size + 1) 3 j0 (.int .i64 0) 1 8 Try.underlying22 gi gz0 gz1 gz2 rfl (by decide) _ (13 + j) _ rfl hownA hne _ _ _ _ rfl hy ?_ ?_ ?_ ?_))
      · unfold maxLen; omega
      · omega
      · simp; omega
      · intro v2 w2 hown3 hgrow3 hne3
        have hrow : w2.ownsRow (w.heap.size + 1) 3 1 v2 (13 + (j + 1)) ((xs ++ [wrapI N 32]).map (Value.int .i64)) := by
          rw [List.map_append]; exact hown3
        have hbn : Below (w.heap.size + 1) (w.alloc (.cells #[.slice (some ⟨b0, off, none⟩) ln cn, .slice ps ls cs, .slice pa la ca] 26)) w2 := by
          obtain ⟨g, cap, rfl, hg1, hg2, _, _⟩ := ownsRow_cells hown hne
          exact (hb.alloc (by omega) _).grown hgrow3 (by simp; omega) (fun k hk => by simp [Value.ownBlock] at hk; omega)
        have hwx := wrapI_isN hW N
        have hwf2 : ∀ x ∈ xs ++ [wrapI N 32], (Lit.int .i64 x).wf = true := by
          intro x hx
          rcases List.mem_append.1 hx with hx | hx
          · exact hwf x hx
          · simp at hx; subst hx
            obtain ⟨p0, p1⟩ := isN_32 hW hwx
            exact wf_i64 (by omega) (by omega)
        clear hown hown3 hownA hgrow3 hy hwx hwf hcN
        go_wp2_with fail
        go_roundw
        case rel => exact ⟨j + 1, _, by omega, by omega, by go_num, hwf2, hrow, hne3, hbn⟩
        case measure => simp [intOf]; omega
    · obtain ⟨p, cap, rfl, hI⟩ := ints_own hown hne hwf
      clear hown hwf hne
      by_cases hlt1 : j < ln
      · have hlt3 : decide ((j : Int) < 6) = false := by simp; omega
        have hlt4 : decide ((j : Int) < ln) = true := by simp; omega
        go_wp2_with fail
        go_ret
        exact ⟨_, _, _, _, rfl, hI, hb1.trans (hb.mono (by simp))⟩
      · have hlt4 : decide ((j : Int) < ln) = false := by simp; omega
        go_wp2_with fail
        go_ret
        exact ⟨_, _, _, _, rfl, hI, hb1.trans (hb.mono (by simp))⟩
theorem numbers_any (pn : Option Addr) (ln cn : Nat) (zs : List Int) (ps : Option Addr) (ls cs : Nat) (pa : Option Addr) (la ca : Nat) (k : Int) (w : World) (hn : IsInts w pn ln zs) (hcn : pn = none → cn = 0) (hl : ln ≤ 100) :
    Calls Try.prog 24 #[.agg #[.slice pn ln cn, .slice ps ls cs, .slice pa la ca], .int .i64 k] w (NumsPost w) := by
  by_cases hk : 1 ≤ k ∧ k ≤ 6
  · rcases width_isW hk with h | h | h
    · exact numbers_8 pn ln cn zs ps ls cs pa la ca k w hn hcn hl h
    · exact numbers_16 pn ln cn zs ps ls cs pa la ca k w hn hcn hl h
    · exact numbers_32 pn ln cn zs ps ls cs pa la ca k w hn hcn hl h
  · exact numbers_no pn ln cn zs ps ls cs pa la ca k w hn hcn hl hk
end Go.Proofs.Ytbamphfoobmblaa
