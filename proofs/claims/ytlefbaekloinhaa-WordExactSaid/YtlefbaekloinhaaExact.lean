/- WordExact: the walk. -/
import Derived.Test.YtlefbaekloinhaaBack
import Derived.Test.YtlefbaekloinhaaExactPure
import Derived.Test.YtlefbaekloinhaaLib
import Derived.Deep.DeepCutAuto
import Derived.Lib.Hide
namespace Go.Proofs.Ytlefbaekloinhaa
open Go.ChangeShapes Go.WideShapes Go.ChangeAt Go.RowKit Go.Joins

/-- A slice of machines that came in. -/
def IsAbis (w : World) (p : Option Addr) (len cap : Nat) (xa : List (Bool × Int)) : Prop :=
  len ≤ maxLen ∧ xa.length = len ∧ ((p = none ∧ len = 0 ∧ cap = 0) ∨ ∃ ad, p = some ad ∧ (0 < len → ad.block < w.heap.size) ∧ ∀ i, i < len → w.cell? (ad.add (2 * i)) = some (.bool (xa.getD i (false, 0)).1) ∧ w.cell? (ad.add (2 * i + 1)) = some (.int .i64 (xa.getD i (false, 0)).2))

def abiCells (xa : List (Bool × Int)) : List Value := xa.flatMap fun x => [.bool x.1, .int .i64 x.2]

theorem Try.info29 : (Try.prog.info? 29).map (fun i => (i.zero, i.size, i.bytes)) = some (some (.agg #[.bool false, .int .i64 0]), 2, 16) := by kernel_rfl
theorem Try.info3 : (Try.prog.info? 3).map (fun i => (i.zero, i.size, i.bytes)) = some (some (.int .i64 0), 1, 8) := by kernel_rfl

def HeavyOut (w : World) (ln la : Nat) (n s a : Value) (e : Ending) (w' : World) : Prop := ∃ b : Bool, e = .returned (.bool b) ∧ (b = false → ln + la ≤ 100) ∧ w.alloc (.cells #[n, s, a] 26) = w'

set_option maxHeartbeats 400000 in
theorem heavy_out (pn : Option Addr) (ln cn : Nat) (ps : Option Addr) (ls cs : Nat) (ss : List ByteArray) (pa : Option Addr) (la ca : Nat) (w : World) (h : IsStrs w ps ls ss) (h1 : ln ≤ 17592186044416) (h2 : la ≤ 17592186044416) :
    Calls Try.prog 5 #[.agg #[.slice pn ln cn, .slice ps ls cs, .slice pa la ca]] w (HeavyOut w ln la (.slice pn ln cn) (.slice ps ls cs) (.slice pa la ca)) := by
  have hs := h.below (below_alloc1 w (.cells #[.slice pn ln cn, .slice ps ls cs, .slice pa la ca] 26))
  by_cases hg : (100 : Int) < ↑ln + ↑la
  · go_enter Try.func5, Try.ntmps5
    go_wp2
    go_ret
    exact ⟨_, rfl, (fun h => by cases h), rfl⟩
  · have hd : decide ((100 : Int) < ↑ln + ↑la) = false := by simpa using hg
    go_enter Try.func5, Try.ntmps5
    go_wp2_with (go_at_call 22; refine (texts_any _ _ _ ss _ hs).mono ?_; rintro e w' ⟨n, rfl, rfl⟩)
    go_ret
    exact ⟨_, rfl, (fun _ => by omega), rfl⟩

theorem abiCells_length (xa : List (Bool × Int)) : (abiCells xa).length = 2 * xa.length := by
  induction xa with
  | nil => rfl
  | cons x r ih => simp only [abiCells, List.flatMap_cons, List.length_append, List.length_cons, List.length_nil] at ih ⊢; omega
theorem abiCells_get (xa : List (Bool × Int)) (i : Nat) (h : i < xa.length) : (abiCells xa)[2 * i]? = some (.bool (xa.getD i (false, 0)).1) ∧ (abiCells xa)[2 * i + 1]? = some (.int .i64 (xa.getD i (false, 0)).2) := by
  induction xa generalizing i with
  | nil => exact absurd h (by simp)
  | cons x r ih =>
    cases i with
    | zero => exact ⟨rfl, rfl⟩
    | succ i =>
      have := ih i (by simpa using h)
      rw [show 2 * (i + 1) = (2 * i) + 1 + 1 by omega]
      exact this
theorem abiCells_one (xa : List (Bool × Int)) : ∀ u ∈ abiCells xa, u.oneCell' = true := by
  intro u hu
  simp only [abiCells, List.mem_flatMap, List.mem_cons, List.not_mem_nil, or_false] at hu
  obtain ⟨x, _, rfl | rfl⟩ := hu <;> rfl
theorem IsAbis.yields {w : World} {p : Option Addr} {len cap : Nat} {xa : List (Bool × Int)} (h : IsAbis w p len cap xa) : Yields w 2 p len cap (abiCells xa) := by
  obtain ⟨_, hl, hp⟩ := h
  refine ⟨by rw [abiCells_length]; omega, abiCells_one xa, ?_⟩
  rcases hp with hp | ⟨ad, rfl, _, hc⟩
  · exact Or.inl hp
  · refine Or.inr ⟨ad, rfl, fun j u hu => ?_⟩
    have hj : j < 2 * xa.length := by
      rcases Nat.lt_or_ge j (2 * xa.length) with h | h
      · exact h
      · rw [List.getElem?_eq_none (by rw [abiCells_length]; omega)] at hu; cases hu
    obtain ⟨i, rfl | rfl⟩ : ∃ i, j = 2 * i ∨ j = 2 * i + 1 := ⟨j / 2, by omega⟩
    · rw [(abiCells_get xa i (by omega)).1] at hu; rw [← hu]; exact (hc i (by omega)).1
    · rw [(abiCells_get xa i (by omega)).2] at hu; rw [← hu]; exact (hc i (by omega)).2
theorem add_block (a : Addr) (n : Nat) : (a.add n).block = a.block := by unfold Addr.add; split <;> rfl
theorem IsAbis.below {w w' : World} {p : Option Addr} {len cap : Nat} {xa : List (Bool × Int)} (h : IsAbis w p len cap xa) (hb : Below w.heap.size w w') : IsAbis w' p len cap xa := by
  obtain ⟨a, c, d⟩ := h
  refine ⟨a, c, ?_⟩
  rcases d with d | ⟨ad, rfl, hx, hc⟩
  · exact Or.inl d
  · refine Or.inr ⟨ad, rfl, fun hl => by have := hb.size; have := hx hl; omega, fun i hi => ?_⟩
    have hx' := hx (by omega)
    exact ⟨(hb.cell (p := ad.add (2 * i)) (by rw [add_block]; exact hx')).trans (hc i hi).1, (hb.cell (p := ad.add (2 * i + 1)) (by rw [add_block]; exact hx')).trans (hc i hi).2⟩

theorem lit_cells (xa : List (Bool × Int)) (m : Nat) (h : xa.length = m) : ∃ fa : List (Bool × Int), fa.length = 3 + m ∧ (Value.bool false :: Value.int .i64 4 :: Value.bool true :: Value.int .i64 2 :: Value.bool false :: Value.int .i64 0 :: abiCells xa) = abiCells fa :=
  ⟨(false, 4) :: (true, 2) :: (false, 0) :: xa, by simp; omega, rfl⟩

theorem IsInts.yields {w : World} {p : Option Addr} {len cap : Nat} {zs : List Int} (h : IsInts w p len zs) (hc : p = none → cap = 0) : Yields w 1 p len cap (zs.map (Value.int .i64)) := by
  obtain ⟨_, ⟨hl, _⟩, hp⟩ := h
  refine ⟨by simp; omega, fun u hu => by obtain ⟨x, _, rfl⟩ := List.mem_map.1 hu; rfl, ?_⟩
  cases p with
  | none =>
    refine Or.inl ⟨rfl, ?_, hc rfl⟩
    rcases Nat.eq_zero_or_pos len with h | h
    · exact h
    · obtain ⟨b, off, h', _⟩ := hp h; cases h'
  | some ad =>
    refine Or.inr ⟨ad, rfl, fun j u hu => ?_⟩
    rw [List.getElem?_map, Option.map_eq_some_iff] at hu
    obtain ⟨x, hx, rfl⟩ := hu
    have hj : j < zs.length := (List.getElem?_eq_some_iff.1 hx).1
    obtain ⟨b, off, h', _, hcell⟩ := hp (by omega)
    cases h'
    have := hcell j (by omega)
    rw [List.getD_eq_getElem?_getD, hx] at this
    unfold Addr.add
    by_cases h0 : j = 0
    · subst h0; simpa using this
    · simpa [h0] using this

def litNs : List Int := [0, 127, 128, 255, 256, -1, 65535, 2147483648, 4294967295, 4294967296, -9223372036854775808]
theorem lit_ints (zs : List Int) : (Value.int .i64 0 :: Value.int .i64 127 :: Value.int .i64 128 :: Value.int .i64 255 :: Value.int .i64 256 :: Value.int .i64 (-1) :: Value.int .i64 65535 :: Value.int .i64 2147483648 :: Value.int .i64 4294967295 :: Value.int .i64 4294967296 :: Value.int .i64 (-9223372036854775808) :: zs.map (Value.int .i64)) = (litNs ++ zs).map (Value.int .i64) := rfl

def RelKind (w1 : World) (i : Value) (wr : World) : Prop := ∃ k : Int, -1 ≤ k ∧ k ≤ 12 ∧ i = .int .i64 k ∧ Below w1.heap.size w1 wr
def RelNs (wo : World) (n : Nat) (i : Value) (wr : World) : Prop := ∃ k : Nat, k ≤ 30 ∧ k ≤ n ∧ i = .int .i64 k ∧ Below wo.heap.size wo wr
def RelW (wo : World) (i : Value) (wr : World) : Prop := ∃ k : Int, 0 ≤ k ∧ k ≤ 5 ∧ i = .int .i64 k ∧ Below wo.heap.size wo wr
def RelAt (wo : World) (n : Nat) (i : Value) (wr : World) : Prop := ∃ k : Nat, k ≤ 8 ∧ k ≤ n ∧ i = .int .i64 k ∧ Below wo.heap.size wo wr

set_option maxHeartbeats 4000000 in
set_option maxRecDepth 100000 in
theorem exact_any (pn : Option Addr) (ln cn : Nat) (zs : List Int) (ps : Option Addr) (ls cs : Nat) (ss : List ByteArray) (pa : Option Addr) (la ca : Nat) (xa : List (Bool × Int)) (w : World) (hn : IsInts w pn ln zs) (h : IsStrs w ps ls ss) (h2 : IsAbis w pa la ca xa)
    (hcn : pn = none → cn = 0) (r1 : ln ≤ 17592186044416) (r2 : la ≤ 17592186044416) :
    Calls Try.prog 3 #[.agg #[.slice pn ln cn, .slice ps ls cs, .slice pa la ca]] w fun e w' => e = .returned (.bool true) ∧ Below w.heap.size w w' := by
  have hb1 := below_alloc1 w (.cells #[.slice pn ln cn, .slice ps ls cs, .slice pa la ca] 26)
  have hs1 := h.below hb1
  obtain ⟨i0, hi, hz0, hz1, hz2⟩ := info_parts Try.info29
  have hy := ((h2.below (below_alloc3 w (.cells #[.slice pn ln cn, .slice ps ls cs, .slice pa la ca] 26) (.cells #[.slice pn ln cn, .slice ps ls cs, .slice pa la ca] 26) (.cells #[.bool false, .int .i64 4, .bool true, .int .i64 2, .bool false, .int .i64 0] 29)))).yields
  have hown := ownsRow_lit ((w.alloc (.cells #[.slice pn ln cn, .slice ps ls cs, .slice pa la ca] 26)).alloc (.cells #[.slice pn ln cn, .slice ps ls cs, .slice pa la ca] 26)) (w.heap.size + 2) 29 2 3 #[.bool false, .int .i64 4, .bool true, .int .i64 2, .bool false, .int .i64 0] (by simp) rfl (by decide)
  simp only [World.size_alloc] at hown
  go_enter Try.func3, Try.ntmps3
  go_wp2_with fail
  refine (heavy_out _ _ _ _ _ _ ss _ _ _ _ hs1 r1 r2).mono ?_
  rintro e w' ⟨b, rfl, hle, rfl⟩
  cases b
  · have hle' := hle rfl
    clear hle
    go_wp2_with (at_builtin; refine wpList_append_any rfl _ _ 24 rfl (w.heap.size + 2) 29 i0 (.agg #[.bool false, .int .i64 0]) 2 16 Try.underlying24 hi hz0 hz1 hz2 rfl (by decide) _ 3 _ rfl hown (fun h => by cases h) _ _ _ _ rfl hy ?_ ?_ ?_ ?_)
    · unfold maxLen; omega
    · omega
    · simp
    · intro v' w1 hown1 hgrow1 hne1
      obtain ⟨g, cap, rfl, hg1, hg2, hn3, hrow⟩ := ownsRow_cells hown1 hne1
      have hbel : Below (w.heap.size + 1) (w.alloc (.cells #[.slice pn ln cn, .slice ps ls cs, .slice pa la ca] 26)) w1 :=
        (((Below.refl _ _).alloc (by simp) _).alloc (by simp) _).grown hgrow1 (by simp) (fun k hk => by simp [Value.ownBlock] at hk; omega)
      have hbox : w1.cell? ⟨w.heap.size, 0, none⟩ = some (.slice pn ln cn) := (hbel.cell (p := ⟨w.heap.size, 0, none⟩) (by simp)).trans (by simp)
      clear hown hown1 hgrow1 hne1 hy
      obtain ⟨fa, hfa, hfc⟩ := lit_cells xa la h2.2.1
      have hrow' : ∀ i, i < 3 + la → w1.cell? ⟨g, 2 * i, none⟩ = some (.bool (fa.getD i (false, 0)).1) ∧ w1.cell? ⟨g, 2 * i + 1, none⟩ = some (.int .i64 (fa.getD i (false, 0)).2) := fun i hi =>
        ⟨hrow _ _ (by show (Value.bool false :: Value.int .i64 4 :: Value.bool true :: Value.int .i64 2 :: Value.bool false :: Value.int .i64 0 :: abiCells xa)[2 * i]? = _; rw [hfc]; exact (abiCells_get fa i (by omega)).1),
         hrow _ _ (by show (Value.bool false :: Value.int .i64 4 :: Value.bool true :: Value.int .i64 2 :: Value.bool false :: Value.int .i64 0 :: abiCells xa)[2 * i + 1]? = _; rw [hfc]; exact (abiCells_get fa i (by omega)).2)⟩
      clear hrow hfc hfa
      have HR := Lib.hid hrow'
      clear hrow'
      go_wp2_with fail
      go_loopw [4] (fun i wr => RelKind w1 i wr) (fun i _ => (12 - intOf i).toNat)
      case atStart => exact ⟨-1, by omega, by omega, rfl, Below.refl _ _⟩
      case round =>
        obtain ⟨k, hk1, hk2, rfl, hb⟩ := hrel
        have hsz : w1.heap.size ≤ wr.heap.size := hb.size
        by_cases hk3 : k ≤ 11
        · by_cases hk : 1 ≤ k ∧ k ≤ 6
          case' pos =>
            go_wp2_with fail
            refine (Width_yes _ hk _).mono ?_
            rintro e w' ⟨rfl, rfl⟩
            go_wp2_with fail
            refine (Signed_yes _ hk _).mono ?_
            rintro e w' ⟨rfl, rfl⟩
            have hwp := width_pos hk
            go_wp2_with fail
            refine (rWidth_any _ _).mono ?_
            rintro e w' ⟨rfl, rfl⟩
            go_wp2_with fail
            refine (rSigned_yes _ hk _).mono ?_
            rintro e w' ⟨rfl, rfl⟩
            have q1 : (widthI k != widthI k) = false := by simp
            have q2 : (signedB k != signedB k) = false := by simp
            go_wp2_with fail
            refine (num_any _ _).mono ?_
            rintro e w' ⟨rfl, rfl⟩
            go_wp2_with fail
            refine (rWidth_any _ _).mono ?_
            rintro e w' ⟨rfl, rfl⟩
            go_wp2_with fail
            refine (num_any _ _).mono ?_
            rintro e w' ⟨rfl, rfl⟩
            go_wp2_with fail
            clear q1 q2 hwp
          case' neg =>
            go_wp2_with fail
            refine (Width_no _ hk _).mono ?_
            rintro e w' ⟨rfl, rfl⟩
            go_wp2_with fail
            refine (Signed_no _ hk _).mono ?_
            rintro e w' ⟨rfl, rfl⟩
            have hwp := width_no hk
            go_wp2_with fail
            refine (rWidth_any _ _).mono ?_
            rintro e w' ⟨rfl, rfl⟩
            go_wp2_with fail
            refine (num_any _ _).mono ?_
            rintro e w' ⟨rfl, rfl⟩
            go_wp2_with fail
            refine (rWidth_any _ _).mono ?_
            rintro e w' ⟨rfl, rfl⟩
            go_wp2_with fail
            refine (num_any _ _).mono ?_
            rintro e w' ⟨rfl, rfl⟩
            go_wp2_with fail
            clear hwp
          all_goals
            obtain ⟨wo, rfl⟩ : ∃ wo : World, wo = wr := ⟨_, rfl⟩
            go_loopw [11] (fun i wr => RelAt wo (3 + la) i wr) (fun i _ => 8 - (intOf i).toNat)
            case atStart => exact ⟨0, by omega, by omega, rfl, Below.refl _ _⟩
            case round =>
              obtain ⟨j, hj1, hj2, rfl, hbj⟩ := hrel
              have hszj : wo.heap.size ≤ wr.heap.size := hbj.size
              have hg3 : g < wr.heap.size := by omega
              by_cases hj3 : j < 3 + la
              · by_cases hj4 : j < 8
                · have hj4d : decide ((j : Int) < 8) = true := by simp; omega
                  obtain ⟨hca, hcb⟩ := HR.out j hj3
                  generalize fa.getD j (false, 0) = f at *
                  obtain ⟨fb, fp⟩ := f
                  have hj3d : decide ((j : Int) < 3 + (la : Int)) = true := by simp; omega
                  have hca' : wr.cell? ⟨g, j * 2, none⟩ = some (.bool fb) := by rw [Nat.mul_comm]; exact (hbj.cell (p := ⟨g, 2 * j, none⟩) (by simp; omega)).trans ((hb.cell (p := ⟨g, 2 * j, none⟩) (by simp; omega)).trans hca)
                  have hcb' : wr.cell? ⟨g, j * 2 + 1, none⟩ = some (.int .i64 fp) := by rw [Nat.mul_comm]; exact (hbj.cell (p := ⟨g, 2 * j + 1, none⟩) (by simp; omega)).trans ((hb.cell (p := ⟨g, 2 * j + 1, none⟩) (by simp; omega)).trans hcb)
                  clear hca hcb
                  by_cases hp : abiB fp
                  · by_cases hq : 1 ≤ k ∧ k ≤ 7
                    · go_wp2_with fail
                      refine (Size_yes _ _ _ hp hq _).mono ?_
                      rintro e wa ⟨rfl, ha⟩
                      have hca1 := (ha.cell (p := ⟨g, j * 2, none⟩) hg3).trans hca'
                      have hcb1 := (ha.cell (p := ⟨g, j * 2 + 1, none⟩) hg3).trans hcb'
                      have hs1 := ha.size
                      have hg4 : g < wa.heap.size := by omega
                      clear hca' hcb'
                      go_wp2_with fail
                      refine (Abi_yes _ _ hp _).mono ?_
                      rintro e wb ⟨rfl, hb2⟩
                      have hca2 := (hb2.cell (p := ⟨g, j * 2, none⟩) hg4).trans hca1
                      have hcb2 := (hb2.cell (p := ⟨g, j * 2 + 1, none⟩) hg4).trans hcb1
                      have hs2 := hb2.size
                      clear hca1 hcb1
                      go_wp2_with fail
                      refine (Kind_yes _ hq _).mono ?_
                      rintro e w' ⟨rfl, rfl⟩
                      go_wp2_with fail
                      refine (rSize_yes _ _ _ hq _).mono ?_
                      rintro e wc ⟨rfl, hc2⟩
                      have hs3 := hc2.size
                      have q1 : (sizeI fp k != sizeI fp k) = false := by simp
                      go_wp2_with fail
                      refine (num_any _ _).mono ?_
                      rintro e w' ⟨rfl, rfl⟩
                      go_wp2_with fail
                      go_roundw
                      case rel => exact ⟨j + 1, by omega, by omega, by go_num, hbj.trans ((ha.mono hszj).trans ((hb2.mono (by omega)).trans (hc2.mono (by omega))))⟩
                      case measure => simp [intOf]; omega
                    · go_wp2_with fail
                      refine (Size_no_kind _ _ _ hp hq _).mono ?_
                      rintro e wa ⟨rfl, ha⟩
                      have hca1 := (ha.cell (p := ⟨g, j * 2, none⟩) hg3).trans hca'
                      have hcb1 := (ha.cell (p := ⟨g, j * 2 + 1, none⟩) hg3).trans hcb'
                      have hs1 := ha.size
                      clear hca' hcb'
                      go_wp2_with fail
                      refine (Abi_yes _ _ hp _).mono ?_
                      rintro e wb ⟨rfl, hb2⟩
                      have hs2 := hb2.size
                      go_wp2_with fail
                      refine (Kind_no _ hq _).mono ?_
                      rintro e w' ⟨rfl, rfl⟩
                      go_wp2_with fail
                      refine (num_any _ _).mono ?_
                      rintro e w' ⟨rfl, rfl⟩
                      go_wp2_with fail
                      go_roundw
                      case rel => exact ⟨j + 1, by omega, by omega, by go_num, hbj.trans ((ha.mono hszj).trans (hb2.mono (by omega)))⟩
                      case measure => simp [intOf]; omega
                  · go_wp2_with fail
                    refine (Size_no_abi _ _ _ hp _).mono ?_
                    rintro e wa ⟨rfl, ha⟩
                    have hca1 := (ha.cell (p := ⟨g, j * 2, none⟩) hg3).trans hca'
                    have hcb1 := (ha.cell (p := ⟨g, j * 2 + 1, none⟩) hg3).trans hcb'
                    have hs1 := ha.size
                    clear hca' hcb'
                    go_wp2_with fail
                    refine (Abi_no _ _ hp _).mono ?_
                    rintro e wb ⟨rfl, hb2⟩
                    have hs2 := hb2.size
                    go_wp2_with fail
                    refine (num_any _ _).mono ?_
                    rintro e w' ⟨rfl, rfl⟩
                    go_wp2_with fail
                    go_roundw
                    case rel => exact ⟨j + 1, by omega, by omega, by go_num, hbj.trans ((ha.mono hszj).trans (hb2.mono (by omega)))⟩
                    case measure => simp [intOf]; omega
                · have hj4d : decide ((j : Int) < 8) = false := by simp; omega
                  have hj3d : decide ((j : Int) < 3 + (la : Int)) = true := by simp; omega
                  go_wp2_with fail
                  go_roundw
                  case rel => exact ⟨k + 1, by omega, by omega, by go_num, hb.trans (hbj.mono hsz)⟩
                  case measure => simp [intOf]; omega
              · have hj3d : decide ((j : Int) < 3 + (la : Int)) = false := by simp; omega
                go_wp2_with fail
                go_roundw
                case rel => exact ⟨k + 1, by omega, by omega, by go_num, hb.trans (hbj.mono hsz)⟩
                case measure => simp [intOf]; omega
        · have hk3d : decide (k ≤ 11) = false := by simp; omega
          obtain ⟨j0, gi, gz0, gz1, gz2⟩ := info_parts Try.info3
          have hbw : Below w.heap.size w wr := hb1.trans ((hbel.mono (by simp)).trans (hb.mono (by have := hbel.size; simp at this; omega)))
          have hbs := hbel.size
          simp only [World.size_alloc] at hbs
          have hbox2 : wr.cell? ⟨w.heap.size, 0, none⟩ = some (.slice pn ln cn) := (hb.cell (p := ⟨w.heap.size, 0, none⟩) (by simp; omega)).trans hbox
          have hl1 : w.heap.size < wr.heap.size := by omega
          have hyn := ((hn.below hbw).below (below_alloc1 wr (.cells #[.int .i64 0, .int .i64 127, .int .i64 128, .int .i64 255, .int .i64 256, .int .i64 (-1), .int .i64 65535, .int .i64 2147483648, .int .i64 4294967295, .int .i64 4294967296, .int .i64 (-9223372036854775808)] 3))).yields hcn
          have hown2 := ownsRow_lit wr wr.heap.size 3 1 11 #[.int .i64 0, .int .i64 127, .int .i64 128, .int .i64 255, .int .i64 256, .int .i64 (-1), .int .i64 65535, .int .i64 2147483648, .int .i64 4294967295, .int .i64 4294967296, .int .i64 (-9223372036854775808)] (by omega) rfl (by decide)
          go_wp2_with (at_builtin; refine wpList_append_any rfl _ _ 22 rfl wr.heap.size 3 j0 (.int .i64 0) 1 8 Try.underlying22 gi gz0 gz1 gz2 rfl (by decide) _ 11 _ rfl hown2 (fun h => by cases h) _ _ _ _ rfl hyn ?_ ?_ ?_ ?_)
          · unfold maxLen; omega
          · omega
          · intro v2 w2 hown3 hgrow3 hne3
            obtain ⟨g2, cap2, rfl, hg5, hg6, hn5, hrow5⟩ := ownsRow_cells hown3 hne3
            have hbel2 : Below wr.heap.size wr w2 :=
              ((Below.refl _ _).alloc (by omega) _).grown hgrow3 (by simp) (fun k hk => by simp [Value.ownBlock] at hk; omega)
            have hrow6 : ∀ i, i < 11 + ln → w2.cell? ⟨g2, i, none⟩ = some (.int .i64 ((litNs ++ zs).getD i 0)) := fun i hi => hrow5 _ _ (by
              show (Value.int .i64 0 :: Value.int .i64 127 :: Value.int .i64 128 :: Value.int .i64 255 :: Value.int .i64 256 :: Value.int .i64 (-1) :: Value.int .i64 65535 :: Value.int .i64 2147483648 :: Value.int .i64 4294967295 :: Value.int .i64 4294967296 :: Value.int .i64 (-9223372036854775808) :: zs.map (Value.int .i64))[i]? = _
              rw [lit_ints, List.getElem?_map, List.getD_eq_getElem?_getD, List.getElem?_eq_getElem (by simp [litNs]; have := hn.2.1.1; omega)]; rfl)
            have HR2 := Lib.hid hrow6
            have hbw2 : Below w.heap.size w w2 := hbw.trans (hbel2.mono (by omega))
            clear hown2 hown3 hgrow3 hne3 hyn hrow6 hrow5
            go_wp2_with fail
            go_loopw [17] (fun i wr => RelNs w2 (11 + ln) i wr) (fun i _ => 30 - (intOf i).toNat)
            case atStart => exact ⟨0, by omega, by omega, rfl, Below.refl _ _⟩
            case round =>
              obtain ⟨m, hm1, hm2, rfl, hbm⟩ := hrel
              have hszm : w2.heap.size ≤ wr.heap.size := hbm.size
              by_cases hm3 : m < 11 + ln ∧ m < 30
              · have hm3d : decide ((m : Int) < 11 + (ln : Int)) = true := by simp; omega
                have hm4d : decide ((m : Int) < 30) = true := by simp; omega
                have hcN := (hbm.cell (p := ⟨g2, m, none⟩) hg6).trans (HR2.out m hm3.1)
                generalize (litNs ++ zs).getD m 0 = N at *
                obtain ⟨hm4, hm5⟩ := hm3
                go_wp2_with fail
                obtain ⟨wo, rfl⟩ : ∃ wo : World, wo = wr := ⟨_, rfl⟩
                go_loopw [18] (fun i wr => RelW wo i wr) (fun i _ => (5 - intOf i).toNat)
                case atStart => exact ⟨0, by omega, by omega, rfl, Below.refl _ _⟩
                case round =>
                  obtain ⟨k2, hk4, hk5, rfl, hbj⟩ := hrel
                  have hszj : wo.heap.size ≤ wr.heap.size := hbj.size
                  have hcNj := (hbj.cell (p := ⟨g2, m, none⟩) (by simp; omega)).trans hcN
                  have hl2 : g2 < wr.heap.size := by omega
                  clear hcN
                  rcases (show k2 = 0 ∨ k2 = 1 ∨ k2 = 2 ∨ k2 = 3 ∨ k2 = 4 ∨ k2 = 5 by omega) with rfl | rfl | rfl | rfl | rfl | rfl
                  · by_cases hN : isN N 8
                    · have q1 : (wrapI N 8 != wrapI N 8) = false := by simp
                      have q2 : (viewI N 8 != viewI N 8) = false := by simp
                      go_wp2_with fail
                      refine (wrap_yes _ _ (by decide) _).mono ?_
                      rintro e w' ⟨rfl, rfl⟩
                      go_wp2_with fail
                      refine (view_yes _ _ (by decide) hN.1 hN.2 _).mono ?_
                      rintro e w' ⟨rfl, rfl⟩
                      go_wp2_with fail
                      refine (rIsWidth_yes _ (by unfold isW; decide) _).mono ?_
                      rintro e w' ⟨rfl, rfl⟩
                      go_wp2_with fail
                      refine (rWrap_any _ _ (by unfold isW; decide) _).mono ?_
                      rintro e w' ⟨rfl, rfl⟩
                      go_wp2_with fail
                      refine (rNumber_yes _ _ (by unfold isW; decide) hN _).mono ?_
                      rintro e w' ⟨rfl, rfl⟩
                      go_wp2_with fail
                      refine (rView_any _ _ (by unfold isW; decide) hN _).mono ?_
                      rintro e w' ⟨rfl, rfl⟩
                      go_wp2_with fail
                      refine (num_any _ _).mono ?_
                      rintro e w' ⟨rfl, rfl⟩
                      go_wp2_with fail
                      refine (num_any _ _).mono ?_
                      rintro e w' ⟨rfl, rfl⟩
                      go_wp2_with fail
                      go_roundw
                      case rel => exact ⟨_, by omega, by omega, rfl, hbj.trans ((Below.refl _ _).alloc hszj _)⟩
                      case measure => simp [intOf]
                    · have q1 : (wrapI N 8 != wrapI N 8) = false := by simp
                      go_wp2_with fail
                      refine (wrap_yes _ _ (by decide) _).mono ?_
                      rintro e w' ⟨rfl, rfl⟩
                      go_wp2_with fail
                      refine (View_no_n _ _ (by unfold isW; decide) hN _).mono ?_
                      rintro e w' ⟨rfl, rfl⟩
                      go_wp2_with fail
                      refine (rIsWidth_yes _ (by unfold isW; decide) _).mono ?_
                      rintro e w' ⟨rfl, rfl⟩
                      go_wp2_with fail
                      refine (rWrap_any _ _ (by unfold isW; decide) _).mono ?_
                      rintro e w' ⟨rfl, rfl⟩
                      go_wp2_with fail
                      refine (rNumber_no _ _ (by unfold isW; decide) hN _).mono ?_
                      rintro e w' ⟨rfl, rfl⟩
                      go_wp2_with fail
                      refine (num_any _ _).mono ?_
                      rintro e w' ⟨rfl, rfl⟩
                      go_wp2_with fail
                      refine (num_any _ _).mono ?_
                      rintro e w' ⟨rfl, rfl⟩
                      go_wp2_with fail
                      go_roundw
                      case rel => exact ⟨_, by omega, by omega, rfl, hbj.trans ((Below.refl _ _).alloc hszj _)⟩
                      case measure => simp [intOf]
                  · by_cases hN : isN N 16
                    · have q1 : (wrapI N 16 != wrapI N 16) = false := by simp
                      have q2 : (viewI N 16 != viewI N 16) = false := by simp
                      go_wp2_with fail
                      refine (wrap_yes _ _ (by decide) _).mono ?_
                      rintro e w' ⟨rfl, rfl⟩
                      go_wp2_with fail
                      refine (view_yes _ _ (by decide) hN.1 hN.2 _).mono ?_
                      rintro e w' ⟨rfl, rfl⟩
                      go_wp2_with fail
                      refine (rIsWidth_yes _ (by unfold isW; decide) _).mono ?_
                      rintro e w' ⟨rfl, rfl⟩
                      go_wp2_with fail
                      refine (rWrap_any _ _ (by unfold isW; decide) _).mono ?_
                      rintro e w' ⟨rfl, rfl⟩
                      go_wp2_with fail
                      refine (rNumber_yes _ _ (by unfold isW; decide) hN _).mono ?_
                      rintro e w' ⟨rfl, rfl⟩
                      go_wp2_with fail
                      refine (rView_any _ _ (by unfold isW; decide) hN _).mono ?_
                      rintro e w' ⟨rfl, rfl⟩
                      go_wp2_with fail
                      refine (num_any _ _).mono ?_
                      rintro e w' ⟨rfl, rfl⟩
                      go_wp2_with fail
                      refine (num_any _ _).mono ?_
                      rintro e w' ⟨rfl, rfl⟩
                      go_wp2_with fail
                      go_roundw
                      case rel => exact ⟨_, by omega, by omega, rfl, hbj.trans ((Below.refl _ _).alloc hszj _)⟩
                      case measure => simp [intOf]
                    · have q1 : (wrapI N 16 != wrapI N 16) = false := by simp
                      go_wp2_with fail
                      refine (wrap_yes _ _ (by decide) _).mono ?_
                      rintro e w' ⟨rfl, rfl⟩
                      go_wp2_with fail
                      refine (View_no_n _ _ (by unfold isW; decide) hN _).mono ?_
                      rintro e w' ⟨rfl, rfl⟩
                      go_wp2_with fail
                      refine (rIsWidth_yes _ (by unfold isW; decide) _).mono ?_
                      rintro e w' ⟨rfl, rfl⟩
                      go_wp2_with fail
                      refine (rWrap_any _ _ (by unfold isW; decide) _).mono ?_
                      rintro e w' ⟨rfl, rfl⟩
                      go_wp2_with fail
                      refine (rNumber_no _ _ (by unfold isW; decide) hN _).mono ?_
                      rintro e w' ⟨rfl, rfl⟩
                      go_wp2_with fail
                      refine (num_any _ _).mono ?_
                      rintro e w' ⟨rfl, rfl⟩
                      go_wp2_with fail
                      refine (num_any _ _).mono ?_
                      rintro e w' ⟨rfl, rfl⟩
                      go_wp2_with fail
                      go_roundw
                      case rel => exact ⟨_, by omega, by omega, rfl, hbj.trans ((Below.refl _ _).alloc hszj _)⟩
                      case measure => simp [intOf]
                  · by_cases hN : isN N 32
                    · have q1 : (wrapI N 32 != wrapI N 32) = false := by simp
                      have q2 : (viewI N 32 != viewI N 32) = false := by simp
                      go_wp2_with fail
                      refine (wrap_yes _ _ (by decide) _).mono ?_
                      rintro e w' ⟨rfl, rfl⟩
                      go_wp2_with fail
                      refine (view_yes _ _ (by decide) hN.1 hN.2 _).mono ?_
                      rintro e w' ⟨rfl, rfl⟩
                      go_wp2_with fail
                      refine (rIsWidth_yes _ (by unfold isW; decide) _).mono ?_
                      rintro e w' ⟨rfl, rfl⟩
                      go_wp2_with fail
                      refine (rWrap_any _ _ (by unfold isW; decide) _).mono ?_
                      rintro e w' ⟨rfl, rfl⟩
                      go_wp2_with fail
                      refine (rNumber_yes _ _ (by unfold isW; decide) hN _).mono ?_
                      rintro e w' ⟨rfl, rfl⟩
                      go_wp2_with fail
                      refine (rView_any _ _ (by unfold isW; decide) hN _).mono ?_
                      rintro e w' ⟨rfl, rfl⟩
                      go_wp2_with fail
                      refine (num_any _ _).mono ?_
                      rintro e w' ⟨rfl, rfl⟩
                      go_wp2_with fail
                      refine (num_any _ _).mono ?_
                      rintro e w' ⟨rfl, rfl⟩
                      go_wp2_with fail
                      go_roundw
                      case rel => exact ⟨_, by omega, by omega, rfl, hbj.trans ((Below.refl _ _).alloc hszj _)⟩
                      case measure => simp [intOf]
                    · have q1 : (wrapI N 32 != wrapI N 32) = false := by simp
                      go_wp2_with fail
                      refine (wrap_yes _ _ (by decide) _).mono ?_
                      rintro e w' ⟨rfl, rfl⟩
                      go_wp2_with fail
                      refine (View_no_n _ _ (by unfold isW; decide) hN _).mono ?_
                      rintro e w' ⟨rfl, rfl⟩
                      go_wp2_with fail
                      refine (rIsWidth_yes _ (by unfold isW; decide) _).mono ?_
                      rintro e w' ⟨rfl, rfl⟩
                      go_wp2_with fail
                      refine (rWrap_any _ _ (by unfold isW; decide) _).mono ?_
                      rintro e w' ⟨rfl, rfl⟩
                      go_wp2_with fail
                      refine (rNumber_no _ _ (by unfold isW; decide) hN _).mono ?_
                      rintro e w' ⟨rfl, rfl⟩
                      go_wp2_with fail
                      refine (num_any _ _).mono ?_
                      rintro e w' ⟨rfl, rfl⟩
                      go_wp2_with fail
                      refine (num_any _ _).mono ?_
                      rintro e w' ⟨rfl, rfl⟩
                      go_wp2_with fail
                      go_roundw
                      case rel => exact ⟨_, by omega, by omega, rfl, hbj.trans ((Below.refl _ _).alloc hszj _)⟩
                      case measure => simp [intOf]
                  · go_wp2_with fail
                    refine (Wrap_no _ _ (by unfold isW; decide) _).mono ?_
                    rintro e w' ⟨rfl, rfl⟩
                    go_wp2_with fail
                    refine (View_no_w _ _ (by unfold isW; decide) _).mono ?_
                    rintro e w' ⟨rfl, rfl⟩
                    go_wp2_with fail
                    refine (rIsWidth_no _ (by unfold isW; decide) _).mono ?_
                    rintro e w' ⟨rfl, rfl⟩
                    go_wp2_with fail
                    refine (num_any _ _).mono ?_
                    rintro e w' ⟨rfl, rfl⟩
                    go_wp2_with fail
                    refine (num_any _ _).mono ?_
                    rintro e w' ⟨rfl, rfl⟩
                    go_wp2_with fail
                    go_roundw
                    case rel => exact ⟨_, by omega, by omega, rfl, hbj.trans ((Below.refl _ _).alloc hszj _)⟩
                    case measure => simp [intOf]
                  · go_wp2_with fail
                    refine (Wrap_no _ _ (by unfold isW; decide) _).mono ?_
                    rintro e w' ⟨rfl, rfl⟩
                    go_wp2_with fail
                    refine (View_no_w _ _ (by unfold isW; decide) _).mono ?_
                    rintro e w' ⟨rfl, rfl⟩
                    go_wp2_with fail
                    refine (rIsWidth_no _ (by unfold isW; decide) _).mono ?_
                    rintro e w' ⟨rfl, rfl⟩
                    go_wp2_with fail
                    refine (num_any _ _).mono ?_
                    rintro e w' ⟨rfl, rfl⟩
                    go_wp2_with fail
                    refine (num_any _ _).mono ?_
                    rintro e w' ⟨rfl, rfl⟩
                    go_wp2_with fail
                    go_roundw
                    case rel => exact ⟨_, by omega, by omega, rfl, hbj.trans ((Below.refl _ _).alloc hszj _)⟩
                    case measure => simp [intOf]
                  · go_wp2_with fail
                    go_roundw
                    case rel => exact ⟨m + 1, by omega, by omega, by go_num, hbm.trans (hbj.mono hszm)⟩
                    case measure => simp [intOf]; omega
              · have hend : Below w.heap.size w wr := hbw2.trans (hbm.mono (by omega))
                by_cases hm4 : m < 11 + ln
                · have hm3d : decide ((m : Int) < 11 + (ln : Int)) = true := by simp; omega
                  have hm4d : decide ((m : Int) < 30) = false := by simp; omega
                  go_wp2_with fail
                  refine (wakes_any _).mono ?_
                  rintro e w' ⟨rfl, rfl⟩
                  go_wp2_with fail
                  go_ret
                  exact ⟨rfl, hend⟩
                · have hm3d : decide ((m : Int) < 11 + (ln : Int)) = false := by simp; omega
                  go_wp2_with fail
                  refine (wakes_any _).mono ?_
                  rintro e w' ⟨rfl, rfl⟩
                  go_wp2_with fail
                  go_ret
                  exact ⟨rfl, hend⟩
  · go_wp2_with fail
    go_ret
    exact ⟨rfl, (hb1.trans ((Below.refl _ _).alloc (by simp) _))⟩

end Go.Proofs.Ytlefbaekloinhaa
