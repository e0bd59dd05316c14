/- LexBytes: the statement's walk. -/
import Derived.Test.YtkpiaenpjnajiaaDoorLToks
import Derived.Laws.IdiomStrings
import Derived.Deep.Cut
import Derived.Deep.CutRange
namespace Go.Proofs.YtkpiaenpjnajiaaDoor
open Go.ChangeShapes Go.WideShapes Go.ChangeAt Go.RowKit Go.Joins Go.Deep
set_option linter.unusedVariables false

def oneB (b : Nat) : ByteArray := ⟨#[UInt8.ofNat b]⟩
theorem one_size (b : Nat) : (oneB b).size = 1 := rfl
theorem run_one (b : Nat) (hb : b < 256) (w : World) : (convert 26 9 (.slice (some ⟨w.heap.size, 0, none⟩) 1 1)).run Tryd.prog (w.alloc (.cells #[.int .u8 (b : Nat)] 5)) = .ok (.string (oneB b)) (w.alloc (.cells #[.int .u8 (b : Nat)] 5)) := by
  exact run_convert_bytes_back (P := Tryd.prog) (w.alloc (.cells #[.int .u8 (b : Nat)] 5)) 26 9 5 ⟨w.heap.size, 0, none⟩ 1 [UInt8.ofNat b] Tryd.underlying26 Tryd.underlying5 Tryd.underlying9 (fun j hj => by
    obtain rfl : j = 0 := by simpa using hj
    show (w.alloc _).cell? ⟨w.heap.size, 0, none⟩ = _
    rw [cell_of_block (At.new w _ _)]
    show some (Value.int .u8 (b : Int)) = some (.int .u8 ((UInt8.ofNat b).toNat : Int))
    rw [show (UInt8.ofNat b).toNat = b by simp; omega])
def textB (sb : ByteArray) (i : Nat) : ByteArray := if i = 0 then sb else if i = 1 then ⟨#[97]⟩ ++ sb else if i = 2 then ⟨#[49]⟩ ++ sb else if i = 3 then sb ++ sb else if i = 4 then sb ++ ⟨#[61]⟩ else if i = 5 then ⟨#[35]⟩ ++ sb ++ ⟨#[10]⟩ ++ sb else sb ++ ⟨#[97]⟩
def cellsB (sb : ByteArray) : Array Value := #[.string sb, .string (⟨#[97]⟩ ++ sb), .string (⟨#[49]⟩ ++ sb), .string (sb ++ sb), .string (sb ++ ⟨#[61]⟩), .string (⟨#[35]⟩ ++ sb ++ ⟨#[10]⟩ ++ sb), .string (sb ++ ⟨#[97]⟩)]
theorem cellB_get (sb : ByteArray) (i : Nat) (h : i < 7) : (cellsB sb)[i]? = some (.string (textB sb i)) := by
  match i, h with
  | 0, _ => rfl
  | 1, _ => rfl
  | 2, _ => rfl
  | 3, _ => rfl
  | 4, _ => rfl
  | 5, _ => rfl
  | 6, _ => rfl
  | n + 7, h => exact absurd h (by omega)
theorem textB_size (sb : ByteArray) (h : sb.size = 1) (i : Nat) : (textB sb i).size ≤ 10 := by
  have e (x : UInt8) : (⟨#[x]⟩ : ByteArray).size = 1 := rfl
  unfold textB
  repeat' split
  all_goals first
    | (rw [h]; decide)
    | (rw [ByteArray.size_append, h, e]; decide)
    | (rw [ByteArray.size_append, h]; decide)
    | (rw [ByteArray.size_append, ByteArray.size_append, ByteArray.size_append, h, e, e]; decide)
set_option maxRecDepth 100000 in
set_option maxHeartbeats 6400000 in
theorem lexbytes_any (pS pN : Option Addr) (lS cS lN cN : Nat) (w : World) :
    Calls Tryd.prog 3 #[.agg #[.slice pS lS cS, .slice pN lN cN]] w fun e w' => e = .returned (.bool true) ∧ Below w.heap.size w w' := by
  have cWk := wakes_any
  have cM := fun n w => num_any n w
  have hX0 := At.new w #[.slice pS lS cS, .slice pN lN cN] 25
  have hb0 : Below w.heap.size w (w.alloc (.cells #[.slice pS lS cS, .slice pN lN cN] 25)) := (Below.refl _ _).alloc (Nat.le_refl _) _
  have HX0 := Lib.hid hX0
  have HB0 := Lib.hid hb0
  clear hX0 hb0
  go_enter Tryd.func3, Tryd.ntmps3
  go_wp2_with fail
  go_loopw [3] (fun v wr => ∃ b : Nat, b ≤ 256 ∧ v = .int .i64 (b : Nat) ∧ At wr w.heap.size #[.slice pS lS cS, .slice pN lN cN] 25 ∧ Below w.heap.size w wr) (fun v _ => 256 - (intOf v).toNat)
  case atStart => exact ⟨0, by omega, rfl, HX0.out, HB0.out⟩
  case round =>
    clear HX0 HB0
    obtain ⟨b, hb256, rfl, hX, hb⟩ := hrel
    by_cases hlt : b < 256
    · have u1 : decide ((b : Int) < 256) = true := by simp; omega
      have hcv := run_one b hlt
      have hsz := one_size b
      generalize oneB b = sb at *
      clear cWk
      have hA0 := At.new (wr.alloc (.cells #[.int .u8 (b : Nat)] 5)) (cellsB sb) 9
      rw [show (wr.alloc (.cells #[.int .u8 (b : Nat)] 5)).heap.size = wr.heap.size + 1 by simp] at hA0
      have hX1 : At ((wr.alloc (.cells #[.int .u8 (b : Nat)] 5)).alloc (.cells (cellsB sb) 9)) w.heap.size #[.slice pS lS cS, .slice pN lN cN] 25 := (hX.alloc _).alloc _
      have hb1 : Below w.heap.size w ((wr.alloc (.cells #[.int .u8 (b : Nat)] 5)).alloc (.cells (cellsB sb) 9)) := (hb.alloc hb.size _).alloc (by have := hb.size; simp; omega) _
      have HX1 := Lib.hid hX1
      have HB1 := Lib.hid hb1
      have HA1 := Lib.hid hA0
      clear hX hA0 hX1 hb hb1
      unfold cellsB at HX1 HB1 HA1
      obtain ⟨wo, rfl⟩ : ∃ wo : World, wo = wr := ⟨_, rfl⟩
      go_wp2_with fail
      generalize (wo.alloc (.cells #[.int .u8 (b : Nat)] 5)).alloc (.cells #[.string sb, .string (⟨#[97]⟩ ++ sb), .string (⟨#[49]⟩ ++ sb), .string (sb ++ sb), .string (sb ++ ⟨#[61]⟩), .string (⟨#[35]⟩ ++ sb ++ ⟨#[10]⟩ ++ sb), .string (sb ++ ⟨#[97]⟩)] 9) = w1 at *
      clear hcv
      go_loopw [6] (fun v wz => ∃ i : Nat, i ≤ 7 ∧ v = .int .i64 (i : Nat) ∧ At wz w.heap.size #[.slice pS lS cS, .slice pN lN cN] 25 ∧ At wz (wo.heap.size + 1) (cellsB sb) 9 ∧ Below w.heap.size w wz) (fun v _ => 7 - (intOf v).toNat)
      case atStart => exact ⟨0, by omega, rfl, HX1.out, HA1.out, HB1.out⟩
      case round =>
        clear HX1 HB1 HA1
        obtain ⟨i, hi, rfl, hX, hA, hb⟩ := hrel
        by_cases hlt7 : i < 7
        · have u7 : decide ((i : Int) < 7) = true := by simp; omega
          have ci := hA.cell i (cellB_get sb i hlt7)
          have hxs := textB_size sb hsz i
          generalize textB sb i = x at *
          have cW := fun w => words_any x (by unfold maxLen; omega) w
          have cR := fun w => rWords_any x (by omega) w
          have hTl := tellW_len x.data.toList
          unfold WordsPost at cW
          unfold RWordsPost at cR
          generalize tellW x.data.toList = tw at *
          obtain ⟨T, at0, er⟩ := tw
          dsimp only at cW cR hTl
          go_wp2_with fail
          refine (cW _).mono ?_
          rintro e w2 ⟨fd, rfl, hR2, hb2⟩
          have c2 := cell_below ci hb2
          have k2 := hR2.toks (by omega)
          go_wp2_with fail
          refine (cR _).mono ?_
          rintro e w3 ⟨fd2, rfl, hR3, hb3⟩
          have k3 := k2.below hb3
          have l3 := hR3.toks (by omega)
          have bT : Below wr.heap.size wr w3 := hb2.trans (hb3.mono hb2.size)
          have hX3 := At.below' bT hX
          have hA3 := At.below' bT hA
          have b3 := hb.trans (bT.mono hb.size)
          have cE := eqToks_same fd fd2 T w3 k3 l3
          clear cW cR c2 k2 hR2 hR3 hb2 hb3 hX hA hb ci bT k3 l3
          have HX3 := Lib.hid hX3
          have HA3 := Lib.hid hA3
          have HB3 := Lib.hid b3
          clear hX3 hA3 b3
          go_wp2_with (go_at_call 6; (with_reducible refine (cM _ _).mono ?_); rintro e w' ⟨rfl, rfl⟩)
          refine cE.mono ?_
          rintro e w4 ⟨rfl, hb4⟩
          have hX4 := At.below' hb4 HX3.out
          have hA4 := At.below' hb4 HA3.out
          have b4 := HB3.out.trans (hb4.mono HB3.out.size)
          clear HX3 HA3 HB3 cE hb4
          go_wp2_with fail
          go_roundw
          case rel => exact ⟨i + 1, by omega, by go_num, hX4, hA4, b4⟩
          case measure => simp [intOf]; omega
        · obtain rfl : i = 7 := by omega
          clear hA
          go_wp2_with fail
          go_roundw
          case rel => exact ⟨b + 1, by omega, by go_num, hX, hb⟩
          case measure => simp [intOf]; omega
    · obtain rfl : b = 256 := by omega
      have x0 : wr.cell? ⟨w.heap.size, 0, none⟩ = some (.slice pS lS cS) := hX.cell 0 rfl
      clear hX
      go_wp2_with fail
      refine (cWk _).mono ?_
      rintro e w2 ⟨rfl, hb2⟩
      have b2 := hb.trans (hb2.mono hb.size)
      go_wp2_with fail
      go_ret
      exact ⟨rfl, b2⟩
end Go.Proofs.YtkpiaenpjnajiaaDoor
