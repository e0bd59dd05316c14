/- Package lex: a text that is cut: what its object holds, its place, what is behind. -/
import Derived.Test.YtkpiaenpjnajiaaGreatDoorLLong
import Derived.Test.YtkpiaenpjnajiaaGreatDoorVQuiet
import Derived.Deep.AppendLies
import Derived.Deep.RegionLaw
import Derived.Deep.RegionHeld3
namespace Go.Proofs.YtkpiaenpjnajiaaGreatDoor
open Go.ChangeShapes Go.WideShapes Go.ChangeAt Go.RowKit Go.Joins Go.Deep
set_option linter.unusedVariables false

def txtC (s : ByteArray) (dn st ps : Int) (fd : Value) : Array Value := #[.string s, .int .u32 dn, .int .i32 st, .int .u32 0, .int .i32 ps, fd]
def TxtAt (w : World) (tb : Nat) (s : ByteArray) (dn st ps : Int) (fd : Value) : Prop := At w tb (txtC s dn st ps fd) 65
theorem TxtAt.at {w : World} {tb : Nat} {s : ByteArray} {dn st ps : Int} {fd : Value} (h : TxtAt w tb s dn st ps fd) : At w tb (txtC s dn st ps fd) 65 := h
theorem At.below' {w w' : World} {b : Nat} {cs : Array Value} {t : TypeId} (hb : Below w.heap.size w w') (h : At w b cs t) : At w' b cs t := h.below hb h.lt
/-- what is left behind a place -/
def tailB (s : ByteArray) (k : Nat) : ByteArray := s.extract k s.size
theorem tail_list (s : ByteArray) (k : Nat) : (tailB s k).data.toList = s.data.toList.drop k := by
  unfold tailB
  rw [Lib.extract_data, List.take_of_length_le]
  rw [List.length_drop, len_text]
  exact Nat.le_refl _
theorem tail_size (s : ByteArray) (k : Nat) : (tailB s k).size = s.size - k := by rw [← len_text, tail_list, List.length_drop, len_text]
set_option maxRecDepth 100000 in
theorem ladd32 (rb off : Nat) (c n : Int) (hc : 0 ≤ c ∧ 0 ≤ n ∧ c + n ≤ 2000) (w : World) (h4 : w.cell? ⟨rb, off, none⟩ = some (.int .i32 c)) (f4 : w.frozen? ⟨rb, off, none⟩ = false) :
    Calls Tryz.prog 66 #[.pointer (some ⟨rb, off, none⟩), .int .i32 n] w fun e w' => e = .returned (.int .i32 (c + n)) ∧ w' = w.setCell ⟨rb, off, none⟩ (.int .i32 (c + n)) := by
  have iw : IntKind.i32.wrap (c + n) = c + n := by simp [IntKind.wrap, IntKind.bits, IntKind.signed]; omega
  have hadd := run_call_add (P := Tryz.prog) Tryz.func80 (by kernel_rfl) (by kernel_rfl) (by kernel_rfl) .i32 (by kernel_rfl) (y := n) (s := c + n) h4 f4 (by simp [go_sem, iw])
  go_enter Tryz.func66, Tryz.ntmps66
  go_wp2
  go_ret
  exact ⟨rfl, rfl⟩
set_option maxRecDepth 100000 in
theorem lload32 (rb off : Nat) (c : Int) (w : World) (h4 : w.cell? ⟨rb, off, none⟩ = some (.int .i32 c)) :
    Calls Tryz.prog 49 #[.pointer (some ⟨rb, off, none⟩)] w fun e w' => e = .returned (.int .i32 c) ∧ w = w' := by
  have hl := run_call_load (P := Tryz.prog) Tryz.func70 (by kernel_rfl) (by kernel_rfl) (by kernel_rfl) .i32 (by kernel_rfl) h4
  go_enter Tryz.func49, Tryz.ntmps49
  go_wp2
  go_ret
  exact ⟨rfl, rfl⟩
theorem lflip {P : Program} {f : Nat} {args : Array Value} {w : World} {E : Ending} (h : Calls P f args w fun e w' => e = E ∧ w = w') : Calls P f args w fun e w' => e = E ∧ w' = w :=
  h.mono fun _ _ ⟨a, b⟩ => ⟨a, b.symm⟩
theorem at_any (tb : Nat) (s : ByteArray) (dn st : Int) (ps : Nat) (fd : Value) (hp : ps ≤ 2000) (w : World) (h : TxtAt w tb s dn st ps fd) :
    Calls Tryz.prog 35 #[.pointer (some ⟨tb, 0, none⟩)] w fun e w' => e = .returned (.int .i64 (ps : Nat)) ∧ w = w' := by
  have cL := lload32 tb 4 ps w (h.at.cell 4 rfl)
  clear h
  go_enter Tryz.func35, Tryz.ntmps35
  go_wp2_with fail
  refine cL.mono ?_
  rintro e w' ⟨rfl, rfl⟩
  go_wp2
  go_ret
  exact ⟨rfl, rfl⟩
theorem rest_any (tb : Nat) (s : ByteArray) (dn st : Int) (ps : Nat) (fd : Value) (hp : ps ≤ 2000) (hs : ps ≤ s.size) (hm : s.size ≤ 2000) (w : World) (h : TxtAt w tb s dn st ps fd) :
    Calls Tryz.prog 47 #[.pointer (some ⟨tb, 0, none⟩)] w fun e w' => e = .returned (.string (tailB s ps)) ∧ Below w.heap.size w w' := by
  have cA := fun n => at_any tb s dn st ps fd hp (w.drewN n) (At.drewN h n)
  have c0 : w.cell? ⟨tb, 0, none⟩ = some (.string s) := h.at.cell 0 rfl
  have h0 : (0 : Int) ≤ (ps : Int) := by omega
  have h1 : (ps : Int) ≤ (s.size : Int) := by omega
  have h2 : ps ≤ s.size := hs
  have H := Lib.hid h
  clear h
  go_enter Tryz.func47, Tryz.ntmps47
  go_wp2
  go_quiet ((go_at_call 35; (with_reducible exact Calls.quiet_of_same (lflip (cA _)))))
  go_wp2
  go_ret
  exact ⟨rfl, ⟨rfl, rfl, rfl, Nat.le_refl _, fun _ _ => rfl⟩⟩
theorem pass_any (tb : Nat) (s : ByteArray) (dn st : Int) (ps n : Nat) (fd : Value) (hp : ps + n ≤ 2000) (w : World) (h : TxtAt w tb s dn st ps fd) :
    Calls Tryz.prog 45 #[.pointer (some ⟨tb, 0, none⟩), .int .i64 (n : Nat)] w fun e w' => e = .returned (.tuple #[]) ∧ TxtAt w' tb s dn st ((ps + n : Nat) : Int) fd ∧ (∀ b, b ≠ tb → w'.heap[b]? = w.heap[b]?) ∧ Below tb w w' := by
  have cA := ladd32 tb 4 (ps : Nat) (n : Nat) (by omega) w (h.at.cell 4 rfl) (At.free h.at 4)
  have e0 : (ps : Int) + (n : Int) = ((ps + n : Nat) : Int) := by omega
  rw [e0] at cA
  have fin : TxtAt (w.setCell ⟨tb, 4, none⟩ (.int .i32 ((ps + n : Nat) : Int))) tb s dn st ((ps + n : Nat) : Int) fd := At.set h.at 4 (.int .i32 ((ps + n : Nat) : Int)) (by simp [txtC])
  have hn : (n : Int) ≤ 2000 := by omega
  have F := Lib.hid fin
  clear fin h e0
  go_enter Tryz.func45, Tryz.ntmps45
  go_wp2_with fail
  refine cA.mono ?_
  rintro e w' ⟨rfl, rfl⟩
  go_wp2
  first | go_end0 | (simp only [Exit.inBlock, Exit.then]; refine bodyPost_ret (results_none rfl _ _ _) rfl ?_) | refine bodyPost_ret (results_none rfl _ _ _) rfl ?_
  exact ⟨rfl, F.out, fun b hb => Below.heap_setCell w ⟨tb, 4, none⟩ _ b hb, (Below.refl tb w).setCell (p := ⟨tb, 4, none⟩) (Nat.le_refl _) _⟩
theorem clone_any (s : ByteArray) (hs : s.size ≤ 281474976710656) (w : World) : Calls Tryz.prog 48 #[.string s] w fun e w' => e = .returned (.string s) ∧ Below w.heap.size w w' := by
  have cC := fun w => stringslite_Clone s w hs
  go_enter Tryz.func48, Tryz.ntmps48
  go_wp2_with fail
  refine (cC _).mono ?_
  rintro e w' ⟨rfl, hb⟩
  go_wp2
  go_ret
  exact ⟨rfl, hb⟩
/-- words in memory -/
def tokC (t : List UInt8 × Nat) : List Value := [.string ⟨t.1.toArray⟩, .int .i64 (t.2 : Nat)]
def RowT (base : Nat) (T : List (List UInt8 × Nat)) (v : Value) (w : World) : Prop := w.ownsRow base 41 2 v T.length (T.flatMap tokC)
theorem info_tok : (Tryz.prog.info? 41).map (fun i => (i.zero, i.size, i.bytes)) = some (some (.agg #[.string ⟨#[]⟩, .int .i64 0]), 2, 24) := by kernel_rfl
/-- the words from a place on, where one begins -/
def scanW (l : List UInt8) (a : Nat) : List (List UInt8 × Nat) × Nat :=
  if longN l = 0 then ([], a) else ((l.take (longN l), a) :: (scanL false (l.drop (longN l)) (a + longN l)).1, (scanL false (l.drop (longN l)) (a + longN l)).2)
theorem scanL_W (p : Bool) (l : List UInt8) (a : Nat) : scanL p l a = scanW (l.drop (gapN p l)) (a + gapN p l) := by
  unfold scanW
  by_cases h : longN (l.drop (gapN p l)) = 0
  · rw [if_pos h, scanL_none h]
  · rw [if_neg h, scanL_some rfl rfl (by omega), List.drop_drop]
def RelCut (tb : Nat) (s : ByteArray) (w0 : World) (v : Value) (wr : World) : Prop :=
  ∃ (ps : Nat) (T : List (List UInt8 × Nat)) (fd : Value), ps ≤ s.size ∧ v = .int .i64 (longN (s.data.toList.drop ps) : Nat) ∧ TxtAt wr tb s 0 1 ps fd ∧ RowT (tb + 1) T fd wr ∧ T.length ≤ ps ∧
    cutW s.data.toList = (T ++ (scanW (s.data.toList.drop ps) ps).1, (scanW (s.data.toList.drop ps) ps).2) ∧ Below tb w0 wr
def CutPost (tb : Nat) (s : ByteArray) (w : World) (e : Ending) (w' : World) : Prop :=
  e = .returned (.tuple #[]) ∧ ∃ fd, TxtAt w' tb s 0 1 ((cutW s.data.toList).2 : Nat) fd ∧ RowT (tb + 1) (cutW s.data.toList).1 fd w' ∧ Below tb w w'
end Go.Proofs.YtkpiaenpjnajiaaGreatDoor
