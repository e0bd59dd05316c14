/- A text of more bytes than may be: as many bytes 0. -/
import Derived.Test.YtkpiaenpjnajiaaGreatDoorLToks
import Derived.Laws.IdiomStrings
import Derived.Laws.MakeOwn
import Derived.Laws.OwnMore
namespace Go.Proofs.YtkpiaenpjnajiaaGreatDoor
open Go.ChangeShapes Go.WideShapes Go.ChangeAt Go.RowKit Go.Joins Go.Deep
set_option linter.unusedVariables false

def zerosB : ByteArray := ⟨(List.replicate 2001 (0 : UInt8)).toArray⟩
theorem rep_size (n : Nat) : (⟨(List.replicate n (0 : UInt8)).toArray⟩ : ByteArray).size = n := by show (List.replicate n (0 : UInt8)).toArray.size = n; rw [List.size_toArray, List.length_replicate]
theorem zeros_size : zerosB.size = 2001 := rep_size 2001
def mkW (w : World) : World := w.alloc (.cells (madeCells #[.int .u8 0] 2001) 5)
theorem info_u8 : (Tryz.prog.info? 5).map (fun i => (i.zero, i.size, i.bytes)) = some (some (.int .u8 0), 1, 1) := by kernel_rfl
theorem run_make2001 (w : World) : (Instr.makeSlice 42 (.int .i64 2001) (.int .i64 2001)).run Tryz.prog w = .ok (.slice (some ⟨w.heap.size, 0, none⟩) 2001 2001) (mkW w) := by
  obtain ⟨i0, hi, hz0, hz1, hz2⟩ := info_parts info_u8
  have := run_make (P := Tryz.prog) w 42 5 i0 _ Tryz.underlying42 hi hz0 .i64 .i64 2001 2001 (by decide) (by decide) (by rw [hz2]; decide) (by decide)
  rw [hz1] at this
  exact this
theorem made_get (n j : Nat) (h : j < n) : (madeCells #[.int .u8 0] n)[j]? = some (.int .u8 0) := by
  rw [← Array.getElem?_toList, toList_madeCells_one, List.getElem?_replicate, if_pos h]
def mkN (w : World) (n : Nat) : World := w.alloc (.cells (madeCells #[.int .u8 0] n) 5)
def zerosN (n : Nat) : ByteArray := ⟨(List.replicate n (0 : UInt8)).toArray⟩
theorem run_stringN (w : World) (n : Nat) : (convert 42 9 (.slice (some ⟨w.heap.size, 0, none⟩) n n)).run Tryz.prog (mkN w n) = .ok (.string (zerosN n)) (mkN w n) := by
  have := run_convert_bytes_back (P := Tryz.prog) (mkN w n) 42 9 5 ⟨w.heap.size, 0, none⟩ n (List.replicate n 0) Tryz.underlying42 Tryz.underlying5 Tryz.underlying9 (fun j hj => by
    have hj' : j < n := by simpa using hj
    have e : (⟨w.heap.size, 0, none⟩ : Addr).add j = ⟨w.heap.size, j, none⟩ := by unfold Addr.add; split <;> simp_all
    rw [e]
    unfold mkN
    rw [cell_of_block (At.new w _ _), made_get n j hj']
    simp)
  rw [List.length_replicate] at this
  exact this
theorem run_string2001 (w : World) : (convert 42 9 (.slice (some ⟨w.heap.size, 0, none⟩) 2001 2001)).run Tryz.prog (mkW w) = .ok (.string zerosB) (mkW w) := run_stringN w 2001
theorem zeros_tell : tellW zerosB.data.toList = ([], 0, 2) := by
  unfold tellW
  rw [if_pos (by rw [len_text, zeros_size]; decide)]
theorem mkW_below (w : World) : Below w.heap.size w (mkW w) := (Below.refl _ _).alloc (Nat.le_refl _) _
end Go.Proofs.YtkpiaenpjnajiaaGreatDoor
