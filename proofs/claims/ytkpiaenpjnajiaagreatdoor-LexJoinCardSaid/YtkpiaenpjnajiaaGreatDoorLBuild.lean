/- strings.Builder, made by the call: a byte, a text written. (The library's laying stands on copyCheck's panic, which this translation refuses: so its two writes are walked here, by the library's own words on a builder.) -/
import Derived.Test.YtkpiaenpjnajiaaGreatDoorLSmall
import Derived.Test.YtkpiaenpjnajiaaGreatDoorLShelf
import Derived.Laws.AppendOwn
namespace Go.Proofs.YtkpiaenpjnajiaaGreatDoor
open Go.ChangeShapes Go.WideShapes Go.ChangeAt Go.RowKit Go.Joins Go.Deep
set_option linter.unusedVariables false

abbrev IsBd (b : Nat) (bs : List Value) (w : World) : Prop := Lib.IsBuilder 78 5 b b bs w
theorem info_bd : (Tryz.prog.info? 78).map (·.size) = some 2 := by kernel_rfl
theorem info_byte : (Tryz.prog.info? 5).map (fun i => (i.zero, i.size, i.bytes)) = some (some (.int .u8 0), 1, 1) := by kernel_rfl
theorem lies_bd : liesAt Tryz.prog Tryz.prog.depth 78 (2 / Tryz.prog.cellsOf 78) 0 78 1 = true := by kernel_rfl
set_option maxRecDepth 100000 in
set_option maxHeartbeats 1000000 in
theorem check_any (B b : Nat) (bs : List Value) (w : World) (h : Lib.IsBuilder 78 5 B b bs w) :
    Calls Tryz.prog 42 #[.pointer (some ⟨b, 0, none⟩)] w fun e w' => e = .returned (.tuple #[]) ∧ Lib.BuilderAt 78 5 B b (.pointer (some ⟨b, 0, none⟩)) bs w' ∧ Below B w w' := by
  obtain ⟨j, hj, hjs⟩ := Option.map_eq_some_iff.1 info_bd
  rcases h with h | h
  · have h0 := h.cell0
    have hsh := h.shape
    have hfz := h.frozen0
    have fin := h.used (.pointer (some ⟨b, 0, none⟩))
    have fb : Below B w (w.setCell ⟨b, 0, none⟩ (.pointer (some ⟨b, 0, none⟩))) := (Below.refl B w).setCell (p := ⟨b, 0, none⟩) h.1 _
    have k1 := Lib.run_to_unsafe (P := Tryz.prog) w (src := 76) (dst := 99) ⟨b, 0, none⟩ Tryz.underlying76 Tryz.underlying99 hj (by rw [hjs]; decide) hsh (Nat.zero_lt_succ 1)
    have k2 := Lib.run_from_unsafe (P := Tryz.prog) w (src := 99) (dst := 76) ⟨b, 0, none⟩ Tryz.underlying99 Tryz.underlying76 hj hsh lies_bd
    have k3 := run_callFunc_extern (P := Tryz.prog) (w := w) (args := #[.pointer (some ⟨b, 0, none⟩)]) Tryz.func61 (by kernel_rfl) (by kernel_rfl) (by kernel_rfl) (e := Extern.AbiNoEscape.same) (by kernel_rfl)
    have FIN := Lib.hid fin
    have FB := Lib.hid fb
    clear h fin fb
    have k4 := Lib.run_neq_ptr_same (P := Tryz.prog) (w.setCell ⟨b, 0, none⟩ (.pointer (some ⟨b, 0, none⟩))) (tp := 76) ⟨b, 0, none⟩ Tryz.underlying76 hj
    have k5 := Lib.run_neq_ptr_same (P := Tryz.prog) w (tp := 76) ⟨b, 0, none⟩ Tryz.underlying76 hj
    rw [Lib.run_noEscape] at k3
    go_enter Tryz.func42, Tryz.ntmps42
    go_wp2
    go_end0
    exact ⟨rfl, FIN.out, FB.out⟩
  · have h0 := h.cell0
    have k5 := Lib.run_neq_ptr_same (P := Tryz.prog) w (tp := 76) ⟨b, 0, none⟩ Tryz.underlying76 hj
    have FIN := Lib.hid h
    clear h
    go_enter Tryz.func42, Tryz.ntmps42
    go_wp2
    go_end0
    exact ⟨rfl, FIN.out, Below.refl B _⟩
set_option maxRecDepth 100000 in
set_option maxHeartbeats 1000000 in
theorem writeByte_any (B b : Nat) (bs : List Value) (c : Int) (w : World) (h : Lib.IsBuilder 78 5 B b bs w) (hlen : bs.length + 1 ≤ 140737488355328) (hBw : B ≤ w.heap.size) :
    Calls Tryz.prog 30 #[.pointer (some ⟨b, 0, none⟩), .int .u8 c] w fun e w' => e = .returned .nilIface ∧ Lib.BuilderAt 78 5 B b (.pointer (some ⟨b, 0, none⟩)) (bs ++ [.int .u8 c]) w' ∧ Below B w w' := by
  obtain ⟨i0, hi, hz0, hz1, hz2⟩ := info_parts info_byte
  have cC := check_any B b bs w h
  have hm1 : bs.length + 1 ≤ maxLen := by unfold maxLen; omega
  clear h
  go_enter Tryz.func30, Tryz.ntmps30
  go_wp2_with fail
  refine cC.mono ?_
  rintro e w1 ⟨rfl, h1, hb1⟩
  obtain ⟨hB, v, hbk, hown, hne⟩ := h1
  have c1 : w1.cell? ⟨b, 1, none⟩ = some v := by rw [Lib.cell_of_heap hbk]; rfl
  have hs1 := hb1.size
  have hlt : b < w1.heap.size := At.lt (show At w1 b _ _ from hbk)
  have hown2 := hown.alloc (.cells #[.int .u8 c] 5)
  have hbk2 : At (w1.alloc (.cells #[.int .u8 c] 5)) b #[.pointer (some ⟨b, 0, none⟩), v] 78 := At.alloc hbk _
  clear cC
  go_wp2_with (at_builtin; refine wpList_append_own _ rfl _ _ 42 rfl B 5 i0 (.int .u8 0) 1 1 Tryz.underlying42 hi hz0 hz1 hz2 rfl (by decide) _ _ _ rfl hown2 ⟨w1.heap.size, 0, none⟩ 1 1 [.int .u8 c] rfl rfl ?c1 ?c2 ?c3 ?c4 ?c5 ?_)
  case c1 =>
    intro j u hj
    match j, hj with
    | 0, hj => simp at hj; subst hj; simp [Addr.add]
  case c2 => intro u hu; simp at hu; subst hu; rfl
  case c3 => exact hm1
  case c4 => omega
  case c5 => simp; omega
  intro v' w2 hown' hgrow _
  have hb2 : At w2 b #[.pointer (some ⟨b, 0, none⟩), v] 78 := (hgrow.block b hbk2.lt (fun e => hne e.symm)).trans hbk2
  have f1 := At.free hb2 1
  have d1 : w2.cell? ⟨b, 1, none⟩ = some v := hb2.cell 1 rfl
  have fin1 : Lib.BuilderAt 78 5 B b (.pointer (some ⟨b, 0, none⟩)) (bs ++ [.int .u8 c]) (w2.setCell ⟨b, 1, none⟩ v') := Lib.BuilderAt.put (T := 78) (e := 5) hB hb2 (bs' := bs ++ [.int .u8 c]) (by simpa using hown') (by decide)
  have fin2 : Below B w (w2.setCell ⟨b, 1, none⟩ v') := ((hb1.alloc (by omega) _).grown hgrow (by simp; omega) (fun k hk => (hown.lt k hk).1)).setCell (p := ⟨b, 1, none⟩) hB _
  obtain ⟨g, cap, rfl⟩ : ∃ g cap, v' = .slice (some ⟨g, 0, none⟩) (bs.length + 1) cap := by
    rcases hown'.2 with ⟨_, h0⟩ | ⟨g, cap, cur, hv, _⟩
    · omega
    · exact ⟨g, cap, hv⟩
  have F1 := Lib.hid fin1
  have F2 := Lib.hid fin2
  clear fin1 fin2 hown hown' hgrow hbk hbk2 hown2
  go_wp2
  go_ret
  exact ⟨rfl, F1.out, F2.out⟩
set_option maxRecDepth 100000 in
set_option maxHeartbeats 1000000 in
theorem writeString_any (B b : Nat) (bs : List Value) (s : ByteArray) (w : World) (h : Lib.IsBuilder 78 5 B b bs w) (hlen : bs.length + s.size ≤ 140737488355328) (hBw : B ≤ w.heap.size) :
    Calls Tryz.prog 31 #[.pointer (some ⟨b, 0, none⟩), .string s] w fun e w' => e = .returned (.tuple #[.int .i64 s.size, .nilIface]) ∧ Lib.BuilderAt 78 5 B b (.pointer (some ⟨b, 0, none⟩)) (bs ++ Lib.strCells s) w' ∧ Below B w w' := by
  obtain ⟨i0, hi, hz0, hz1, hz2⟩ := info_parts info_byte
  have cC := check_any B b bs w h
  have hm1 : bs.length + s.size ≤ maxLen := by unfold maxLen; omega
  clear h
  go_enter Tryz.func31, Tryz.ntmps31
  go_wp2_with fail
  refine cC.mono ?_
  rintro e w1 ⟨rfl, h1, hb1⟩
  obtain ⟨hB, v, hbk, hown, hne⟩ := h1
  have c1 : w1.cell? ⟨b, 1, none⟩ = some v := by rw [Lib.cell_of_heap hbk]; rfl
  have hs1 := hb1.size
  have hbk2 : At w1 b #[.pointer (some ⟨b, 0, none⟩), v] 78 := hbk
  clear cC
  go_wp2_with (at_builtin; refine Lib.wpList_append_own_string _ rfl _ _ 42 9 rfl B 5 i0 Tryz.underlying42 Tryz.underlying9 hi hz0 hz1 hz2 _ _ _ rfl hown s rfl ?c3 ?c4 ?c5 ?_)
  case c3 => exact hm1
  case c4 => omega
  case c5 => omega
  intro v' w2 hown' hgrow _
  have hb2 : At w2 b #[.pointer (some ⟨b, 0, none⟩), v] 78 := (hgrow.block b hbk2.lt (fun e => hne e.symm)).trans hbk2
  have f1 := At.free hb2 1
  have d1 : w2.cell? ⟨b, 1, none⟩ = some v := hb2.cell 1 rfl
  have fin1 : Lib.BuilderAt 78 5 B b (.pointer (some ⟨b, 0, none⟩)) (bs ++ Lib.strCells s) (w2.setCell ⟨b, 1, none⟩ v') := Lib.BuilderAt.put (T := 78) (e := 5) hB hb2 (bs' := bs ++ Lib.strCells s) (by simpa [Lib.strCells_length] using hown') (by decide)
  have fin2 : Below B w (w2.setCell ⟨b, 1, none⟩ v') := (hb1.grown hgrow (by omega) (fun k hk => (hown.lt k hk).1)).setCell (p := ⟨b, 1, none⟩) hB _
  obtain ⟨ao, n', cap, rfl⟩ : ∃ ao n' cap, v' = .slice ao n' cap := by
    rcases hown'.2 with ⟨hv, _⟩ | ⟨g, cap, cur, hv, _⟩
    · exact ⟨_, _, _, hv⟩
    · exact ⟨_, _, _, hv⟩
  have F1 := Lib.hid fin1
  have F2 := Lib.hid fin2
  clear fin1 fin2 hown hown' hgrow hbk hbk2
  go_wp2
  go_ret2
  exact ⟨rfl, F1.out, F2.out⟩
end Go.Proofs.YtkpiaenpjnajiaaGreatDoor
