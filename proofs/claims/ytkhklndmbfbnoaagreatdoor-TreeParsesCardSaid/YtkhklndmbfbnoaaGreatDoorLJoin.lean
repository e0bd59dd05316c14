/- strings.Builder, made by the call: a byte, a text written. (The library's laying stands on copyCheck's panic, which this translation refuses: so its two writes are walked here, by the library's own words on a builder.) -/
import Derived.Test.YtkhklndmbfbnoaaGreatDoorLSmall
import Derived.Test.YtkhklndmbfbnoaaGreatDoorLShelf
import Derived.Laws.AppendOwn
import Derived.Test.YtkhklndmbfbnoaaGreatDoorLText
namespace Go.Proofs.YtkhklndmbfbnoaaGreatDoor
open Go.ChangeShapes Go.WideShapes Go.ChangeAt Go.RowKit Go.Joins Go.Deep
set_option linter.unusedVariables false

abbrev IsBd (b : Nat) (bs : List Value) (w : World) : Prop := Lib.IsBuilder 138 5 b b bs w
theorem info_bd : (Tryz.prog.info? 138).map (·.size) = some 2 := by kernel_rfl
theorem info_byte : (Tryz.prog.info? 5).map (fun i => (i.zero, i.size, i.bytes)) = some (some (.int .u8 0), 1, 1) := by kernel_rfl
theorem lies_bd : liesAt Tryz.prog Tryz.prog.depth 138 (2 / Tryz.prog.cellsOf 138) 0 138 1 = true := by kernel_rfl
set_option maxRecDepth 100000 in
set_option maxHeartbeats 1000000 in
theorem check_any (B b : Nat) (bs : List Value) (w : World) (h : Lib.IsBuilder 138 5 B b bs w) :
    Calls Tryz.prog 128 #[.pointer (some ⟨b, 0, none⟩)] w fun e w' => e = .returned (.tuple #[]) ∧ Lib.BuilderAt 138 5 B b (.pointer (some ⟨b, 0, none⟩)) bs w' ∧ Below B w w' := by
  obtain ⟨j, hj, hjs⟩ := Option.map_eq_some_iff.1 info_bd
  rcases h with h | h
  · have h0 := h.cell0
    have hsh := h.shape
    have hfz := h.frozen0
    have fin := h.used (.pointer (some ⟨b, 0, none⟩))
    have fb : Below B w (w.setCell ⟨b, 0, none⟩ (.pointer (some ⟨b, 0, none⟩))) := (Below.refl B w).setCell (p := ⟨b, 0, none⟩) h.1 _
    have k1 := Lib.run_to_unsafe (P := Tryz.prog) w (src := 136) (dst := 168) ⟨b, 0, none⟩ Tryz.underlying136 Tryz.underlying168 hj (by rw [hjs]; decide) hsh (Nat.zero_lt_succ 1)
    have k2 := Lib.run_from_unsafe (P := Tryz.prog) w (src := 168) (dst := 136) ⟨b, 0, none⟩ Tryz.underlying168 Tryz.underlying136 hj hsh lies_bd
    have k3 := run_callFunc_extern (P := Tryz.prog) (w := w) (args := #[.pointer (some ⟨b, 0, none⟩)]) Tryz.func157 (by kernel_rfl) (by kernel_rfl) (by kernel_rfl) (e := Extern.AbiNoEscape.same) (by kernel_rfl)
    have FIN := Lib.hid fin
    have FB := Lib.hid fb
    clear h fin fb
    have k4 := Lib.run_neq_ptr_same (P := Tryz.prog) (w.setCell ⟨b, 0, none⟩ (.pointer (some ⟨b, 0, none⟩))) (tp := 136) ⟨b, 0, none⟩ Tryz.underlying136 hj
    have k5 := Lib.run_neq_ptr_same (P := Tryz.prog) w (tp := 136) ⟨b, 0, none⟩ Tryz.underlying136 hj
    rw [Lib.run_noEscape] at k3
    go_enter Tryz.func128, Tryz.ntmps128
    go_wp2
    go_end0
    exact ⟨rfl, FIN.out, FB.out⟩
  · have h0 := h.cell0
    have k5 := Lib.run_neq_ptr_same (P := Tryz.prog) w (tp := 136) ⟨b, 0, none⟩ Tryz.underlying136 hj
    have FIN := Lib.hid h
    clear h
    go_enter Tryz.func128, Tryz.ntmps128
    go_wp2
    go_end0
    exact ⟨rfl, FIN.out, Below.refl B _⟩
set_option maxRecDepth 100000 in
set_option maxHeartbeats 1000000 in
theorem writeByte_any (B b : Nat) (bs : List Value) (c : Int) (w : World) (h : Lib.IsBuilder 138 5 B b bs w) (hlen : bs.length + 1 ≤ 140737488355328) (hBw : B ≤ w.heap.size) :
    Calls Tryz.prog 99 #[.pointer (some ⟨b, 0, none⟩), .int .u8 c] w fun e w' => e = .returned .nilIface ∧ Lib.BuilderAt 138 5 B b (.pointer (some ⟨b, 0, none⟩)) (bs ++ [.int .u8 c]) w' ∧ Below B w w' := by
  obtain ⟨i0, hi, hz0, hz1, hz2⟩ := info_parts info_byte
  have cC := check_any B b bs w h
  have hm1 : bs.length + 1 ≤ maxLen := by unfold maxLen; omega
  clear h
  go_enter Tryz.func99, Tryz.ntmps99
  go_wp2_with fail
  refine cC.mono ?_
  rintro e w1 ⟨rfl, h1, hb1⟩
  obtain ⟨hB, v, hbk, hown, hne⟩ := h1
  have c1 : w1.cell? ⟨b, 1, none⟩ = some v := by rw [Lib.cell_of_heap hbk]; rfl
  have hs1 := hb1.size
  have hlt : b < w1.heap.size := At.lt (show At w1 b _ _ from hbk)
  have hown2 := hown.alloc (.cells #[.int .u8 c] 5)
  have hbk2 : At (w1.alloc (.cells #[.int .u8 c] 5)) b #[.pointer (some ⟨b, 0, none⟩), v] 138 := At.alloc hbk _
  clear cC
  go_wp2_with (at_builtin; refine wpList_append_own _ rfl _ _ 105 rfl B 5 i0 (.int .u8 0) 1 1 Tryz.underlying105 hi hz0 hz1 hz2 rfl (by decide) _ _ _ rfl hown2 ⟨w1.heap.size, 0, none⟩ 1 1 [.int .u8 c] rfl rfl ?c1 ?c2 ?c3 ?c4 ?c5 ?_)
  case c1 =>
    intro j u hj
    match j, hj with
    | 0, hj => simp at hj; subst hj; simp [Addr.add]
  case c2 => intro u hu; simp at hu; subst hu; rfl
  case c3 => exact hm1
  case c4 => omega
  case c5 => simp; omega
  intro v' w2 hown' hgrow _
  have hb2 : At w2 b #[.pointer (some ⟨b, 0, none⟩), v] 138 := (hgrow.block b hbk2.lt (fun e => hne e.symm)).trans hbk2
  have f1 := At.free hb2 1
  have d1 : w2.cell? ⟨b, 1, none⟩ = some v := hb2.cell 1 rfl
  have fin1 : Lib.BuilderAt 138 5 B b (.pointer (some ⟨b, 0, none⟩)) (bs ++ [.int .u8 c]) (w2.setCell ⟨b, 1, none⟩ v') := Lib.BuilderAt.put (T := 138) (e := 5) hB hb2 (bs' := bs ++ [.int .u8 c]) (by simpa using hown') (by decide)
  have fin2 : Below B w (w2.setCell ⟨b, 1, none⟩ v') := ((hb1.alloc (by omega) _).grown hgrow (by simp; omega) (fun k hk => (hown.lt k hk).1)).setCell (p := ⟨b, 1, none⟩) hB _
  obtain ⟨g, cap, rfl⟩ : ∃ g cap, v' = .slice (some ⟨g, 0, none⟩) (bs.length + 1) cap := by
    rcases hown'.2 with ⟨_, h0⟩ | ⟨g, cap, cur, hv, _⟩
    · omega
    · exact ⟨g, cap, hv⟩
  have F1 := Lib.hid fin1
  have F2 := Lib.hid fin2
  clear fin1 fin2 hown hown' hgrow hbk hbk2 hown2
  go_wp2
  go_ret
  exact ⟨rfl, F1.out, F2.out⟩
set_option maxRecDepth 100000 in
set_option maxHeartbeats 1000000 in
theorem writeString_any (B b : Nat) (bs : List Value) (s : ByteArray) (w : World) (h : Lib.IsBuilder 138 5 B b bs w) (hlen : bs.length + s.size ≤ 140737488355328) (hBw : B ≤ w.heap.size) :
    Calls Tryz.prog 100 #[.pointer (some ⟨b, 0, none⟩), .string s] w fun e w' => e = .returned (.tuple #[.int .i64 s.size, .nilIface]) ∧ Lib.BuilderAt 138 5 B b (.pointer (some ⟨b, 0, none⟩)) (bs ++ Lib.strCells s) w' ∧ Below B w w' := by
  obtain ⟨i0, hi, hz0, hz1, hz2⟩ := info_parts info_byte
  have cC := check_any B b bs w h
  have hm1 : bs.length + s.size ≤ maxLen := by unfold maxLen; omega
  clear h
  go_enter Tryz.func100, Tryz.ntmps100
  go_wp2_with fail
  refine cC.mono ?_
  rintro e w1 ⟨rfl, h1, hb1⟩
  obtain ⟨hB, v, hbk, hown, hne⟩ := h1
  have c1 : w1.cell? ⟨b, 1, none⟩ = some v := by rw [Lib.cell_of_heap hbk]; rfl
  have hs1 := hb1.size
  have hbk2 : At w1 b #[.pointer (some ⟨b, 0, none⟩), v] 138 := hbk
  clear cC
  go_wp2_with (at_builtin; refine Lib.wpList_append_own_string _ rfl _ _ 105 9 rfl B 5 i0 Tryz.underlying105 Tryz.underlying9 hi hz0 hz1 hz2 _ _ _ rfl hown s rfl ?c3 ?c4 ?c5 ?_)
  case c3 => exact hm1
  case c4 => omega
  case c5 => omega
  intro v' w2 hown' hgrow _
  have hb2 : At w2 b #[.pointer (some ⟨b, 0, none⟩), v] 138 := (hgrow.block b hbk2.lt (fun e => hne e.symm)).trans hbk2
  have f1 := At.free hb2 1
  have d1 : w2.cell? ⟨b, 1, none⟩ = some v := hb2.cell 1 rfl
  have fin1 : Lib.BuilderAt 138 5 B b (.pointer (some ⟨b, 0, none⟩)) (bs ++ Lib.strCells s) (w2.setCell ⟨b, 1, none⟩ v') := Lib.BuilderAt.put (T := 138) (e := 5) hB hb2 (bs' := bs ++ Lib.strCells s) (by simpa [Lib.strCells_length] using hown') (by decide)
  have fin2 : Below B w (w2.setCell ⟨b, 1, none⟩ v') := (hb1.grown hgrow (by omega) (fun k hk => (hown.lt k hk).1)).setCell (p := ⟨b, 1, none⟩) hB _
  obtain ⟨ao, n', cap, rfl⟩ : ∃ ao n' cap, v' = .slice ao n' cap := by
    rcases hown'.2 with ⟨hv, _⟩ | ⟨g, cap, cur, hv, _⟩
    · exact ⟨_, _, _, hv⟩
    · exact ⟨_, _, _, hv⟩
  have F1 := Lib.hid fin1
  have F2 := Lib.hid fin2
  clear fin1 fin2 hown hown' hgrow hbk hbk2
  go_wp2
  go_ret2
  exact ⟨rfl, F1.out, F2.out⟩
end Go.Proofs.YtkhklndmbfbnoaaGreatDoor

/- Words joined with a blank between: they are its words. Nothing here speaks of one translation. -/
namespace Go.Proofs.YtkhklndmbfbnoaaGreatDoor
set_option linter.unusedVariables false

def joinL : List (List UInt8) → List UInt8
  | [] => []
  | x :: r => if r.isEmpty then x else x ++ 32 :: joinL r
def allW (L : List (List UInt8)) : Bool := L.all wordB
theorem joinL_snoc : ∀ (L : List (List UInt8)) (x : List UInt8), joinL (L ++ [x]) = if L.isEmpty then x else joinL L ++ 32 :: x := by
  intro L x
  induction L with
  | nil => rfl
  | cons a r ih =>
    have e : (r ++ [x]).isEmpty = false := by cases r <;> rfl
    show (if (r ++ [x]).isEmpty then a else a ++ 32 :: joinL (r ++ [x])) = _
    rw [e, ih]
    cases r with
    | nil => rfl
    | cons b r => simp [joinL]
theorem runN_stop {p : UInt8 → Bool} : ∀ (x : List UInt8) (y : UInt8) (r : List UInt8), runN p x = x.length → p y = false → runN p (x ++ y :: r) = x.length := by
  intro x y r
  induction x with
  | nil => intro _ h; show (if p y then _ else 0) = 0; rw [h]; rfl
  | cons a x ih =>
    intro h hy
    have ha : p a = true := runN_all h a (by simp)
    rw [runN_pos ha] at h
    show (if p a then runN p (x ++ y :: r) + 1 else 0) = _
    rw [if_pos ha, ih (by simpa using h) hy]
    rfl
theorem u8_all (P : UInt8 → Bool) (h : ∀ n, n < 256 → P (UInt8.ofNat n) = true) (c : UInt8) : P c = true := by
  have := h c.toNat c.toNat_lt
  simpa using this
theorem begin_stop (c : UInt8) (h : (letB c || digB c || c == 62 || signs.contains c) = true) : stopB false c = true := by
  have := u8_all (fun c => !(letB c || digB c || c == 62 || signs.contains c) || stopB false c) (by decide +kernel) c
  rw [h] at this
  simpa using this
theorem long_begin {c : UInt8} {r : List UInt8} (h : 0 < longN (c :: r)) : (letB c || digB c || c == 62 || signs.contains c) = true := by
  have key : longN (c :: r) = if letB c then cap 8 (runN namB (c :: r)) else if (c.toNat : Int) == 48 then cap 1 (runN digB (c :: r)) else if digB c then cap 10 (runN digB (c :: r)) else if pairB (c :: r) then 2 else if signs.contains c then 1 else 0 := rfl
  rw [key] at h
  cases h1 : letB c
  · cases h2 : (c.toNat : Int) == 48
    · cases h3 : digB c
      · cases h4 : pairB (c :: r)
        · cases h5 : signs.contains c
          · rw [h1, h2, h3, h4, h5] at h; simp at h
          · simp
        · match r, h4 with
          | [], h4 => simp [pairB] at h4
          | b :: r, h4 =>
            simp only [pairB, Bool.or_eq_true, Bool.and_eq_true, beq_iff_eq] at h4
            rcases h4 with (⟨rfl, _⟩ | ⟨rfl, _⟩) | ⟨rfl, _⟩ <;> decide
      · simp
    · have : digB c = true := by
        rw [beq_iff_eq] at h2
        simp only [digB, Bool.and_eq_true, decide_eq_true_eq]
        omega
      simp [this]
  · simp
theorem word_stop {x : List UInt8} (hx : wordB x = true) : x ≠ [] ∧ longN x = x.length := by
  simp only [wordB, Bool.and_eq_true, Bool.not_eq_true', beq_iff_eq] at hx
  exact ⟨by intro h; rw [h] at hx; simp at hx, hx.2⟩
theorem long_blank {x : List UInt8} (hx : wordB x = true) (r : List UInt8) : longN (x ++ 32 :: r) = x.length := by
  obtain ⟨h0, h1⟩ := word_stop hx
  match x, h0, h1 with
  | c :: t, _, h1 =>
    have key : ∀ t, longN (c :: t) = if letB c then cap 8 (runN namB (c :: t)) else if (c.toNat : Int) == 48 then cap 1 (runN digB (c :: t)) else if digB c then cap 10 (runN digB (c :: t)) else if pairB (c :: t) then 2 else if signs.contains c then 1 else 0 := fun _ => rfl
    show longN (c :: (t ++ 32 :: r)) = _
    rw [key] at h1 ⊢
    cases hl : letB c
    · rw [hl] at h1
      cases h48 : (c.toNat : Int) == 48
      · rw [h48] at h1
        cases hd : digB c
        · rw [hd] at h1
          simp only [Bool.false_eq_true, if_false] at h1 ⊢
          match t, h1 with
          | [], h1 =>
            have hp : pairB [c] = false := rfl
            have hp2 : pairB (c :: 32 :: r) = false := by simp [pairB]
            rw [hp] at h1
            rw [List.nil_append, hp2]
            simpa using h1
          | [b], h1 =>
            have e : pairB (c :: ([b] ++ 32 :: r)) = pairB [c, b] := rfl
            rw [e]
            exact h1
          | b :: d :: t, h1 =>
            exfalso
            split at h1
            · simp at h1
            · split at h1 <;> simp at h1
        · rw [hd] at h1
          simp only [Bool.false_eq_true, if_false, if_true] at h1 ⊢
          obtain ⟨e1, e2⟩ := cap_eq h1 (by simp)
          have := runN_stop (c :: t) 32 r e1 (by decide)
          rw [show c :: (t ++ 32 :: r) = (c :: t) ++ 32 :: r from rfl, this]
          rw [e1] at h1
          exact h1
      · rw [h48] at h1
        simp only [Bool.false_eq_true, if_false, if_true] at h1 ⊢
        obtain ⟨e1, e2⟩ := cap_eq h1 (by simp)
        have := runN_stop (c :: t) 32 r e1 (by decide)
        rw [show c :: (t ++ 32 :: r) = (c :: t) ++ 32 :: r from rfl, this]
        rw [e1] at h1
        exact h1
    · rw [hl] at h1
      simp only [if_true] at h1 ⊢
      obtain ⟨e1, e2⟩ := cap_eq h1 (by simp)
      have := runN_stop (c :: t) 32 r e1 (by decide)
      rw [show c :: (t ++ 32 :: r) = (c :: t) ++ 32 :: r from rfl, this]
      rw [e1] at h1
      exact h1
theorem gap_word {l : List UInt8} (h : 0 < longN l) : gapN false l = 0 := by
  match l, h with
  | c :: r, h =>
    have := begin_stop c (long_begin h)
    simp only [stopB, Bool.and_eq_true, Bool.not_eq_true', Bool.not_false] at this
    obtain ⟨⟨⟨a, b⟩, _⟩, d⟩ := this
    rw [gapN_cons, a, b, d]
    rfl
theorem scan_join : ∀ (L : List (List UInt8)) (a : Nat), allW L = true → (scanL false (joinL L) a).1.map (·.1) = L ∧ (scanL false (joinL L) a).2 = a + (joinL L).length := by
  intro L
  induction L with
  | nil => intro a _; rw [show joinL [] = [] from rfl, scanL_nil]; exact ⟨rfl, rfl⟩
  | cons x r ih =>
    intro a h
    simp only [allW, List.all_cons, Bool.and_eq_true] at h
    obtain ⟨hx, hr⟩ := h
    obtain ⟨h0, h1⟩ := word_stop hx
    have hp : 0 < x.length := List.length_pos_iff.2 h0
    cases r with
    | nil =>
      show (scanL false x a).1.map (·.1) = [x] ∧ (scanL false x a).2 = a + x.length
      have hg := gap_word (l := x) (by omega)
      rw [scanL_some hg (n := x.length) (by rw [List.drop_zero]; exact h1) hp]
      rw [List.drop_zero, List.take_length, Nat.zero_add, List.drop_length, scanL_nil, Nat.add_zero]
      exact ⟨rfl, rfl⟩
    | cons y r =>
      have hb := long_blank hx (joinL (y :: r))
      show (scanL false (x ++ 32 :: joinL (y :: r)) a).1.map (·.1) = x :: y :: r ∧ (scanL false (x ++ 32 :: joinL (y :: r)) a).2 = a + (x ++ 32 :: joinL (y :: r)).length
      have hg := gap_word (l := x ++ 32 :: joinL (y :: r)) (by omega)
      rw [scanL_some hg (n := x.length) (by rw [List.drop_zero]; exact hb) hp]
      rw [List.drop_zero, List.take_left, Nat.zero_add, List.drop_left, Nat.add_zero]
      have hs : scanL false (32 :: joinL (y :: r)) (a + x.length) = scanL false (joinL (y :: r)) (a + x.length + 1) := scanL_pass (by rw [gapN_cons]; rfl)
      rw [hs]
      obtain ⟨i1, i2⟩ := ih (a + x.length + 1) hr
      refine ⟨by rw [List.map_cons, i1], ?_⟩
      rw [i2, List.length_append, List.length_cons]
      omega
/-- what was joined has just these words -/
theorem tell_join {L : List (List UInt8)} (h : allW L = true) (hl : (joinL L).length ≤ 2000) : ∃ T, tellW (joinL L) = (T, 0, 0) ∧ T.map (·.1) = L := by
  obtain ⟨h1, h2⟩ := scan_join L 0 h
  refine ⟨(cutW (joinL L)).1, ?_, h1⟩
  unfold tellW
  rw [if_neg (by omega), if_neg (by show ¬ (scanL false (joinL L) 0).2 < _; omega)]
end Go.Proofs.YtkhklndmbfbnoaaGreatDoor
