/- Package lex: sync.Once, one goroutine: a text is cut once. -/
import Derived.Test.YtkhklndmbfbnoaaGreatDoorLCutA
import Derived.Defers
namespace Go.Proofs.YtkhklndmbfbnoaaGreatDoor
open Go.ChangeShapes Go.WideShapes Go.ChangeAt Go.RowKit Go.Joins Go.Deep
set_option linter.unusedVariables false

theorem disable (w : World) : (callFunc 169 #[]).run Tryz.prog w = .ok (.value (.tuple #[])) w := run_call_mark0 Tryz.func169 (by kernel_rfl) (by kernel_rfl) (by kernel_rfl) .disable (by kernel_rfl) w
theorem enable (w : World) : (callFunc 171 #[]).run Tryz.prog w = .ok (.value (.tuple #[])) w := run_call_mark0 Tryz.func171 (by kernel_rfl) (by kernel_rfl) (by kernel_rfl) .enable (by kernel_rfl) w
theorem acquire (a : Addr) (w : World) : (callFunc 172 #[.pointer (some a)]).run Tryz.prog w = .ok (.value (.tuple #[])) w := run_call_marked Tryz.func172 (by kernel_rfl) (by kernel_rfl) (by kernel_rfl) .acquire (by kernel_rfl) a w
theorem releaseMerge (a : Addr) (w : World) : (callFunc 174 #[.pointer (some a)]).run Tryz.prog w = .ok (.value (.tuple #[])) w := run_call_marked Tryz.func174 (by kernel_rfl) (by kernel_rfl) (by kernel_rfl) .releaseMerge (by kernel_rfl) a w

theorem store_deferred (a : Addr) (x : Value) (u : FrameMode) (w : World) (hc : w.cell? a = some x) (hz : w.frozen? a = false) :
    CallsD Tryz.prog 124 #[.pointer (some a), .bool true] u w fun e u' w' => u' = u ∧ (e = .returned (.tuple #[]) ∧ w' = w.drew.setCell a (.int .u32 1)) := by
  have hc' : w.drew.cell? a = some x := by go_simp
  have hz' : w.drew.frozen? a = false := by go_simp
  have hst := run_call_store (P := Tryz.prog) Tryz.func154 (by kernel_rfl) (by kernel_rfl) (by kernel_rfl) (by kernel_rfl) (k := .u32) (y := 1) hc' hz'
  go_enter_d Tryz.func124, Tryz.ntmps124
  go_wp2
  go_region_calls
  all_goals (go_end0; exact ⟨rfl, rfl⟩)

set_option maxRecDepth 100000 in
theorem unlock_deferred (a : Addr) (u : FrameMode) (w : World) (hc : w.cell? a = some (.int .i32 1)) (hz : w.frozen? a = false) :
    CallsD Tryz.prog 123 #[.pointer (some a)] u w fun e u' w' => u' = u ∧ (e = .returned (.tuple #[]) ∧ w' = w.setCell a (.int .i32 0)) := by
  have hd := disable
  have he := enable
  have hr := releaseMerge
  have hadd := run_call_add (P := Tryz.prog) Tryz.func73 (by kernel_rfl) (by kernel_rfl) (by kernel_rfl) .i32 (by kernel_rfl) (y := -1) (s := 0) hc hz (by simp [go_sem]; rfl)
  have hcv := run_convert_to_unsafe (P := Tryz.prog) (src := 177) (dst := 168) Tryz.underlying177 Tryz.underlying168 (by kernel_rfl) hc
  go_enter_d Tryz.func123, Tryz.ntmps123
  go_wp2
  go_end0
  go_wp2
  go_end0
  exact ⟨rfl, rfl⟩

set_option maxRecDepth 100000 in
theorem lock_free (a : Addr) (w : World) (hc : w.cell? a = some (.int .i32 0)) (hz : w.frozen? a = false) :
    Calls Tryz.prog 122 #[.pointer (some a)] w fun e w' => e = .returned (.tuple #[]) ∧ w' = w.setCell a (.int .i32 1) := by
  have hd := disable
  have he := enable
  have ha := acquire
  have hcas := run_call_cas_hit (P := Tryz.prog) Tryz.func170 (by kernel_rfl) (by kernel_rfl) (by kernel_rfl) .i32 (by kernel_rfl) (y := 1) hc hz
  have hc' : (w.setCell a (.int .i32 1)).cell? a = some (.int .i32 1) := World.cell?_setCell_same w a _ hc
  have hcv := run_convert_to_unsafe (P := Tryz.prog) (src := 177) (dst := 168) Tryz.underlying177 Tryz.underlying168 (by kernel_rfl) hc'
  go_enter Tryz.func122, Tryz.ntmps122
  go_wp2
  first | go_end0 | (simp only [Exit.inBlock, Exit.then]; refine bodyPost_ret (results_none rfl _ _ _) rfl ?_) | refine bodyPost_ret (results_none rfl _ _ _) rfl ?_
  go_wp2
  go_end0
  exact ⟨rfl, rfl⟩



/-- a text not cut yet; cut -/
def TxtNew (w : World) (tb : Nat) (s : ByteArray) : Prop := TxtAt w tb s 0 0 0 (.slice none 0 0)
def TxtDone (w : World) (tb : Nat) (s : ByteArray) : Prop := ∃ fd, TxtAt w tb s 1 0 ((cutW s.data.toList).2 : Nat) fd ∧ RowT (tb + 1) (cutW s.data.toList).1 fd w
def OncePost (tb : Nat) (s : ByteArray) (w : World) (e : Ending) (w' : World) : Prop :=
  e = .returned (.tuple #[]) ∧ TxtDone w' tb s ∧ Below tb w w'
theorem cutAll_st (tb : Nat) (s : ByteArray) (hs : s.size ≤ 2000) (w : World) (h : TxtAt w tb s 0 1 0 (.slice none 0 0)) :
    Calls Tryz.prog 76 #[.pointer (some ⟨tb, 0, none⟩)] w (CutPost tb s w) := cutAll_any tb s hs w h
set_option maxRecDepth 100000 in
set_option maxHeartbeats 3200000 in
theorem slow_text (tb : Nat) (s : ByteArray) (hs : s.size ≤ 2000) (w : World) (h : TxtNew w tb s) :
    Calls Tryz.prog 94 #[.pointer (some ⟨tb, 1, none⟩), .func (.func 76) #[.pointer (some ⟨tb, 0, none⟩)] #[]] w (OncePost tb s w) := by
  have h := (show TxtAt w tb s 0 0 0 (.slice none 0 0) from h)
  have k1 : TxtAt (w.setCell ⟨tb, 2, none⟩ (.int .i32 1)) tb s 0 1 0 (.slice none 0 0) := At.set h.at 2 (.int .i32 1) (by simp [txtC])
  have hK1 : Below tb w (w.setCell ⟨tb, 2, none⟩ (.int .i32 1)) := (Below.refl tb w).setCell (p := ⟨tb, 2, none⟩) (Nat.le_refl _) _
  have hl := run_call_load (P := Tryz.prog) Tryz.func121 (by kernel_rfl) (by kernel_rfl) (by kernel_rfl) .u32 (by kernel_rfl) (w := w.setCell ⟨tb, 2, none⟩ (.int .i32 1)) (a := ⟨tb, 1, none⟩) (x := 0) (k1.at.cell 1 rfl)
  have hnot : ∀ (x : Bool) (w : World), (Op.unary .not (.bool x)).run Tryz.prog w = .ok (.bool (!x)) w := fun _ _ => rfl
  have c7 : w.cell? ⟨tb, 2, none⟩ = some (.int .i32 0) := h.at.cell 2 rfl
  have f7 := At.free h.at 2
  have cM := cutAll_st tb s hs _ k1
  go_enter_defers Tryz.func94, Tryz.ntmps94
  go_wp2_with (first | (go_at_call 122; refine (lock_free ⟨tb, 2, none⟩ _ (by go_simp) (by go_simp)).mono ?_; rintro e w' ⟨rfl, rfl⟩) | (go_at_call 93; go_in) | (go_at_call 76; refine cM.mono ?_; rintro e w' ⟨rfl, fd, m1, mr, m2⟩))
  refine leaves_cons (f := 124) (args := #[.pointer (some ⟨tb, 1, none⟩), .bool true]) (by simp) (by simp [go_sem]) ?_
  refine (store_deferred ⟨tb, 1, none⟩ (.int .u32 0) .returning _ (m1.at.cell 1 rfl) (At.free m1.at 1)).mono ?_
  rintro e u' w'' ⟨rfl, rfl, rfl⟩
  have n1 : TxtAt (w'.drew.setCell ⟨tb, 1, none⟩ (.int .u32 1)) tb s 1 1 ((cutW s.data.toList).2 : Nat) fd := At.set m1.at.drew 1 (.int .u32 1) (by simp [txtC])
  have nr : RowT (tb + 1) (cutW s.data.toList).1 fd (w'.drew.setCell ⟨tb, 1, none⟩ (.int .u32 1)) := ownsRow_heap (tb := tb) (show w'.drew.ownsRow _ _ _ _ _ _ from mr) (Nat.lt_succ_self tb) (fun b hb => Below.heap_setCell w'.drew ⟨tb, 1, none⟩ _ b hb)
  have n2 : Below tb w (w'.drew.setCell ⟨tb, 1, none⟩ (.int .u32 1)) := ((hK1.trans m2).drew).setCell (p := ⟨tb, 1, none⟩) (Nat.le_refl _) _
  generalize w'.drew.setCell ⟨tb, 1, none⟩ (.int .u32 1) = w2 at n1 nr n2 ⊢
  refine leaves_cons (f := 123) (args := #[.pointer (some ⟨tb, 2, none⟩)]) (by simp [settle]) (by simp [go_sem]) ?_
  refine (unlock_deferred ⟨tb, 2, none⟩ _ _ (n1.at.cell 2 rfl) (At.free n1.at 2)).mono ?_
  rintro e u' w'' ⟨rfl, rfl, rfl⟩
  have o1 : TxtAt (w2.setCell ⟨tb, 2, none⟩ (.int .i32 0)) tb s 1 0 ((cutW s.data.toList).2 : Nat) fd := At.set n1.at 2 (.int .i32 0) (by simp [txtC])
  have or1 : RowT (tb + 1) (cutW s.data.toList).1 fd (w2.setCell ⟨tb, 2, none⟩ (.int .i32 0)) := ownsRow_heap (tb := tb) nr (Nat.lt_succ_self tb) (fun b hb => Below.heap_setCell w2 ⟨tb, 2, none⟩ _ b hb)
  have o2 : Below tb w (w2.setCell ⟨tb, 2, none⟩ (.int .i32 0)) := n2.setCell (p := ⟨tb, 2, none⟩) (Nat.le_refl _) _
  generalize w2.setCell ⟨tb, 2, none⟩ (.int .i32 0) = w3 at o1 or1 o2 ⊢
  have fin : OncePost tb s w (.returned (.tuple #[])) w3 := ⟨rfl, ⟨fd, o1, or1⟩, o2⟩
  simpa [Leaves, settle, results, Tryz.results94] using fin
set_option maxRecDepth 100000 in
set_option maxHeartbeats 1600000 in
theorem do_text (tb : Nat) (s : ByteArray) (hs : s.size ≤ 2000) (w : World) (h : TxtNew w tb s) :
    Calls Tryz.prog 69 #[.pointer (some ⟨tb, 1, none⟩), .func (.func 76) #[.pointer (some ⟨tb, 0, none⟩)] #[]] w (OncePost tb s w) := by
  have hl := run_call_load (P := Tryz.prog) Tryz.func121 (by kernel_rfl) (by kernel_rfl) (by kernel_rfl) .u32 (by kernel_rfl) (w := w) (a := ⟨tb, 1, none⟩) (x := 0) ((show TxtAt w tb s 0 0 0 (.slice none 0 0) from h).at.cell 1 rfl)
  have hnot : ∀ (x : Bool) (w : World), (Op.unary .not (.bool x)).run Tryz.prog w = .ok (.bool (!x)) w := fun _ _ => rfl
  have cS := slow_text tb s hs w h
  clear h
  go_enter Tryz.func69, Tryz.ntmps69
  go_wp2_with (first | (go_at_call 94; refine cS.mono ?_; rintro e w' ⟨rfl, m1, m2⟩) | (go_at_call 93; go_in))
  go_end0
  exact ⟨rfl, m1, m2⟩
set_option maxRecDepth 100000 in
set_option maxHeartbeats 1600000 in
theorem do_done (tb : Nat) (s : ByteArray) (v : Value) (w : World) (h : TxtDone w tb s) :
    Calls Tryz.prog 69 #[.pointer (some ⟨tb, 1, none⟩), v] w fun e w' => e = .returned (.tuple #[]) ∧ w = w' := by
  obtain ⟨fd, h, _⟩ := h
  have hl := run_call_load (P := Tryz.prog) Tryz.func121 (by kernel_rfl) (by kernel_rfl) (by kernel_rfl) .u32 (by kernel_rfl) (w := w) (a := ⟨tb, 1, none⟩) (x := 1) (h.at.cell 1 rfl)
  have hnot : ∀ (x : Bool) (w : World), (Op.unary .not (.bool x)).run Tryz.prog w = .ok (.bool (!x)) w := fun _ _ => rfl
  go_enter Tryz.func69, Tryz.ntmps69
  go_wp2_with ((go_at_call 93; go_in))
  first | go_end0 | (simp only [Exit.inBlock, Exit.then]; refine bodyPost_ret (results_none rfl _ _ _) rfl ?_) | refine bodyPost_ret (results_none rfl _ _ _) rfl ?_
  exact ⟨rfl, rfl⟩
def EndPost (tb : Nat) (s : ByteArray) (w : World) (e : Ending) (w' : World) : Prop :=
  e = .returned (.int .i64 ((cutW s.data.toList).2 : Nat)) ∧ TxtDone w' tb s ∧ Below tb w w'
set_option maxRecDepth 100000 in
set_option maxHeartbeats 1600000 in
theorem end_any (tb : Nat) (s : ByteArray) (hs : s.size ≤ 2000) (w : World) (h : TxtNew w tb s) :
    Calls Tryz.prog 50 #[.pointer (some ⟨tb, 0, none⟩)] w (EndPost tb s w) := by
  have hmf : ∀ (fn : Fn) (first cap : Array Value) (w : World), (Instr.makeFunc fn first cap).run Tryz.prog w = .ok (.func fn first cap) w := fun _ _ _ _ => rfl
  have cD := do_text tb s hs w h
  have hle := cutW_end s.data.toList
  rw [len_text] at hle
  have cA := fun fd w h => at_any tb s 1 0 (cutW s.data.toList).2 fd (by omega) w h
  clear h
  go_enter Tryz.func50, Tryz.ntmps50
  go_wp2_with fail
  refine cD.mono ?_
  rintro e w2 ⟨rfl, ⟨fd, m1, mr⟩, m2⟩
  have fin : EndPost tb s w (.returned (.int .i64 ((cutW s.data.toList).2 : Nat))) w2 := ⟨rfl, ⟨fd, m1, mr⟩, m2⟩
  have FIN := Lib.hid fin
  have M1 := Lib.hid m1
  clear fin m1 mr m2
  generalize (cutW s.data.toList).2 = cw at *
  go_wp2_with fail
  refine (cA _ _ M1.out).mono ?_
  rintro e w3 ⟨rfl, rfl⟩
  go_wp2
  go_ret
  exact FIN.out
set_option maxRecDepth 100000 in
set_option maxHeartbeats 1600000 in
theorem words_done (tb : Nat) (s : ByteArray) (w : World) (h : TxtDone w tb s) :
    Calls Tryz.prog 51 #[.pointer (some ⟨tb, 0, none⟩)] w fun e w' => ∃ fd, e = .returned fd ∧ RowT (tb + 1) (cutW s.data.toList).1 fd w' ∧ w = w' := by
  have hmf : ∀ (fn : Fn) (first cap : Array Value) (w : World), (Instr.makeFunc fn first cap).run Tryz.prog w = .ok (.func fn first cap) w := fun _ _ _ _ => rfl
  have cD := fun v w h => do_done tb s v w h
  obtain ⟨fd, m1, mr⟩ := id h
  have c5 : w.cell? ⟨tb, 5, none⟩ = some fd := m1.at.cell 5 rfl
  have hfd : ∃ q n cc, fd = .slice q n cc := by
    rcases mr.2 with ⟨rfl, h0⟩ | ⟨g, cap, cur, rfl, _⟩
    · exact ⟨none, 0, 0, rfl⟩
    · exact ⟨_, _, _, rfl⟩
  obtain ⟨q, n, cc, rfl⟩ := hfd
  have MR := Lib.hid mr
  clear m1 mr
  go_enter Tryz.func51, Tryz.ntmps51
  go_wp2_with fail
  refine (cD _ _ h).mono ?_
  rintro e w2 ⟨rfl, rfl⟩
  go_wp2
  go_ret
  exact ⟨_, rfl, MR.out, rfl⟩
/-- what Words tells: words in new memory, or none; the place, the error -/
def WordsPost (l : List UInt8) (w : World) (e : Ending) (w' : World) : Prop :=
  ∃ fd, e = .returned (.tuple #[fd, .int .i64 ((tellW l).2.1 : Nat), .int .i64 (tellW l).2.2]) ∧ RowT w.heap.size (tellW l).1 fd w' ∧ Below w.heap.size w w'
theorem RowT.nil (base : Nat) (w : World) : RowT base [] (.slice none 0 0) w := ⟨rfl, Or.inl ⟨rfl, rfl⟩⟩
theorem ownsRow_less {w : World} {base base' e size : Nat} {v : Value} {n : Nat} {xs : List Value} (h : w.ownsRow base e size v n xs) (hb : base' ≤ base) : w.ownsRow base' e size v n xs := by
  obtain ⟨hl, ⟨rfl, h0⟩ | ⟨g, cap, cur, rfl, hbb, hg, hn, hm, hc, hx⟩⟩ := h
  · exact ⟨hl, Or.inl ⟨rfl, h0⟩⟩
  · exact ⟨hl, Or.inr ⟨g, cap, cur, rfl, by omega, hg, hn, hm, hc, hx⟩⟩
set_option maxRecDepth 100000 in
set_option maxHeartbeats 1600000 in
theorem words_any (s : ByteArray) (hm : s.size ≤ maxLen) (w : World) : Calls Tryz.prog 27 #[.string s] w (WordsPost s.data.toList w) := by
  unfold maxLen at hm
  by_cases hs : s.size ≤ 2000
  · have hle := cutW_end s.data.toList
    have hlt0 := len_text s
    have hd1 : decide ((2000 : Int) < (s.size : Int)) = false := by simp; omega
    have hA : TxtNew (w.alloc (.cells (txtC s 0 0 0 (.slice none 0 0)) 108)) w.heap.size s := At.new w _ _
    have hb0 : Below w.heap.size w (w.alloc (.cells (txtC s 0 0 0 (.slice none 0 0)) 108)) := (Below.refl _ _).alloc (Nat.le_refl _) _
    have cE := end_any w.heap.size s hs _ hA
    unfold txtC at cE hb0
    have cW := fun w' h => words_done w.heap.size s w' h
    rw [hlt0] at hle
    have HB0 := Lib.hid hb0
    by_cases hc : (cutW s.data.toList).2 < s.size
    · have hd2 : decide (((cutW s.data.toList).2 : Int) < (s.size : Int)) = true := by simp; omega
      have hd3 : decide ((cutW s.data.toList).2 < s.size) = true := by simpa using hc
      have ht : tellW s.data.toList = ([], (cutW s.data.toList).2, 4) := by unfold tellW; rw [hlt0, if_neg (by omega), if_pos hc]
      have fin : ∀ w', Below w.heap.size w w' → WordsPost s.data.toList w (.returned (.tuple #[.slice none 0 0, .int .i64 ((cutW s.data.toList).2 : Nat), .int .i64 4])) w' := fun w' hb => ⟨_, by rw [ht], by rw [ht]; exact RowT.nil _ _, hb⟩
      have FIN := Lib.hid fin
      clear fin ht hA cW hlt0 hc hb0
      unfold EndPost at cE
      generalize (cutW s.data.toList).2 = cw at *
      go_enter Tryz.func27, Tryz.ntmps27
      go_wp2_with fail
      refine cE.mono ?_
      rintro e w2 ⟨rfl, _, hb2⟩
      go_wp2
      go_ret3
      exact FIN.out _ (HB0.out.trans hb2)
    · have hd2 : decide (((cutW s.data.toList).2 : Int) < (s.size : Int)) = false := by simp; omega
      have hd3 : decide ((cutW s.data.toList).2 < s.size) = false := by simpa using hc
      have ht : tellW s.data.toList = ((cutW s.data.toList).1, 0, 0) := by unfold tellW; rw [hlt0, if_neg (by omega), if_neg hc]
      have fin : ∀ fd w', RowT (w.heap.size + 1) (cutW s.data.toList).1 fd w' → Below w.heap.size w w' → WordsPost s.data.toList w (.returned (.tuple #[fd, .int .i64 0, .int .i64 0])) w' := fun fd w' hr hb => ⟨_, by rw [ht]; rfl, by rw [ht]; exact ownsRow_less hr (Nat.le_succ _), hb⟩
      have FIN := Lib.hid fin
      clear fin ht hA hlt0 hc hb0
      unfold EndPost at cE
      generalize (cutW s.data.toList).2 = cw at *
      go_enter Tryz.func27, Tryz.ntmps27
      go_wp2_with fail
      refine cE.mono ?_
      rintro e w2 ⟨rfl, hdn, hb2⟩
      go_wp2_with fail
      refine (cW _ hdn).mono ?_
      rintro e w3 ⟨fd, rfl, hr, rfl⟩
      go_wp2
      go_ret3
      exact FIN.out _ _ hr (HB0.out.trans hb2)
  · have hd1 : decide ((2000 : Int) < (s.size : Int)) = true := by simp; omega
    have ht : tellW s.data.toList = ([], 0, 2) := by unfold tellW; rw [len_text, if_pos (by omega)]
    have fin : WordsPost s.data.toList w (.returned (.tuple #[.slice none 0 0, .int .i64 0, .int .i64 2])) w := ⟨_, by rw [ht]; rfl, by rw [ht]; exact RowT.nil _ _, Below.refl _ _⟩
    have FIN := Lib.hid fin
    clear fin ht hs
    go_enter Tryz.func27, Tryz.ntmps27
    go_wp2
    go_ret3
    exact FIN.out
end Go.Proofs.YtkhklndmbfbnoaaGreatDoor
