/- Package tree: what a reader needs next. -/
import Derived.Test.YtkhklndmbfbnoaaGreatDoorTFail
namespace Go.Proofs.YtkhklndmbfbnoaaGreatDoor
open Go.ChangeShapes Go.WideShapes Go.ChangeAt Go.RowKit Go.Joins Go.Deep
set_option linter.unusedVariables false

theorem short_size {w0 : Ctx} {fd : Value} {W : List (Tx × Nat)} {en rb : Nat} {g : Option Nat} {s : RS} {w : World} (h : RdAt w0 fd W en w rb g s) : (⟨(wdR W s).toArray⟩ : ByteArray).size ≤ 1000000000 := by
  have := h.short s.k
  show (W.getD s.k ([], 0)).1.toArray.size ≤ _
  rw [List.size_toArray]
  omega
set_option maxHeartbeats 800000 in
theorem unfit_any {w0 : Ctx} {fd : Value} {W : List (Tx × Nat)} {en rb : Nat} {g : Option Nat} {s : RS} (w : World) (h : RdAt w0 fd W en w rb g s) : Calls Tryz.prog 140 #[.pointer (some ⟨rb, 0, none⟩)] w (NP w0 fd W en rb g (.tuple #[]) (failR W (hereR W en s) 4 s) w) := by
  have cH := here_any w h
  go_enter Tryz.func140, Tryz.ntmps140
  go_wp2_with fail
  refine cH.mono ?_
  rintro e w1 ⟨rfl, h1, hO⟩
  clear cH
  go_wp2_with fail
  refine (fail_any (hereR W en s) 4 (by decide) w1 h1).mono ?_
  rintro e w2 ⟨rfl, h2, hO2⟩
  go_wp2_with fail
  go_end0
  exact ⟨rfl, h2, hO.trans hO2⟩
set_option maxHeartbeats 1600000 in
theorem needName {w0 : Ctx} {fd : Value} {W : List (Tx × Nat)} {en rb : Nat} {g : Option Nat} {s : RS} (w : World) (h : RdAt w0 fd W en w rb g s) : Calls Tryz.prog 108 #[.pointer (some ⟨rb, 0, none⟩), .func (.func 110) #[] #[]] w (NP w0 fd W en rb g (txV (needR W en nameB s).1) (needR W en nameB s).2 w) := by
  have hsz := short_size h
  have cB := fun w => isName_any ⟨(wdR W s).toArray⟩ w
  have cW := word_any w h
  unfold NP txV at cW
  cases hb : nameB (wdR W s)
  · have e : needR W en nameB s = ([], failR W (hereR W en s) 4 s) := by unfold needR; rw [hb]; rfl
    rw [e]
    have hb2 : nameB (⟨(wdR W s).toArray⟩ : ByteArray).data.toList = false := hb
    rw [hb2] at cB
    clear hb hb2 e hsz
    generalize (⟨(wdR W s).toArray⟩ : ByteArray) = x at *
    go_enter Tryz.func108, Tryz.ntmps108
    go_wp2_with fail
    refine cW.mono ?_
    rintro e w1 ⟨rfl, h1, hO⟩
    go_wp2_with fail
    refine (cB _).mono ?_
    rintro e w2 ⟨rfl, hb2⟩
    have h2 := h1.grow hb2
    replace hO := hO.trans (h1.onl hb2)
    clear cW cB h1 hb2
    go_wp2_with fail
    refine (unfit_any _ h2).mono ?_
    rintro e w3 ⟨rfl, h3, hO3⟩
    go_wp2_with fail
    go_ret
    exact ⟨rfl, h3, hO.trans hO3⟩
  · have hne : wdR W s ≠ [] := fun h0 => by rw [h0] at hb; revert hb; decide
    have e : needR W en nameB s = (wdR W s, passR s) := by unfold needR; rw [hb]; rfl
    rw [e]
    have hb2 : nameB (⟨(wdR W s).toArray⟩ : ByteArray).data.toList = true := hb
    rw [hb2] at cB
    have cP := fun w h => tpass_any (w0 := w0) (fd := fd) (en := en) (rb := rb) (g := g) w h hne
    unfold NP txV at cP
    unfold txV
    clear hb hb2 e hsz hne
    generalize (⟨(wdR W s).toArray⟩ : ByteArray) = x at *
    go_enter Tryz.func108, Tryz.ntmps108
    go_wp2_with fail
    refine cW.mono ?_
    rintro e w1 ⟨rfl, h1, hO⟩
    go_wp2_with fail
    refine (cB _).mono ?_
    rintro e w2 ⟨rfl, hb2⟩
    have h2 := h1.grow hb2
    replace hO := hO.trans (h1.onl hb2)
    clear cW cB h1 hb2
    go_wp2_with fail
    refine (cP _ h2).mono ?_
    rintro e w3 ⟨rfl, h3, hO3⟩
    go_wp2_with fail
    go_ret
    exact ⟨rfl, h3, hO.trans hO3⟩
set_option maxHeartbeats 1600000 in
theorem needKind {w0 : Ctx} {fd : Value} {W : List (Tx × Nat)} {en rb : Nat} {g : Option Nat} {s : RS} (w : World) (h : RdAt w0 fd W en w rb g s) : Calls Tryz.prog 108 #[.pointer (some ⟨rb, 0, none⟩), .func (.func 166) #[] #[]] w (NP w0 fd W en rb g (txV (needR W en knB s).1) (needR W en knB s).2 w) := by
  have hsz := short_size h
  have cB := fun w => isKind_any ⟨(wdR W s).toArray⟩ w
  have cW := word_any w h
  unfold NP txV at cW
  cases hb : knB (wdR W s)
  · have e : needR W en knB s = ([], failR W (hereR W en s) 4 s) := by unfold needR; rw [hb]; rfl
    rw [e]
    have hb2 : knB (⟨(wdR W s).toArray⟩ : ByteArray).data.toList = false := hb
    rw [hb2] at cB
    clear hb hb2 e hsz
    generalize (⟨(wdR W s).toArray⟩ : ByteArray) = x at *
    go_enter Tryz.func108, Tryz.ntmps108
    go_wp2_with fail
    refine cW.mono ?_
    rintro e w1 ⟨rfl, h1, hO⟩
    go_wp2_with fail
    refine (cB _).mono ?_
    rintro e w2 ⟨rfl, hb2⟩
    have h2 := h1.grow hb2
    replace hO := hO.trans (h1.onl hb2)
    clear cW cB h1 hb2
    go_wp2_with fail
    refine (unfit_any _ h2).mono ?_
    rintro e w3 ⟨rfl, h3, hO3⟩
    go_wp2_with fail
    go_ret
    exact ⟨rfl, h3, hO.trans hO3⟩
  · have hne : wdR W s ≠ [] := fun h0 => by rw [h0] at hb; revert hb; decide
    have e : needR W en knB s = (wdR W s, passR s) := by unfold needR; rw [hb]; rfl
    rw [e]
    have hb2 : knB (⟨(wdR W s).toArray⟩ : ByteArray).data.toList = true := hb
    rw [hb2] at cB
    have cP := fun w h => tpass_any (w0 := w0) (fd := fd) (en := en) (rb := rb) (g := g) w h hne
    unfold NP txV at cP
    unfold txV
    clear hb hb2 e hsz hne
    generalize (⟨(wdR W s).toArray⟩ : ByteArray) = x at *
    go_enter Tryz.func108, Tryz.ntmps108
    go_wp2_with fail
    refine cW.mono ?_
    rintro e w1 ⟨rfl, h1, hO⟩
    go_wp2_with fail
    refine (cB _).mono ?_
    rintro e w2 ⟨rfl, hb2⟩
    have h2 := h1.grow hb2
    replace hO := hO.trans (h1.onl hb2)
    clear cW cB h1 hb2
    go_wp2_with fail
    refine (cP _ h2).mono ?_
    rintro e w3 ⟨rfl, h3, hO3⟩
    go_wp2_with fail
    go_ret
    exact ⟨rfl, h3, hO.trans hO3⟩
set_option maxHeartbeats 1600000 in
theorem needNumber {w0 : Ctx} {fd : Value} {W : List (Tx × Nat)} {en rb : Nat} {g : Option Nat} {s : RS} (w : World) (h : RdAt w0 fd W en w rb g s) : Calls Tryz.prog 108 #[.pointer (some ⟨rb, 0, none⟩), .func (.func 143) #[] #[]] w (NP w0 fd W en rb g (txV (needR W en numB s).1) (needR W en numB s).2 w) := by
  have hsz := short_size h
  have cB := fun w => isNumber_any ⟨(wdR W s).toArray⟩ hsz w
  have cW := word_any w h
  unfold NP txV at cW
  cases hb : numB (wdR W s)
  · have e : needR W en numB s = ([], failR W (hereR W en s) 4 s) := by unfold needR; rw [hb]; rfl
    rw [e]
    have hb2 : numB (⟨(wdR W s).toArray⟩ : ByteArray).data.toList = false := hb
    rw [hb2] at cB
    clear hb hb2 e hsz
    generalize (⟨(wdR W s).toArray⟩ : ByteArray) = x at *
    go_enter Tryz.func108, Tryz.ntmps108
    go_wp2_with fail
    refine cW.mono ?_
    rintro e w1 ⟨rfl, h1, hO⟩
    go_wp2_with fail
    refine (cB _).mono ?_
    rintro e w2 ⟨rfl, hb2⟩
    have h2 := h1.grow hb2
    replace hO := hO.trans (h1.onl hb2)
    clear cW cB h1 hb2
    go_wp2_with fail
    refine (unfit_any _ h2).mono ?_
    rintro e w3 ⟨rfl, h3, hO3⟩
    go_wp2_with fail
    go_ret
    exact ⟨rfl, h3, hO.trans hO3⟩
  · have hne : wdR W s ≠ [] := fun h0 => by rw [h0] at hb; revert hb; decide
    have e : needR W en numB s = (wdR W s, passR s) := by unfold needR; rw [hb]; rfl
    rw [e]
    have hb2 : numB (⟨(wdR W s).toArray⟩ : ByteArray).data.toList = true := hb
    rw [hb2] at cB
    have cP := fun w h => tpass_any (w0 := w0) (fd := fd) (en := en) (rb := rb) (g := g) w h hne
    unfold NP txV at cP
    unfold txV
    clear hb hb2 e hsz hne
    generalize (⟨(wdR W s).toArray⟩ : ByteArray) = x at *
    go_enter Tryz.func108, Tryz.ntmps108
    go_wp2_with fail
    refine cW.mono ?_
    rintro e w1 ⟨rfl, h1, hO⟩
    go_wp2_with fail
    refine (cB _).mono ?_
    rintro e w2 ⟨rfl, hb2⟩
    have h2 := h1.grow hb2
    replace hO := hO.trans (h1.onl hb2)
    clear cW cB h1 hb2
    go_wp2_with fail
    refine (cP _ h2).mono ?_
    rintro e w3 ⟨rfl, h3, hO3⟩
    go_wp2_with fail
    go_ret
    exact ⟨rfl, h3, hO.trans hO3⟩
set_option maxHeartbeats 1600000 in
theorem needKindN {w0 : Ctx} {fd : Value} {W : List (Tx × Nat)} {en rb : Nat} {g : Option Nat} {s : RS} (w : World) (h : RdAt w0 fd W en w rb g s) : Calls Tryz.prog 108 #[.pointer (some ⟨rb, 0, none⟩), .func (.func 145) #[] #[]] w (NP w0 fd W en rb g (txV (needR W en numKB s).1) (needR W en numKB s).2 w) := by
  have hsz := short_size h
  have cB := fun w => isKindN_any ⟨(wdR W s).toArray⟩ w
  have cW := word_any w h
  unfold NP txV at cW
  cases hb : numKB (wdR W s)
  · have e : needR W en numKB s = ([], failR W (hereR W en s) 4 s) := by unfold needR; rw [hb]; rfl
    rw [e]
    have hb2 : numKB (⟨(wdR W s).toArray⟩ : ByteArray).data.toList = false := hb
    rw [hb2] at cB
    clear hb hb2 e hsz
    generalize (⟨(wdR W s).toArray⟩ : ByteArray) = x at *
    go_enter Tryz.func108, Tryz.ntmps108
    go_wp2_with fail
    refine cW.mono ?_
    rintro e w1 ⟨rfl, h1, hO⟩
    go_wp2_with fail
    refine (cB _).mono ?_
    rintro e w2 ⟨rfl, hb2⟩
    have h2 := h1.grow hb2
    replace hO := hO.trans (h1.onl hb2)
    clear cW cB h1 hb2
    go_wp2_with fail
    refine (unfit_any _ h2).mono ?_
    rintro e w3 ⟨rfl, h3, hO3⟩
    go_wp2_with fail
    go_ret
    exact ⟨rfl, h3, hO.trans hO3⟩
  · have hne : wdR W s ≠ [] := fun h0 => by rw [h0] at hb; revert hb; decide
    have e : needR W en numKB s = (wdR W s, passR s) := by unfold needR; rw [hb]; rfl
    rw [e]
    have hb2 : numKB (⟨(wdR W s).toArray⟩ : ByteArray).data.toList = true := hb
    rw [hb2] at cB
    have cP := fun w h => tpass_any (w0 := w0) (fd := fd) (en := en) (rb := rb) (g := g) w h hne
    unfold NP txV at cP
    unfold txV
    clear hb hb2 e hsz hne
    generalize (⟨(wdR W s).toArray⟩ : ByteArray) = x at *
    go_enter Tryz.func108, Tryz.ntmps108
    go_wp2_with fail
    refine cW.mono ?_
    rintro e w1 ⟨rfl, h1, hO⟩
    go_wp2_with fail
    refine (cB _).mono ?_
    rintro e w2 ⟨rfl, hb2⟩
    have h2 := h1.grow hb2
    replace hO := hO.trans (h1.onl hb2)
    clear cW cB h1 hb2
    go_wp2_with fail
    refine (cP _ h2).mono ?_
    rintro e w3 ⟨rfl, h3, hO3⟩
    go_wp2_with fail
    go_ret
    exact ⟨rfl, h3, hO.trans hO3⟩
set_option maxHeartbeats 1600000 in
theorem needOper {w0 : Ctx} {fd : Value} {W : List (Tx × Nat)} {en rb : Nat} {g : Option Nat} {s : RS} (w : World) (h : RdAt w0 fd W en w rb g s) : Calls Tryz.prog 108 #[.pointer (some ⟨rb, 0, none⟩), .func (.func 167) #[] #[]] w (NP w0 fd W en rb g (txV (needR W en operB s).1) (needR W en operB s).2 w) := by
  have hsz := short_size h
  have cB := fun w => isOper_any ⟨(wdR W s).toArray⟩ w
  have cW := word_any w h
  unfold NP txV at cW
  cases hb : operB (wdR W s)
  · have e : needR W en operB s = ([], failR W (hereR W en s) 4 s) := by unfold needR; rw [hb]; rfl
    rw [e]
    have hb2 : operB (⟨(wdR W s).toArray⟩ : ByteArray).data.toList = false := hb
    rw [hb2] at cB
    clear hb hb2 e hsz
    generalize (⟨(wdR W s).toArray⟩ : ByteArray) = x at *
    go_enter Tryz.func108, Tryz.ntmps108
    go_wp2_with fail
    refine cW.mono ?_
    rintro e w1 ⟨rfl, h1, hO⟩
    go_wp2_with fail
    refine (cB _).mono ?_
    rintro e w2 ⟨rfl, hb2⟩
    have h2 := h1.grow hb2
    replace hO := hO.trans (h1.onl hb2)
    clear cW cB h1 hb2
    go_wp2_with fail
    refine (unfit_any _ h2).mono ?_
    rintro e w3 ⟨rfl, h3, hO3⟩
    go_wp2_with fail
    go_ret
    exact ⟨rfl, h3, hO.trans hO3⟩
  · have hne : wdR W s ≠ [] := fun h0 => by rw [h0] at hb; revert hb; decide
    have e : needR W en operB s = (wdR W s, passR s) := by unfold needR; rw [hb]; rfl
    rw [e]
    have hb2 : operB (⟨(wdR W s).toArray⟩ : ByteArray).data.toList = true := hb
    rw [hb2] at cB
    have cP := fun w h => tpass_any (w0 := w0) (fd := fd) (en := en) (rb := rb) (g := g) w h hne
    unfold NP txV at cP
    unfold txV
    clear hb hb2 e hsz hne
    generalize (⟨(wdR W s).toArray⟩ : ByteArray) = x at *
    go_enter Tryz.func108, Tryz.ntmps108
    go_wp2_with fail
    refine cW.mono ?_
    rintro e w1 ⟨rfl, h1, hO⟩
    go_wp2_with fail
    refine (cB _).mono ?_
    rintro e w2 ⟨rfl, hb2⟩
    have h2 := h1.grow hb2
    replace hO := hO.trans (h1.onl hb2)
    clear cW cB h1 hb2
    go_wp2_with fail
    refine (cP _ h2).mono ?_
    rintro e w3 ⟨rfl, h3, hO3⟩
    go_wp2_with fail
    go_ret
    exact ⟨rfl, h3, hO.trans hO3⟩
end Go.Proofs.YtkhklndmbfbnoaaGreatDoor

/- Package tree: a word that a reader needs, a number; how deep it is. -/
namespace Go.Proofs.YtkhklndmbfbnoaaGreatDoor
open Go.ChangeShapes Go.WideShapes Go.ChangeAt Go.RowKit Go.Joins Go.Deep
set_option linter.unusedVariables false

theorem boxT (w : World) (o : Obj) : Below w.heap.size w (w.alloc o) := (Below.refl _ _).alloc (Nat.le_refl _) o
theorem txt_beq (l : Tx) (x : ByteArray) : ((⟨l.toArray⟩ : ByteArray).toList == x.toList) = (l == x.data.toList) := by rw [text_eq, text_eq]
set_option maxHeartbeats 800000 in
theorem same_any (l : Tx) (x : ByteArray) (B : Nat) (w : World) (hB : At w B #[.string x] 9) : Calls Tryz.prog 109 #[.string ⟨l.toArray⟩, .pointer (some ⟨B, 0, none⟩)] w (BP (l == x.data.toList) w) := by
  have c0 := hB.cell 0 rfl
  have e := txt_beq l x
  generalize (⟨l.toArray⟩ : ByteArray) = y at *
  cases hb : (l == x.data.toList)
  · rw [hb] at e
    clear hb hB
    go_enter Tryz.func109, Tryz.ntmps109
    go_wp2
    go_ret
    exact ⟨rfl, Below.refl _ _⟩
  · rw [hb] at e
    clear hb hB
    go_enter Tryz.func109, Tryz.ntmps109
    go_wp2
    go_ret
    exact ⟨rfl, Below.refl _ _⟩
set_option maxHeartbeats 1600000 in
theorem needS_any (x : ByteArray) (hx : x.data.toList ≠ []) {w0 : Ctx} {fd : Value} {W : List (Tx × Nat)} {en rb : Nat} {g : Option Nat} {s : RS} (B : Nat) (hBr : B ≠ rb) (w : World) (h : RdAt w0 fd W en w rb g s) (hB : At w B #[.string x] 9) : Calls Tryz.prog 108 #[.pointer (some ⟨rb, 0, none⟩), .func (.func 109) #[] #[.pointer (some ⟨B, 0, none⟩)]] w (NP w0 fd W en rb g (txV (needR W en (fun y => y == x.data.toList) s).1) (needWR W en x.data.toList s) w) := by
  have cB := fun w hB => same_any (wdR W s) x B w hB
  have cW := word_any w h
  unfold NP txV at cW
  have HB := Lib.hid hB
  clear hB
  cases hb : (wdR W s == x.data.toList)
  · have e : needR W en (fun y => y == x.data.toList) s = ([], failR W (hereR W en s) 4 s) := by unfold needR; exact if_neg (by show ¬ ((wdR W s == x.data.toList) = true); rw [hb]; decide)
    unfold needWR
    rw [e]
    rw [hb] at cB
    clear hb e hx
    generalize (⟨(wdR W s).toArray⟩ : ByteArray) = y at *
    go_enter Tryz.func108, Tryz.ntmps108
    go_wp2_with fail
    refine cW.mono ?_
    rintro e w1 ⟨rfl, h1, hO⟩
    go_wp2_with fail
    refine (cB _ (hO.at HB.out hBr)).mono ?_
    rintro e w2 ⟨rfl, hb2⟩
    have h2 := h1.grow hb2
    replace hO := hO.trans (h1.onl hb2)
    clear cW cB h1 hb2
    go_wp2_with fail
    refine (unfit_any _ h2).mono ?_
    rintro e w3 ⟨rfl, h3, hO3⟩
    go_wp2_with fail
    go_ret
    exact ⟨rfl, h3, hO.trans hO3⟩
  · have hne : wdR W s ≠ [] := fun h0 => by rw [h0, beq_iff_eq] at hb; exact hx hb.symm
    have e : needR W en (fun y => y == x.data.toList) s = (wdR W s, passR s) := by unfold needR; exact if_pos hb
    unfold needWR
    rw [e]
    rw [hb] at cB
    have cP := fun w h => tpass_any (w0 := w0) (fd := fd) (en := en) (rb := rb) (g := g) w h hne
    unfold NP txV at cP
    unfold txV
    clear hb e hne hx
    generalize (⟨(wdR W s).toArray⟩ : ByteArray) = y at *
    go_enter Tryz.func108, Tryz.ntmps108
    go_wp2_with fail
    refine cW.mono ?_
    rintro e w1 ⟨rfl, h1, hO⟩
    go_wp2_with fail
    refine (cB _ (hO.at HB.out hBr)).mono ?_
    rintro e w2 ⟨rfl, hb2⟩
    have h2 := h1.grow hb2
    replace hO := hO.trans (h1.onl hb2)
    clear cW cB h1 hb2
    go_wp2_with fail
    refine (cP _ h2).mono ?_
    rintro e w3 ⟨rfl, h3, hO3⟩
    go_wp2_with fail
    go_ret
    exact ⟨rfl, h3, hO.trans hO3⟩
set_option maxHeartbeats 1600000 in
theorem needW_any (x : ByteArray) (hx : x.data.toList ≠ []) {w0 : Ctx} {fd : Value} {W : List (Tx × Nat)} {en rb : Nat} {g : Option Nat} {s : RS} (w : World) (h : RdAt w0 fd W en w rb g s) : Calls Tryz.prog 78 #[.pointer (some ⟨rb, 0, none⟩), .string x] w (NP w0 fd W en rb g (.tuple #[]) (needWR W en x.data.toList s) w) := by
  have hb1 := boxT w (.cells #[.string x] 9)
  have dB := At.new w #[.string x] 9
  have hlt := h.lt
  have h1 := h.grow hb1
  have hO1 := h.onl hb1
  have cN := needS_any x hx w.heap.size (by omega) (w.alloc (.cells #[.string x] 9)) h1 dB
  unfold NP at cN
  generalize txV (needR W en (fun y => y == x.data.toList) s).1 = v at *
  have HO1 := Lib.hid hO1
  clear h h1 hb1 dB hO1 hlt
  go_enter Tryz.func78, Tryz.ntmps78
  have hmf : ∀ (fn : Go.Fn) (first cap : Array Value) (w : World), (Instr.makeFunc fn first cap).run Tryz.prog w = .ok (.func fn first cap) w := fun _ _ _ _ => rfl
  go_wp2_with fail
  refine cN.mono ?_
  rintro e w2 ⟨rfl, h2, hO2⟩
  go_wp2_with fail
  go_end0
  exact ⟨rfl, h2, HO1.out.trans hO2⟩
set_option maxHeartbeats 1600000 in
theorem needN_any {w0 : Ctx} {fd : Value} {W : List (Tx × Nat)} {en rb : Nat} {g : Option Nat} {s : RS} (w : World) (h : RdAt w0 fd W en w rb g s) : Calls Tryz.prog 117 #[.pointer (some ⟨rb, 0, none⟩)] w (NP w0 fd W en rb g (.int .i64 (needNR W en s).1) (needNR W en s).2 w) := by
  have cN := needNumber w h
  have hsz : (needR W en numB s).1.toArray.size ≤ 1000000000 := by
    have := h.short s.k
    unfold needR
    split
    · show (W.getD s.k ([], 0)).1.toArray.size ≤ _
      rw [List.size_toArray]
      omega
    · simp
  have cL := fun w => number_any ⟨(needR W en numB s).1.toArray⟩ hsz w
  unfold NumPost at cL
  unfold NP txV at cN
  unfold needNR
  have e1 : (⟨(needR W en numB s).1.toArray⟩ : ByteArray).data.toList = (needR W en numB s).1 := rfl
  rw [e1] at cL
  clear e1 hsz h
  generalize (⟨(needR W en numB s).1.toArray⟩ : ByteArray) = y at *
  dsimp only
  generalize numV (needR W en numB s).1 = v at *
  generalize (if numB (needR W en numB s).1 = true then (0 : Int) else 1) = ev at *
  generalize (needR W en numB s).2 = s2 at *
  go_enter Tryz.func117, Tryz.ntmps117
  go_wp2_with fail
  refine cN.mono ?_
  rintro e w1 ⟨rfl, h1, hO⟩
  clear cN
  go_wp2_with fail
  refine (cL _).mono ?_
  rintro e w2 ⟨rfl, hb⟩
  go_wp2_with fail
  go_ret
  exact ⟨rfl, h1.grow hb, hO.trans (h1.onl hb)⟩
set_option maxHeartbeats 1600000 in
theorem enter_any {w0 : Ctx} {fd : Value} {W : List (Tx × Nat)} {en rb : Nat} {g : Option Nat} {s : RS} (ha : s.ar ≤ 29) (w : World) (h : RdAt w0 fd W en w rb g s) : Calls Tryz.prog 80 #[.pointer (some ⟨rb, 0, none⟩)] w (NP w0 fd W en rb g (.tuple #[]) (enterR W en s) w) := by
  obtain ⟨md, nv, hA⟩ := h.cells
  have c3 : w.cell? ⟨rb, 3, none⟩ = some (.int .i64 (s.ar : Nat)) := hA.cell 3 rfl
  by_cases h20 : s.ar = 20
  · have cH := here_any w h
    have t20 : ((s.ar : Int) == 20) = true := by rw [beq_iff_eq]; omega
    have hE : enterR W en s = ⟨W.length, s.ar + 1, s.t, (failR W (hereR W en s) 2 s).bad⟩ := by unfold enterR; rw [if_pos h20]
    have hEi := enter_inv (en := en) h.inv
    rw [hE] at hEi ⊢
    have HEI := Lib.hid hEi
    have H20 := Lib.hid h20
    clear hE hEi h20 h hA
    go_enter Tryz.func80, Tryz.ntmps80
    go_wp2_with fail
    refine cH.mono ?_
    rintro e w1 ⟨rfl, h1, hO⟩
    clear cH c3
    go_wp2_with fail
    refine (fail_any (hereR W en s) 2 (by decide) w1 h1).mono ?_
    rintro e w2 ⟨rfl, h2, hO2⟩
    obtain ⟨md2, nv2, hA2⟩ := h2.cells
    have c3 : w2.cell? ⟨rb, 3, none⟩ = some (.int .i64 (s.ar : Nat)) := hA2.cell 3 rfl
    have f3 := At.free hA2 3
    have fin : RdAt w0 fd W en (w2.setCell ⟨rb, 3, none⟩ (.int .i64 ((s.ar : Int) + 1))) rb g ⟨W.length, s.ar + 1, s.t, (failR W (hereR W en s) 2 s).bad⟩ := h2.next HEI.out rfl (fun h => h) (by show s.ar + 1 ≤ 30; omega) ((Onl.refl rb w2).set 3 _) (fun md nv hA => At.set hA 3 (.int .i64 (((s.ar + 1 : Nat)) : Int)) (by simp [rdC]))
    have FIN := Lib.hid fin
    have HO := Lib.hid ((hO.trans hO2).set 3 (.int .i64 ((s.ar : Int) + 1)))
    clear fin hA2 h1 h2 hO hO2
    generalize s.ar = k at *
    go_wp2_with fail
    go_end0
    exact ⟨rfl, FIN.out, HO.out⟩
  · have t20 : ((s.ar : Int) == 20) = false := by rw [beq_eq_false_iff_ne]; omega
    have hE : enterR W en s = ⟨s.k, s.ar + 1, s.t, s.bad⟩ := by unfold enterR; rw [if_neg h20]
    have hEi := enter_inv (en := en) h.inv
    rw [hE] at hEi ⊢
    have f3 := At.free hA 3
    have fin : RdAt w0 fd W en (w.setCell ⟨rb, 3, none⟩ (.int .i64 ((s.ar : Int) + 1))) rb g ⟨s.k, s.ar + 1, s.t, s.bad⟩ := h.next hEi rfl (fun h => h) (by show s.ar + 1 ≤ 30; omega) ((Onl.refl rb w).set 3 _) (fun md nv hA => At.set hA 3 (.int .i64 (((s.ar + 1 : Nat)) : Int)) (by simp [rdC]))
    have FIN := Lib.hid fin
    have HO := Lib.hid ((Onl.refl rb w).set 3 (.int .i64 ((s.ar : Int) + 1)))
    clear fin hA h hE hEi h20
    generalize s.ar = k at *
    go_enter Tryz.func80, Tryz.ntmps80
    go_wp2_with fail
    go_end0
    exact ⟨rfl, FIN.out, HO.out⟩
end Go.Proofs.YtkhklndmbfbnoaaGreatDoor
