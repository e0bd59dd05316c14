/- What is played: how much texts are. -/
import Derived.Test.YtkpiaenpjnajiaaGreatDoorLToks
import Derived.IntWalk
namespace Go.Proofs.YtkpiaenpjnajiaaGreatDoor
open Go.ChangeShapes Go.WideShapes Go.ChangeAt Go.RowKit Go.Joins Go.Deep
set_option linter.unusedVariables false

def bz : ByteArray := ByteArray.empty
/-- texts that came in: their cells; none larger than memory's reach -/
def InTxts (w : World) (p : Option Addr) (len : Nat) (zs : List ByteArray) : Prop :=
  zs.length = len ∧ (∀ s ∈ zs, s.size ≤ 140737488355328) ∧ (0 < len → ∃ b off, p = some ⟨b, off, none⟩ ∧ b < w.heap.size ∧ ∀ i, i < len → w.cell? ⟨b, off + i, none⟩ = some (.string (zs.getD i bz)))
theorem InTxts.below {w w' : World} {p : Option Addr} {len : Nat} {zs : List ByteArray} (h : InTxts w p len zs) (hb : Below w.heap.size w w') : InTxts w' p len zs := by
  obtain ⟨a, c, d⟩ := h
  refine ⟨a, c, fun hl => ?_⟩
  obtain ⟨x, off, rfl, hx, hc⟩ := d hl
  exact ⟨x, off, rfl, by have := hb.size; omega, fun i hi => (hb.cell (p := ⟨x, off + i, none⟩) hx).trans (hc i hi)⟩
theorem InTxts.size {w : World} {p : Option Addr} {len : Nat} {zs : List ByteArray} (h : InTxts w p len zs) (i : Nat) : (zs.getD i bz).size ≤ 140737488355328 := by
  rcases Nat.lt_or_ge i zs.length with hi | hi
  · exact h.2.1 _ (by rw [List.getD_eq_getElem?_getD, List.getElem?_eq_getElem hi]; exact List.getElem_mem hi)
  · rw [List.getD_eq_getElem?_getD, List.getElem?_eq_none hi]; decide
/-- how much they are, up to more than is played -/
def txF : List ByteArray → Nat → Nat
  | [], n => n
  | x :: r, n => if n < 1048576 then txF r (n + x.size) else n
theorem txF_ge : ∀ (l : List ByteArray) (n : Nat), n ≤ txF l n := by
  intro l
  induction l with
  | nil => intro n; exact Nat.le_refl _
  | cons x r ih =>
    intro n
    unfold txF
    split
    · have := ih (n + x.size); omega
    · exact Nat.le_refl _
theorem txF_le : ∀ (l : List ByteArray) (n : Nat), n ≤ 281474976710656 → (∀ s ∈ l, s.size ≤ 140737488355328) → txF l n ≤ 281474976710656 := by
  intro l
  induction l with
  | nil => intro n h _; exact h
  | cons x r ih =>
    intro n h ha
    unfold txF
    split
    · exact ih _ (by have := ha x (by simp); omega) (fun s hs => ha s (by simp [hs]))
    · exact h
theorem txF_all : ∀ (l : List ByteArray) (n : Nat), txF l n ≤ 7000 → ∀ s ∈ l, s.size ≤ 7000 := by
  intro l
  induction l with
  | nil => intro n _ s hs; simp at hs
  | cons x r ih =>
    intro n h s hs
    have hn := Nat.le_trans (txF_ge (x :: r) n) h
    unfold txF at h
    rw [if_pos (by omega)] at h
    rcases List.mem_cons.1 hs with rfl | hs
    · have := txF_ge r (n + s.size); omega
    · exact ih _ h s hs
theorem txF_step {l : List ByteArray} {i n : Nat} (hi : i < l.length) (hn : n < 1048576) : txF (l.drop i) n = txF (l.drop (i + 1)) (n + (l.getD i bz).size) := by
  rw [List.drop_eq_getElem_cons hi]
  have e : l.getD i bz = l[i] := by simp [List.getD, hi]
  rw [e]
  show (if n < 1048576 then _ else _) = _
  rw [if_pos hn]
theorem txF_big {l : List ByteArray} {n : Nat} (hn : ¬ n < 1048576) : txF l n = n := by
  cases l with
  | nil => rfl
  | cons x r => unfold txF; rw [if_neg hn]
set_option maxHeartbeats 800000 in
theorem texts_any (p : Option Addr) (len cap : Nat) (zs : List ByteArray) (hl : len ≤ 140737488355328) (w : World) (h : InTxts w p len zs) :
    Calls Tryz.prog 19 #[.slice p len cap] w fun e w' => e = .returned (.int .i64 (txF zs len : Nat)) ∧ w = w' := by
  have hsz := h.size
  have htop := txF_le zs len (by omega) h.2.1
  obtain ⟨hzl, _, hc⟩ := h
  have HZ := Lib.hid hzl
  obtain ⟨v, hv⟩ : ∃ v, v = txF zs len := ⟨_, rfl⟩
  rw [← hv] at htop ⊢
  have HV := Lib.hid hv
  clear hzl hv
  go_enter Tryz.func19, Tryz.ntmps19
  go_wp2
  go_loop [3, 4] (fun v3 v4 => ∃ (n i : Nat), i ≤ len ∧ v3 = .int .i64 (n : Nat) ∧ v4 = .int .i64 (i : Nat) ∧ n ≤ v ∧ v = txF (zs.drop i) n) (fun _ v4 => len - (intOf v4).toNat)
  case atStart => exact ⟨len, 0, Nat.zero_le _, rfl, rfl, by rw [HV.out]; exact txF_ge _ _, HV.out⟩
  case round =>
    obtain ⟨n, i, hi, rfl, rfl, hnv, hx⟩ := hrel
    have HX := Lib.hid hx
    clear hx
    by_cases hlt : i < len
    · have t1 : decide ((i : Int) < (len : Int)) = true := by simp; omega
      by_cases hbig : n < 1048576
      · have t2 : decide ((n : Int) < 1048576) = true := by simp; omega
        obtain ⟨b, off, rfl, hb, hcell⟩ := hc (by omega)
        have hci := hcell i hlt
        have hsi := hsz i
        have HH : Hid (v = txF (zs.drop (i + 1)) (n + (zs.getD i bz).size)) := Lib.hid (by rw [← txF_step (by rw [HZ.out]; exact hlt) hbig]; exact HX.out)
        generalize zs.getD i bz = x at *
        clear hc hcell hsz HX
        go_wp2_with fail
        go_round
        case rel => exact ⟨n + x.size, i + 1, by omega, by go_num, by go_num, by rw [HH.out]; exact txF_ge _ _, HH.out⟩
        case measure => simp [intOf]; omega
      · have t2 : decide ((n : Int) < 1048576) = false := by simp; omega
        have fin : n = v := by rw [HX.out, txF_big hbig]
        have FIN := Lib.hid fin
        clear fin hc hsz
        go_wp2_with fail
        go_ret
        exact ⟨by rw [← FIN.out]; rfl, rfl⟩
    · obtain rfl : i = len := by omega
      have t1 : decide ((i : Int) < (i : Int)) = false := by simp
      have fin : n = v := by rw [HX.out, List.drop_eq_nil_of_le (by rw [HZ.out]; exact Nat.le_refl _)]; rfl
      have FIN := Lib.hid fin
      clear fin hc hsz
      go_wp2_with fail
      go_ret
      exact ⟨by rw [← FIN.out]; rfl, rfl⟩
def HeavyP (lS : Nat) (zs : List ByteArray) (w : World) (e : Ending) (w' : World) : Prop := ∃ hv : Bool, e = .returned (.bool hv) ∧ (hv = false → lS ≤ 7000 ∧ ∀ i, (zs.getD i bz).size ≤ 7000) ∧ Below w.heap.size w w'
set_option maxHeartbeats 800000 in
theorem heavy_any (pS pN : Option Addr) (lS cS lN cN : Nat) (zs : List ByteArray) (hlS : lS ≤ 140737488355328) (hlN : lN ≤ 140737488355328) (w : World) (h : InTxts w pS lS zs) :
    Calls Tryz.prog 6 #[.agg #[.slice pS lS cS, .slice pN lN cN]] w (HeavyP lS zs w) := by
  have hb0 : Below w.heap.size w (w.alloc (.cells #[.slice pS lS cS, .slice pN lN cN] 25)) := (Below.refl _ _).alloc (Nat.le_refl _) _
  have hI := h.below hb0
  have cT := fun n => texts_any pS lS cS zs hlS ((w.alloc (.cells #[.slice pS lS cS, .slice pN lN cN] 25)).drewN n) (show InTxts ((w.alloc (.cells #[.slice pS lS cS, .slice pN lN cN] 25)).drewN n) pS lS zs from hI)
  have htop := txF_le zs lS (by omega) h.2.1
  have hall : txF zs lS ≤ 7000 → lS ≤ 7000 ∧ ∀ i, (zs.getD i bz).size ≤ 7000 := fun h7 => ⟨Nat.le_trans (txF_ge _ _) h7, fun i => by
    rcases Nat.lt_or_ge i zs.length with hi | hi
    · exact txF_all zs lS h7 _ (by rw [List.getD_eq_getElem?_getD, List.getElem?_eq_getElem hi]; exact List.getElem_mem hi)
    · rw [List.getD_eq_getElem?_getD, List.getElem?_eq_none hi]; decide⟩
  have HALL := Lib.hid hall
  generalize txF zs lS = tv at *
  have iw : IntKind.i64.wrap ((tv : Int) + (lN : Int)) = (tv : Int) + lN := IntWalk.i64_in _ (by omega)
  have fin : HeavyP lS zs w (.returned (.bool (decide ((7000 : Int) < (tv : Int) + lN)))) ((w.alloc (.cells #[.slice pS lS cS, .slice pN lN cN] 25))) := ⟨_, rfl, fun hf => HALL.out (by simp at hf; omega), hb0⟩
  have FIN := Lib.hid fin
  clear fin h hI hb0 hall
  by_cases h7 : (7000 : Int) < (tv : Int) + lN
  · have t1 : decide ((7000 : Int) < (tv : Int) + lN) = true := by simpa using h7
    rw [t1] at FIN
    clear h7
    go_enter Tryz.func6, Tryz.ntmps6
    go_wp2_with fail
    go_quiet ((go_at_call 19; (with_reducible exact Calls.quiet_of_same (lflip (cT _)))))
    go_wp2_with fail
    go_ret
    obtain ⟨hv, h1, h2, h3⟩ := FIN.out
    exact ⟨true, rfl, (fun h => by cases h), h3.trans ⟨rfl, rfl, rfl, Nat.le_refl _, fun _ _ => rfl⟩⟩
  · have t1 : decide ((7000 : Int) < (tv : Int) + lN) = false := by simpa using h7
    rw [t1] at FIN
    clear h7
    go_enter Tryz.func6, Tryz.ntmps6
    go_wp2_with fail
    go_quiet ((go_at_call 19; (with_reducible exact Calls.quiet_of_same (lflip (cT _)))))
    go_wp2_with fail
    go_ret
    obtain ⟨hv, h1, h2, h3⟩ := FIN.out
    have e : hv = false := by injection h1 with h1; injection h1 with h1; exact h1.symm
    exact ⟨false, rfl, fun _ => h2 e, h3.trans ⟨rfl, rfl, rfl, Nat.le_refl _, fun _ _ => rfl⟩⟩
end Go.Proofs.YtkpiaenpjnajiaaGreatDoor
