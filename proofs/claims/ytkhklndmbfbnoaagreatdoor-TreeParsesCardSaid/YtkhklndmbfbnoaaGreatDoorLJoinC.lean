/- What is played: how much texts are. -/
import Derived.Test.YtkhklndmbfbnoaaGreatDoorLToks
import Derived.IntWalk
import Derived.Test.YtkhklndmbfbnoaaGreatDoorLJoin
import Derived.Test.YtkhklndmbfbnoaaGreatDoorLKind
import Derived.Test.YtkhklndmbfbnoaaGreatDoorLOnce
namespace Go.Proofs.YtkhklndmbfbnoaaGreatDoor
open Go.ChangeShapes Go.WideShapes Go.ChangeAt Go.RowKit Go.Joins Go.Deep
set_option linter.unusedVariables false

def bz : ByteArray := ByteArray.empty
/-- texts that came in: their cells; none larger than memory's reach -/
def InTxts (w : World) (p : Option Addr) (len : Nat) (zs : List ByteArray) : Prop :=
  zs.length = len ∧ (∀ s ∈ zs, s.size ≤ 140737488355328) ∧ (0 < len → ∃ b off, p = some ⟨b, off, none⟩ ∧ b < w.heap.size ∧ ∀ i, i < len → w.cell? ⟨b, off + i, none⟩ = some (.string (zs.getD i bz)))
theorem InTxts.below {w w' : World} {p : Option Addr} {len : Nat} {zs : List ByteArray} (h : InTxts w p len zs) (hb : Below w.heap.size w w') : InTxts w' p len zs := by
  obtain ⟨a, c, d⟩ := h
  refine ⟨a, c, fun hl => ?_⟩
  obtain ⟨x, off, rfl, hx, hc⟩ := d hl
  exact ⟨x, off, rfl, by have := hb.size; omega, fun i hi => (hb.cell (p := ⟨x, off + i, none⟩) hx).trans (hc i hi)⟩
theorem InTxts.size {w : World} {p : Option Addr} {len : Nat} {zs : List ByteArray} (h : InTxts w p len zs) (i : Nat) : (zs.getD i bz).size ≤ 140737488355328 := by
  rcases Nat.lt_or_ge i zs.length with hi | hi
  · exact h.2.1 _ (by rw [List.getD_eq_getElem?_getD, List.getElem?_eq_getElem hi]; exact List.getElem_mem hi)
  · rw [List.getD_eq_getElem?_getD, List.getElem?_eq_none hi]; decide
/-- how much they are, up to more than is played -/
def txF : List ByteArray → Nat → Nat
  | [], n => n
  | x :: r, n => if n < 1048576 then txF r (n + x.size) else n
theorem txF_ge : ∀ (l : List ByteArray) (n : Nat), n ≤ txF l n := by
  intro l
  induction l with
  | nil => intro n; exact Nat.le_refl _
  | cons x r ih =>
    intro n
    unfold txF
    split
    · have := ih (n + x.size); omega
    · exact Nat.le_refl _
theorem txF_le : ∀ (l : List ByteArray) (n : Nat), n ≤ 281474976710656 → (∀ s ∈ l, s.size ≤ 140737488355328) → txF l n ≤ 281474976710656 := by
  intro l
  induction l with
  | nil => intro n h _; exact h
  | cons x r ih =>
    intro n h ha
    unfold txF
    split
    · exact ih _ (by have := ha x (by simp); omega) (fun s hs => ha s (by simp [hs]))
    · exact h
theorem txF_all : ∀ (l : List ByteArray) (n : Nat), txF l n ≤ 7000 → ∀ s ∈ l, s.size ≤ 7000 := by
  intro l
  induction l with
  | nil => intro n _ s hs; simp at hs
  | cons x r ih =>
    intro n h s hs
    have hn := Nat.le_trans (txF_ge (x :: r) n) h
    unfold txF at h
    rw [if_pos (by omega)] at h
    rcases List.mem_cons.1 hs with rfl | hs
    · have := txF_ge r (n + s.size); omega
    · exact ih _ h s hs
theorem txF_step {l : List ByteArray} {i n : Nat} (hi : i < l.length) (hn : n < 1048576) : txF (l.drop i) n = txF (l.drop (i + 1)) (n + (l.getD i bz).size) := by
  rw [List.drop_eq_getElem_cons hi]
  have e : l.getD i bz = l[i] := by simp [List.getD, hi]
  rw [e]
  show (if n < 1048576 then _ else _) = _
  rw [if_pos hn]
theorem txF_big {l : List ByteArray} {n : Nat} (hn : ¬ n < 1048576) : txF l n = n := by
  cases l with
  | nil => rfl
  | cons x r => unfold txF; rw [if_neg hn]
set_option maxHeartbeats 800000 in
theorem texts_any (p : Option Addr) (len cap : Nat) (zs : List ByteArray) (hl : len ≤ 140737488355328) (w : World) (h : InTxts w p len zs) :
    Calls Tryz.prog 47 #[.slice p len cap] w fun e w' => e = .returned (.int .i64 (txF zs len : Nat)) ∧ w = w' := by
  have hsz := h.size
  have htop := txF_le zs len (by omega) h.2.1
  obtain ⟨hzl, _, hc⟩ := h
  have HZ := Lib.hid hzl
  obtain ⟨v, hv⟩ : ∃ v, v = txF zs len := ⟨_, rfl⟩
  rw [← hv] at htop ⊢
  have HV := Lib.hid hv
  clear hzl hv
  go_enter Tryz.func47, Tryz.ntmps47
  go_wp2
  go_loop [3, 4] (fun v3 v4 => ∃ (n i : Nat), i ≤ len ∧ v3 = .int .i64 (n : Nat) ∧ v4 = .int .i64 (i : Nat) ∧ n ≤ v ∧ v = txF (zs.drop i) n) (fun _ v4 => len - (intOf v4).toNat)
  case atStart => exact ⟨len, 0, Nat.zero_le _, rfl, rfl, by rw [HV.out]; exact txF_ge _ _, HV.out⟩
  case round =>
    obtain ⟨n, i, hi, rfl, rfl, hnv, hx⟩ := hrel
    have HX := Lib.hid hx
    clear hx
    by_cases hlt : i < len
    · have t1 : decide ((i : Int) < (len : Int)) = true := by simp; omega
      by_cases hbig : n < 1048576
      · have t2 : decide ((n : Int) < 1048576) = true := by simp; omega
        obtain ⟨b, off, rfl, hb, hcell⟩ := hc (by omega)
        have hci := hcell i hlt
        have hsi := hsz i
        have HH : Hid (v = txF (zs.drop (i + 1)) (n + (zs.getD i bz).size)) := Lib.hid (by rw [← txF_step (by rw [HZ.out]; exact hlt) hbig]; exact HX.out)
        generalize zs.getD i bz = x at *
        clear hc hcell hsz HX
        go_wp2_with fail
        go_round
        case rel => exact ⟨n + x.size, i + 1, by omega, by go_num, by go_num, by rw [HH.out]; exact txF_ge _ _, HH.out⟩
        case measure => simp [intOf]; omega
      · have t2 : decide ((n : Int) < 1048576) = false := by simp; omega
        have fin : n = v := by rw [HX.out, txF_big hbig]
        have FIN := Lib.hid fin
        clear fin hc hsz
        go_wp2_with fail
        go_ret
        exact ⟨by rw [← FIN.out]; rfl, rfl⟩
    · obtain rfl : i = len := by omega
      have t1 : decide ((i : Int) < (i : Int)) = false := by simp
      have fin : n = v := by rw [HX.out, List.drop_eq_nil_of_le (by rw [HZ.out]; exact Nat.le_refl _)]; rfl
      have FIN := Lib.hid fin
      clear fin hc hsz
      go_wp2_with fail
      go_ret
      exact ⟨by rw [← FIN.out]; rfl, rfl⟩
def HeavyP (lS : Nat) (zs : List ByteArray) (w : World) (e : Ending) (w' : World) : Prop := ∃ hv : Bool, e = .returned (.bool hv) ∧ (hv = false → lS ≤ 7000 ∧ ∀ i, (zs.getD i bz).size ≤ 7000) ∧ Below w.heap.size w w'
set_option maxHeartbeats 800000 in
theorem heavy_any (pS pN : Option Addr) (lS cS lN cN : Nat) (zs : List ByteArray) (hlS : lS ≤ 140737488355328) (hlN : lN ≤ 140737488355328) (w : World) (h : InTxts w pS lS zs) :
    Calls Tryz.prog 25 #[.agg #[.slice pS lS cS, .slice pN lN cN]] w (HeavyP lS zs w) := by
  have hb0 : Below w.heap.size w (w.alloc (.cells #[.slice pS lS cS, .slice pN lN cN] 25)) := (Below.refl _ _).alloc (Nat.le_refl _) _
  have hI := h.below hb0
  have cT := fun n => texts_any pS lS cS zs hlS ((w.alloc (.cells #[.slice pS lS cS, .slice pN lN cN] 25)).drewN n) (show InTxts ((w.alloc (.cells #[.slice pS lS cS, .slice pN lN cN] 25)).drewN n) pS lS zs from hI)
  have htop := txF_le zs lS (by omega) h.2.1
  have hall : txF zs lS ≤ 7000 → lS ≤ 7000 ∧ ∀ i, (zs.getD i bz).size ≤ 7000 := fun h7 => ⟨Nat.le_trans (txF_ge _ _) h7, fun i => by
    rcases Nat.lt_or_ge i zs.length with hi | hi
    · exact txF_all zs lS h7 _ (by rw [List.getD_eq_getElem?_getD, List.getElem?_eq_getElem hi]; exact List.getElem_mem hi)
    · rw [List.getD_eq_getElem?_getD, List.getElem?_eq_none hi]; decide⟩
  have HALL := Lib.hid hall
  generalize txF zs lS = tv at *
  have iw : IntKind.i64.wrap ((tv : Int) + (lN : Int)) = (tv : Int) + lN := IntWalk.i64_in _ (by omega)
  have fin : HeavyP lS zs w (.returned (.bool (decide ((7000 : Int) < (tv : Int) + lN)))) ((w.alloc (.cells #[.slice pS lS cS, .slice pN lN cN] 25))) := ⟨_, rfl, fun hf => HALL.out (by simp at hf; omega), hb0⟩
  have FIN := Lib.hid fin
  clear fin h hI hb0 hall
  by_cases h7 : (7000 : Int) < (tv : Int) + lN
  · have t1 : decide ((7000 : Int) < (tv : Int) + lN) = true := by simpa using h7
    rw [t1] at FIN
    clear h7
    go_enter Tryz.func25, Tryz.ntmps25
    go_wp2_with fail
    go_quiet ((go_at_call 47; (with_reducible exact Calls.quiet_of_same (lflip (cT _)))))
    go_wp2_with fail
    go_ret
    obtain ⟨hv, h1, h2, h3⟩ := FIN.out
    exact ⟨true, rfl, (fun h => by cases h), h3.trans ⟨rfl, rfl, rfl, Nat.le_refl _, fun _ _ => rfl⟩⟩
  · have t1 : decide ((7000 : Int) < (tv : Int) + lN) = false := by simpa using h7
    rw [t1] at FIN
    clear h7
    go_enter Tryz.func25, Tryz.ntmps25
    go_wp2_with fail
    go_quiet ((go_at_call 47; (with_reducible exact Calls.quiet_of_same (lflip (cT _)))))
    go_wp2_with fail
    go_ret
    obtain ⟨hv, h1, h2, h3⟩ := FIN.out
    have e : hv = false := by injection h1 with h1; injection h1 with h1; exact h1.symm
    exact ⟨false, rfl, fun _ => h2 e, h3.trans ⟨rfl, rfl, rfl, Nat.le_refl _, fun _ _ => rfl⟩⟩
end Go.Proofs.YtkhklndmbfbnoaaGreatDoor

/- Lists of texts in memory; Join; a list copied. -/
namespace Go.Proofs.YtkhklndmbfbnoaaGreatDoor
open Go.ChangeShapes Go.WideShapes Go.ChangeAt Go.RowKit Go.Joins Go.Deep
set_option linter.unusedVariables false

abbrev Txt := List UInt8
def strV (x : Txt) : Value := .string ⟨x.toArray⟩
/-- a list of texts in memory -/
def ListAt (w : World) (v : Value) (L : List Txt) : Prop :=
  ∃ q cap, v = .slice q L.length cap ∧ L.length ≤ 100000 ∧ (∀ x ∈ L, x.length ≤ 7000) ∧ (0 < L.length → ∃ g cs fr, q = some ⟨g, 0, none⟩ ∧ w.heap[g]? = some (.cells cs 9 fr) ∧ ∀ i, i < L.length → cs[i]? = some (strV (L.getD i [])))
/-- rows of texts are as they were -/
def KeepS (w w' : World) : Prop := ∀ (g : Nat) (cs : Array Value) (fr : Nat × Nat), w.heap[g]? = some (.cells cs 9 fr) → w'.heap[g]? = some (.cells cs 9 fr)
theorem KeepS.trans {a b c : World} (h : KeepS a b) (k : KeepS b c) : KeepS a c := fun g cs fr hh => k g cs fr (h g cs fr hh)
theorem heap_lt {w : World} {g : Nat} {o : Obj} (h : w.heap[g]? = some o) : g < w.heap.size := by
  rcases Nat.lt_or_ge g w.heap.size with h' | h'
  · exact h'
  · rw [Array.getElem?_eq_none h'] at h; cases h
theorem KeepS.of_below {w w' : World} (hb : Below w.heap.size w w') : KeepS w w' := fun g cs fr hh => (hb.block g (heap_lt hh)).trans hh
theorem ListAt.keep {w w' : World} {v : Value} {L : List Txt} (h : ListAt w v L) (hk : KeepS w w') : ListAt w' v L := by
  obtain ⟨q, cap, rfl, hl, hx, hc⟩ := h
  refine ⟨q, cap, rfl, hl, hx, fun hp => ?_⟩
  obtain ⟨g, cs, fr, rfl, hh, hcell⟩ := hc hp
  exact ⟨g, cs, fr, rfl, hk g cs fr hh, hcell⟩
theorem ListAt.below {w w' : World} {v : Value} {L : List Txt} (h : ListAt w v L) (hb : Below w.heap.size w w') : ListAt w' v L := h.keep (KeepS.of_below hb)
theorem ListAt.cell {w : World} {q : Option Addr} {n cap : Nat} {L : List Txt} (h : ListAt w (.slice q n cap) L) {i : Nat} (hi : i < n) : n = L.length ∧ ∃ g, q = some ⟨g, 0, none⟩ ∧ w.cell? ⟨g, i, none⟩ = some (strV (L.getD i [])) := by
  obtain ⟨q', cap', hv, hl, hx, hc⟩ := h
  injection hv with h1 h2 h3
  subst h1 h2 h3
  obtain ⟨g, cs, fr, rfl, hh, hcell⟩ := hc (by omega)
  refine ⟨rfl, g, rfl, ?_⟩
  rw [cell_of_row w g i cs _ fr hh]
  exact hcell i hi
/-- an own row of texts -/
def RowS (base : Nat) (L : List Txt) (v : Value) (w : World) : Prop := w.ownsRow base 9 1 v L.length (L.map strV)
theorem RowS.nil (base : Nat) (w : World) : RowS base [] (.slice none 0 0) w := ⟨rfl, Or.inl ⟨rfl, rfl⟩⟩
theorem RowS.list {base : Nat} {L : List Txt} {v : Value} {w : World} (h : RowS base L v w) (hl : L.length ≤ 100000) (hx : ∀ x ∈ L, x.length ≤ 7000) : ListAt w v L := by
  obtain ⟨hlen, ⟨rfl, h0⟩ | ⟨g, cap, cur, rfl, hbb, hg, hn, hm, hc, hx2⟩⟩ := h
  · exact ⟨none, 0, by rw [h0], hl, hx, fun hp => by omega⟩
  · refine ⟨_, cap, rfl, hl, hx, fun hp => ⟨g, cur, _, rfl, hg, fun i hi => ?_⟩⟩
    have c1 : (L.map strV)[i]? = some (strV (L.getD i [])) := by
      rw [List.getElem?_map, List.getElem?_eq_getElem hi]
      simp [List.getD, hi]
    rw [← hx2, List.getElem?_take] at c1
    rw [if_pos (by omega)] at c1
    simpa using c1
theorem info_str : (Tryz.prog.info? 9).map (fun i => (i.zero, i.size, i.bytes)) = some (some (.string ⟨#[]⟩), 1, 16) := by kernel_rfl
def JoinPost (L : List Txt) (w : World) (e : Ending) (w' : World) : Prop := e = .returned (.tuple #[strV (if allW L then joinL L else []), .int .i64 (if allW L then 0 else 1)]) ∧ Below w.heap.size w w'
theorem word_le {x : Txt} (h : wordB x = true) : x.length ≤ 10 := by
  obtain ⟨h0, h1⟩ := word_stop h
  match x, h0, h1 with
  | c :: r, _, h1 =>
    have key : longN (c :: r) = if letB c then cap 8 (runN namB (c :: r)) else if (c.toNat : Int) == 48 then cap 1 (runN digB (c :: r)) else if digB c then cap 10 (runN digB (c :: r)) else if pairB (c :: r) then 2 else if signs.contains c then 1 else 0 := rfl
    have hc : ∀ m n, cap m n ≤ m := fun m n => by unfold cap; split <;> omega
    have h8 := hc 8 (runN namB (c :: r))
    have h1' := hc 1 (runN digB (c :: r))
    have h10 := hc 10 (runN digB (c :: r))
    rw [← h1, key]
    repeat' split
    all_goals omega
theorem joinL_le : ∀ (L : List Txt), allW L = true → (joinL L).length ≤ 11 * L.length := by
  intro L
  induction L with
  | nil => intro _; simp [joinL]
  | cons x r ih =>
    intro h
    simp only [allW, List.all_cons, Bool.and_eq_true] at h
    have h1 := word_le h.1
    have h2 := ih h.2
    cases r with
    | nil => simp [joinL]; omega
    | cons y r => simp only [joinL, List.isEmpty_cons, Bool.false_eq_true, if_false, List.length_append, List.length_cons] at h2 ⊢; omega
theorem take_getD {L : List Txt} {i : Nat} (h : i < L.length) : L.take (i + 1) = L.take i ++ [L.getD i []] := by
  rw [List.take_succ_eq_append_getElem h]
  simp [List.getD, h]
theorem allW_snoc (L : List Txt) (x : Txt) : allW (L ++ [x]) = (allW L && wordB x) := by simp [allW, List.all_append]
theorem allW_no {L : List Txt} {i : Nat} (h : i < L.length) (hw : wordB (L.getD i []) = false) : allW L = false := by
  simp only [allW, List.all_eq_false]
  refine ⟨L.getD i [], ?_, by rw [hw]; simp⟩
  rw [List.getD_eq_getElem?_getD, List.getElem?_eq_getElem h]
  exact List.getElem_mem h
theorem str_list (x : Txt) : (⟨x.toArray⟩ : ByteArray).data.toList = x := rfl
theorem str_size (x : Txt) : (⟨x.toArray⟩ : ByteArray).size = x.length := by show x.toArray.size = _; simp
theorem bc_snoc (a : Txt) (s : ByteArray) : Lib.byteCells a ++ Lib.strCells s = Lib.byteCells (a ++ s.data.toList) := by simp [Lib.byteCells, Lib.strCells]
theorem bc_byte (a : Txt) : Lib.byteCells a ++ [.int .u8 32] = Lib.byteCells (a ++ [32]) := by simp [Lib.byteCells]
set_option maxRecDepth 100000 in
set_option maxHeartbeats 3200000 in
theorem join_any (q : Option Addr) (n cap : Nat) (L : List Txt) (w : World) (h : ListAt w (.slice q n cap) L) : Calls Tryz.prog 72 #[.slice q n cap] w (JoinPost L w) := by
  have hnl : n = L.length := by
    obtain ⟨q', cap', hv, _⟩ := h
    injection hv
  have hn5 : n ≤ 100000 := by
    obtain ⟨q', cap', hv, hl, _⟩ := h
    omega
  have hxl : ∀ i, (L.getD i []).length ≤ 7000 := by
    obtain ⟨q', cap', hv, hl, hx, _⟩ := h
    intro i
    rcases Nat.lt_or_ge i L.length with hi | hi
    · exact hx _ (by rw [List.getD_eq_getElem?_getD, List.getElem?_eq_getElem hi]; exact List.getElem_mem hi)
    · rw [List.getD_eq_getElem?_getD, List.getElem?_eq_none hi]; simp
  have hb0 : Below w.heap.size w (w.alloc (.cells #[.pointer none, .slice none 0 0] 138)) := (Below.refl _ _).alloc (Nat.le_refl _) _
  have hI0 : Lib.IsBuilder 138 5 w.heap.size w.heap.size (Lib.byteCells []) (w.alloc (.cells #[.pointer none, .slice none 0 0] 138)) := Or.inl ⟨Nat.le_refl _, _, At.new w _ _, ⟨rfl, Or.inl ⟨rfl, rfl⟩⟩, by simp [Value.ownBlock]⟩
  have H := Lib.hid h
  have HN := Lib.hid hnl
  have HB0 := Lib.hid hb0
  have HI0 := Lib.hid hI0
  clear h hnl hb0 hI0
  have cS := fun l w' h hh => Builder_String_any w.heap.size w.heap.size l w' h hh
  have cWB := fun bs w' h hh hk => writeByte_any w.heap.size w.heap.size bs 32 w' h hh hk
  have cWS := fun bs s w' h hh hk => writeString_any w.heap.size w.heap.size bs s w' h hh hk
  have cW := fun s hs w => isWord_any s w hs
  go_enter Tryz.func72, Tryz.ntmps72
  go_wp2_with fail
  go_loopw [9] (fun v wr => ∃ i : Nat, i ≤ n ∧ v = .int .i64 (i : Nat) ∧ allW (L.take i) = true ∧ Lib.IsBuilder 138 5 w.heap.size w.heap.size (Lib.byteCells (joinL (L.take i))) wr ∧ Below w.heap.size w wr) (fun v _ => n - (intOf v).toNat)
  case atStart => exact ⟨0, Nat.zero_le _, rfl, rfl, HI0.out, HB0.out⟩
  case round =>
    clear HI0 HB0
    obtain ⟨i, hi, rfl, hall, hB, hb⟩ := hrel
    have hsw := hb.size
    by_cases hlt : i < n
    · have hli : i < L.length := by have := HN.out; omega
      obtain ⟨-, g, rfl, ci⟩ := (H.out.below hb).cell hlt
      have hx := hxl i
      have htk := take_getD hli
      have hle := joinL_le (L.take i) hall
      rw [List.length_take] at hle
      have hno := allW_no hli
      obtain ⟨x, hxe⟩ : ∃ x, x = L.getD i [] := ⟨_, rfl⟩
      rw [← hxe] at ci hx htk hno
      have hss := str_size x
      have cW1 := cW ⟨x.toArray⟩ (by rw [hss]; unfold maxLen; omega)
      rw [str_list] at cW1
      have hw10 := fun h => word_le (x := x) h
      have htk2 := allW_snoc (L.take i) x
      have hjs := joinL_snoc (L.take i) x
      unfold strV at ci
      clear cW
      cases hwx : wordB x
      · have hnw := hno hwx
        have fin : ∀ w', Below w.heap.size w w' → JoinPost L w (.returned (.tuple #[.string ⟨#[]⟩, .int .i64 1])) w' := fun w' hb' => ⟨by rw [hnw]; rfl, hb'⟩
        have FIN := Lib.hid fin
        rw [hwx] at cW1
        clear fin hno hwx hnw htk htk2 hjs hw10 hall hB cS cWB cWS hxe
        generalize (⟨x.toArray⟩ : ByteArray) = xb at *
        go_wp2_with fail
        refine (cW1 _).mono ?_
        rintro e w2 ⟨rfl, rfl⟩
        go_wp2_with fail
        go_ret2
        exact FIN.out _ hb
      · have h10 := hw10 hwx
        rw [hwx] at cW1
        rw [hall, hwx] at htk2
        have HTK2 := Lib.hid htk2
        have HTK := Lib.hid htk
        by_cases h0 : i = 0
        · subst h0
          rw [List.take_zero] at hB hjs htk
          have cs1 := cWS (Lib.byteCells (joinL [])) ⟨x.toArray⟩ wr hB (by rw [hss]; simp [Lib.byteCells, joinL]; omega) hsw
          rw [bc_snoc, str_list] at cs1
          have e1 : joinL (L.take (0 + 1)) = joinL [] ++ x := by rw [htk, hjs]; rfl
          rw [← e1] at cs1
          have HB := Lib.hid hB
          have HTT : Hid (allW (L.take (0 + 1)) = true) := Lib.hid (by rw [HTK.out]; exact HTK2.out)
          clear hno hwx htk htk2 hjs hw10 hall cS cWB cWS hxe HTK HTK2 e1 hB
          generalize (⟨x.toArray⟩ : ByteArray) = xb at *
          go_wp2_with fail
          refine (cW1 _).mono ?_
          rintro e w2 ⟨rfl, rfl⟩
          go_wp2_with fail
          refine cs1.mono ?_
          rintro e w3 ⟨rfl, hB3, hb3⟩
          have b3 := hb.trans hb3
          clear cs1
          go_wp2_with fail
          go_roundw
          case rel => exact ⟨0 + 1, by omega, by go_num, HTT.out, Or.inr hB3, b3⟩
          case measure => simp [intOf]; omega
        · have hip : 0 < i := by omega
          have u0 : decide ((0 : Int) < (i : Int)) = true := by simp; omega
          have hne : (L.take i).isEmpty = false := by
            obtain ⟨j, rfl⟩ : ∃ j, i = j + 1 := ⟨i - 1, by omega⟩
            cases L with
            | nil => simp at hli
            | cons a r => rfl
          have h32 : (joinL (L.take i) ++ [32]).length = (joinL (L.take i)).length + 1 := by simp
          rw [hne] at hjs
          have e0 := bc_byte (joinL (L.take i))
          have e1 : joinL (L.take (i + 1)) = (joinL (L.take i) ++ [32]) ++ x := by rw [htk, hjs]; simp
          have cb1 := cWB (Lib.byteCells (joinL (L.take i))) wr hB (by rw [Lib.byteCells_length]; omega) hsw
          rw [e0] at cb1
          have cs1 := fun w' h hk => cWS (Lib.byteCells (joinL (L.take i) ++ [32])) ⟨x.toArray⟩ w' h (by rw [Lib.byteCells_length, h32, hss]; omega) hk
          rw [bc_snoc, str_list, ← e1] at cs1
          have HTT : Hid (allW (L.take (i + 1)) = true) := Lib.hid (by rw [HTK.out]; exact HTK2.out)
          clear hno hwx htk htk2 hjs hw10 hall cS cWB cWS hxe HTK HTK2 e1 e0 hB hne h0
          generalize (⟨x.toArray⟩ : ByteArray) = xb at *
          go_wp2_with fail
          refine (cW1 _).mono ?_
          rintro e w2 ⟨rfl, rfl⟩
          go_wp2_with fail
          refine cb1.mono ?_
          rintro e w3 ⟨rfl, hB3, hb3⟩
          have hs3 := Nat.le_trans hsw hb3.size
          have b3 := hb.trans hb3
          clear cb1
          go_wp2_with fail
          refine (cs1 _ (Or.inr hB3) hs3).mono ?_
          rintro e w4 ⟨rfl, hB4, hb4⟩
          have b4 := b3.trans hb4
          clear cs1 hB3 hb4 b3
          go_wp2_with fail
          go_roundw
          case rel => exact ⟨i + 1, by omega, by go_num, HTT.out, Or.inr hB4, b4⟩
          case measure => simp [intOf]; omega
    · obtain rfl : i = n := by omega
      have et : L.take i = L := List.take_of_length_le (by have := HN.out; omega)
      rw [et] at hall hB
      have fin : ∀ w', Below w.heap.size w w' → JoinPost L w (.returned (.tuple #[.string ⟨(joinL L).toArray⟩, .int .i64 0])) w' := fun w' hb' => ⟨by rw [hall]; rfl, hb'⟩
      have FIN := Lib.hid fin
      have c1 := cS _ wr hB hsw
      clear fin et hall hB cS cWB cWS cW
      generalize (⟨(joinL L).toArray⟩ : ByteArray) = xb at *
      go_wp2_with fail
      refine c1.mono ?_
      rintro e w2 ⟨rfl, hb2⟩
      have b2 := hb.trans hb2
      clear c1
      go_wp2_with fail
      go_ret2
      exact FIN.out _ b2
def CopyPost (L : List Txt) (w : World) (e : Ending) (w' : World) : Prop := ∃ v, e = .returned v ∧ RowS w.heap.size L v w' ∧ Below w.heap.size w w'
end Go.Proofs.YtkhklndmbfbnoaaGreatDoor
