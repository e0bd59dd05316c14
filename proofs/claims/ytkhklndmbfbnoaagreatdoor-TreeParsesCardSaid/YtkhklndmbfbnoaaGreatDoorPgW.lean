/- Package tree, page: the words of nodes. -/
import Derived.Test.YtkhklndmbfbnoaaGreatDoorPgOrd
import Derived.Test.YtkhklndmbfbnoaaGreatDoorFShelf
import Derived.Test.YtkhklndmbfbnoaaGreatDoorLJoinC
import Derived.Shelf.Unicode.PredsPay
import Derived.Deep.CutBlock
namespace Go.Proofs.YtkhklndmbfbnoaaGreatDoor
open Go.ChangeShapes Go.WideShapes Go.ChangeAt Go.RowKit Go.Joins Go.Deep
set_option linter.unusedVariables false

abbrev nPARTS : Tx := [80, 65, 82, 84, 83]
/-- strings.Fields' table, as it was laid -/
def Tab (w : World) : Prop := Go.Lib.TabIs Tryz.prog w "strings.asciiSpace" .u8 Go.Lib.asciiSpaceTab
theorem Tab.below {w w' : World} (h : Tab w) (hb : Below w.heap.size w w') : Tab w' := TabIs_below (g := 0) (by kernel_rfl) h hb
/-- a node's pattern, and its pieces (programs and stops) -/
def patT (op : Int) : Tx := if op = 1 then nPARTS else [115, 116, 111, 112, 32, 59]
def patF (op : Int) : List Tx := if op = 1 then [nPARTS] else [[115, 116, 111, 112], [59]]
theorem pat_fields {op : Int} (h : op = 1 ∨ op = 23) : Go.Lib.fields (patT op) = patF op := by rcases h with rfl | rfl <;> decide +kernel
theorem pat_ascii {op : Int} (h : op = 1 ∨ op = 23) : ∀ (j : Nat) b, (patT op)[j]? = some b → b.toNat < 128 := by
  have hk : ∀ l : Tx, (l.all fun b => decide (b.toNat < 128)) = true → ∀ (j : Nat) b, l[j]? = some b → b.toNat < 128 := fun l hl j b hb => by
    have := List.all_eq_true.1 hl b (List.mem_of_getElem? hb)
    simpa using this
  rcases h with rfl | rfl <;> exact hk _ (by decide +kernel)
def wrun (rec : Int → List Tx) : List Tx → List Int → List Tx
  | [], _ => []
  | t :: ts, r => if t = nPARTS then r.flatMap rec ++ wrun rec ts [] else t :: wrun rec ts r
def wordsN (X : List NX) : Nat → Int → List Tx
  | 0, _ => []
  | f + 1, i => match X[i.toNat]? with
    | none => []
    | some x => wrun (wordsN X f) (patF x.x.op) x.x.ps
/-- a page in memory: P; all its nodes lie below it -/
def PW (w0 : World) (P : Nat) (nv : Value) (dn st : Int) (fo : Value) (wo : Int) (w : World) (g : Option Nat) (L : List Tx) : Prop :=
  ∃ V, At w P #[nv, .int .u32 dn, .int .i32 st, .int .u32 0, V, fo, .int .i64 wo] 93 ∧ V.ownBlock = g ∧ w.ownsRow (P + 1) 9 1 V L.length (L.map txV) ∧ Below P w0 w ∧ w0.heap.size = P
def WP (w0 : World) (P : Nat) (nv : Value) (dn st : Int) (fo : Value) (wo : Int) (g : Option Nat) (L : List Tx) (w : World) (e : Ending) (w' : World) : Prop := e = .returned (.tuple #[]) ∧ ∃ g', PW w0 P nv dn st fo wo w' g' L ∧ Trn P g g' w w'
theorem srow_typed {w : World} {base n b : Nat} {v : Value} {xs : List Value} (h : w.ownsRow base 9 1 v n xs) (hb : v.ownBlock = some b) : ∃ cs, At w b cs 9 := by
  obtain ⟨_, ⟨rfl, _⟩ | ⟨k, cap, cur, rfl, _, hg, _⟩⟩ := h
  · cases hb
  · simp only [Value.ownBlock, Option.some.injEq] at hb
    subst hb
    exact ⟨cur, hg⟩
theorem PW.lt {w0 : World} {P : Nat} {nv fo : Value} {dn st wo : Int} {w : World} {g : Option Nat} {L : List Tx} (h : PW w0 P nv dn st fo wo w g L) : P < w.heap.size := by obtain ⟨V, hA, _⟩ := h; exact hA.lt
theorem PW.grow {w0 : World} {P : Nat} {nv fo : Value} {dn st wo : Int} {w w' : World} {g : Option Nat} {L : List Tx} (h : PW w0 P nv dn st fo wo w g L) (hb : Below w.heap.size w w') : PW w0 P nv dn st fo wo w' g L := by
  obtain ⟨V, hA, hg, hr, hbl, h0⟩ := h
  exact ⟨V, At.below' hb hA, hg, ownsRow_belowT hr hb, hbl.trans (hb.mono (by have := hA.lt; omega)), h0⟩
theorem PW.gt {w0 : World} {P : Nat} {nv fo : Value} {dn st wo : Int} {w : World} {g : Option Nat} {L : List Tx} {b : Nat} {cs : Array Value} {t : TypeId} (h : PW w0 P nv dn st fo wo w g L) (hA : At w b cs t) (ht : t ≠ 9) (ht2 : t ≠ 93) : b ≠ P ∧ g ≠ some b := by
  obtain ⟨V, hP, hg, hr, _⟩ := h
  refine ⟨at_other hA hP ht2, fun e => ?_⟩
  obtain ⟨cs', hc⟩ := srow_typed hr (hg.trans e)
  exact ht (at_type hA hc)
set_option maxHeartbeats 800000 in
theorem pattern_two (x : NX) (hx : x.x.op = 1 ∨ x.x.op = 23) (w : World) : Calls Tryz.prog 96 #[ndV x] w fun e w' => e = .returned (txV (patT x.x.op)) ∧ Below w.heap.size w w' := by
  obtain ⟨⟨op, name, n, ps⟩, q, c⟩ := x
  dsimp only at hx ⊢
  have hb := boxT w (.cells #[.int .i64 op, txV name, .int .i64 n, .slice q ps.length c] 83)
  rcases hx with rfl | rfl
  · unfold ndV
    dsimp only
    go_enter Tryz.func96, Tryz.ntmps96
    go_wp2
    go_ret
    exact ⟨rfl, hb⟩
  · unfold ndV
    dsimp only
    go_enter Tryz.func96, Tryz.ntmps96
    go_wp2_with (go_at_call 127; go_in)
    go_ret
    exact ⟨rfl, hb.trans ((boxT _ _).mono hb.size)⟩
def RelWs (w0 : World) (P : Nat) (nv : Value) (dn st : Int) (fo : Value) (wo : Int) (R : Int → List Tx) (r : List Int) (T : List Tx) (n : Nat) (g : Option Nat) (w : World) (v : Value) (wr : World) : Prop := ∃ (j : Nat) (L' : List Tx) (g' : Option Nat), j ≤ n ∧ v = .int .i64 (j : Nat) ∧ PW w0 P nv dn st fo wo wr g' L' ∧ Trn P g g' w wr ∧ L' ++ (r.drop j).flatMap R = T
set_option maxRecDepth 100000 in
set_option maxHeartbeats 1600000 in
theorem writeSome_all {w0 : World} {P : Nat} {nv fo : Value} {dn st wo : Int} (R : Int → List Tx) (r : List Int) (b o cap : Nat) (hc : ∀ i, i < r.length → w0.cell? ⟨b, o + i, none⟩ = some (.int .i64 (r.getD i 0))) (hb0 : b < w0.heap.size) (hcap : r.length ≤ cap) (hmx : r.length ≤ maxLen) (HW : ∀ p ∈ r, ∀ w g L, PW w0 P nv dn st fo wo w g L → L.length + (R p).length ≤ 100000 → Calls Tryz.prog 71 #[.pointer (some ⟨P, 0, none⟩), .int .i64 p] w (WP w0 P nv dn st fo wo g (L ++ R p) w)) (L : List Tx) (hL : L.length + (r.flatMap R).length ≤ 100000) (w : World) (g : Option Nat) (h : PW w0 P nv dn st fo wo w g L) :
    Calls Tryz.prog 97 #[.pointer (some ⟨P, 0, none⟩), .slice (some ⟨b, o, none⟩) r.length cap, .int .i64 (r.length : Nat)] w fun e w' => ∃ q c g', e = .returned (.slice q 0 c) ∧ PW w0 P nv dn st fo wo w' g' (L ++ r.flatMap R) ∧ Trn P g g' w w' := by
  obtain ⟨T, hT⟩ : ∃ T, T = L ++ r.flatMap R := ⟨_, rfl⟩
  have hTl : T.length ≤ 100000 := by rw [hT, List.length_append]; exact hL
  rw [← hT]
  obtain ⟨n, hn⟩ : ∃ n, n = r.length := ⟨_, rfl⟩
  rw [← hn] at hc hcap hmx ⊢
  unfold maxLen at hmx
  have HN := Lib.hid hn
  clear hn hL
  have hle : ((n : Int) ≤ (n : Int)) := Int.le_refl _
  have h0n : (0 : Int) ≤ (n : Int) := by omega
  have hnc : (n : Int) ≤ (cap : Int) := by omega
  have hwp := h.lt
  have HH := Lib.hid h
  clear h
  go_enter Tryz.func97, Tryz.ntmps97
  go_wp2
  go_loopw [17] (fun v wr => RelWs w0 P nv dn st fo wo R r T n g w v wr) (fun v _ => n - (intOf v).toNat)
  case atStart => exact ⟨0, L, g, Nat.zero_le _, rfl, HH.out, Trn.refl _ _ _, hT.symm⟩
  case round =>
    clear hT
    obtain ⟨j, L', g1, hj, rfl, hP1, t1, hR⟩ := hrel
    by_cases hlt : j < n
    · obtain ⟨p, hp⟩ : ∃ p, p = r.getD j 0 := ⟨_, rfl⟩
      have hjr : j < r.length := by rw [← HN.out]; exact hlt
      have hpm : p ∈ r := by rw [hp, List.getD_eq_getElem?_getD, List.getElem?_eq_getElem hjr]; exact List.getElem_mem hjr
      have hdr : r.drop j = p :: r.drop (j + 1) := by rw [List.drop_eq_getElem_cons hjr, hp, List.getD_eq_getElem?_getD, List.getElem?_eq_getElem hjr]; rfl
      rw [hdr, List.flatMap_cons, ← List.append_assoc] at hR
      have hbl : L'.length + (R p).length ≤ 100000 := by
        have := congrArg List.length hR
        rw [List.length_append, List.length_append] at this
        omega
      have c1 : wr.cell? ⟨b, o + j, none⟩ = some (.int .i64 p) := by
        obtain ⟨V, _, _, _, hB, h0⟩ := hP1
        rw [hp]
        exact cell_below (hc j hlt) (by rw [h0]; exact hB)
      have hw := HW p hpm wr g1 L' hP1 hbl
      have hj3 : (j : Int) < (n : Int) := by omega
      have HR := Lib.hid hR
      have HT1 := Lib.hid t1
      clear hR hdr hp hbl hP1 hpm hjr t1
      go_wp2_with fail
      refine hw.mono ?_
      rintro e w2 ⟨rfl, g2, hP2, t2⟩
      have H2 := Lib.hid (And.intro hP2 (HT1.out.trans t2))
      clear hP2 t2 hw c1
      go_wp2_with fail
      go_roundw
      case rel => exact ⟨j + 1, _, g2, by omega, by go_num, H2.out.1, H2.out.2, HR.out⟩
      case measure => simp [intOf]; omega
    · obtain rfl : j = n := by omega
      rw [show r.drop j = [] from List.drop_eq_nil_of_le (by rw [HN.out]; exact Nat.le_refl _), List.flatMap_nil, List.append_nil] at hR
      subst hR
      have H2 := Lib.hid (And.intro hP1 t1)
      clear hP1 t1 hc
      by_cases hcr : cap = j
      · obtain rfl : j = cap := hcr.symm
        clear hcr hcap hnc
        go_wp2_with fail
        go_ret
        exact ⟨_, _, g1, rfl, H2.out.1, H2.out.2⟩
      · go_wp2_with fail
        go_ret
        exact ⟨_, _, g1, rfl, H2.out.1, H2.out.2⟩
theorem PW.push {w0 : World} {P : Nat} {nv fo : Value} {dn st wo : Int} {w w8 : World} {g : Option Nat} {L : List Tx} {V : Value} {t : Tx} {k cap m : Nat} (hA : At w P #[nv, .int .u32 dn, .int .i32 st, .int .u32 0, V, fo, .int .i64 wo] 93) (hg : V.ownBlock = g) (hr : w.ownsRow (P + 1) 9 1 V L.length (L.map txV)) (hB : Below P w0 w) (h0 : w0.heap.size = P) (hm : m = L.length)
    (h3 : w8.ownsRow (P + 1) 9 1 (.slice (some ⟨k, 0, none⟩) (m + 1) cap) (m + 1) (L.map txV ++ [txV t])) (hgr : (w.alloc (.cells #[txV t] 9)).grownBy w8 V.ownBlock) (hat : V.ownBlock = some k ∨ k = w.heap.size + 1) :
    PW w0 P nv dn st fo wo (w8.setCell ⟨P, 4, none⟩ (.slice (some ⟨k, 0, none⟩) (m + 1) cap)) (some k) (L ++ [t]) ∧ Trn P g (some k) w (w8.setCell ⟨P, 4, none⟩ (.slice (some ⟨k, 0, none⟩) (m + 1) cap)) := by
  subst hm
  have hlt := hA.lt
  have hbA := ((Below.refl P w).alloc (Nat.le_of_lt hlt) (.cells #[txV t] 9))
  have hb8 : Below P w w8 := hbA.grown hgr (Nat.le_trans (Nat.le_of_lt hlt) hbA.size) (fun j hj => Nat.le_of_succ_le (own_geT hr hj))
  have hA8 : At w8 P #[nv, .int .u32 dn, .int .i32 st, .int .u32 0, V, fo, .int .i64 wo] 93 := At.grownT (At.alloc hA (.cells #[txV t] 9)) hgr (fun e => by
    obtain ⟨cs, hc⟩ := srow_typed hr e
    exact absurd (at_type hc hA) (by decide))
  have hA9 := At.set hA8 4 (.slice (some ⟨k, 0, none⟩) (L.length + 1) cap) (by simp)
  have hO9 := (Onl.refl P w8).set 4 (.slice (some ⟨k, 0, none⟩) (L.length + 1) cap)
  have hb9 := hb8.trans hO9.1
  have hkP : k ≠ P := by
    rcases hat with e | e
    · have := own_geT hr e; omega
    · omega
  have hr9 : (w8.setCell ⟨P, 4, none⟩ (.slice (some ⟨k, 0, none⟩) (L.length + 1) cap)).ownsRow (P + 1) 9 1 (.slice (some ⟨k, 0, none⟩) (L.length + 1) cap) (L.length + 1) (L.map txV ++ [txV t]) :=
    ownsRow_heap (tb := P) h3 (Nat.lt_succ_self P) (fun b hb => Below.heap_setCell w8 ⟨P, 4, none⟩ _ b hb)
  refine ⟨⟨_, hA9, rfl, ?_, hB.trans hb9, h0⟩, hb9, fun b hb hbP hgb => ?_, ?_⟩
  · rw [List.length_append, List.map_append]; exact hr9
  · rw [Below.heap_setCell _ _ _ _ hbP]
    have h1 := hgr.block b (by show b < (w.heap.push _).size; simp; omega) (fun e => hgb (by rw [← hg]; exact e.symm))
    exact h1.trans (Below.heap_alloc w _ b hb)
  · rcases hat with h1 | h1
    · exact Or.inl (by rw [← hg, h1])
    · exact Or.inr ⟨k, rfl, by omega⟩
theorem PW.next {w0 : World} {P : Nat} {nv fo : Value} {dn st wo : Int} {w w' : World} {dn' st' wo' : Int} {fo' : Value} {g : Option Nat} {L : List Tx} (h : PW w0 P nv dn st fo wo w g L) (hO : Onl P w w') (hA : ∀ V, At w P #[nv, .int .u32 dn, .int .i32 st, .int .u32 0, V, fo, .int .i64 wo] 93 → At w' P #[nv, .int .u32 dn', .int .i32 st', .int .u32 0, V, fo', .int .i64 wo'] 93) : PW w0 P nv dn' st' fo' wo' w' g L := by
  obtain ⟨V, h1, hg, hr, hB, h0⟩ := h
  refine ⟨V, hA V h1, hg, ?_, hB.trans hO.1, h0⟩
  obtain ⟨hl, ⟨rfl, h0⟩ | ⟨k, cap, cur, rfl, hbb, hG, hn, hm, hc, hx⟩⟩ := hr
  · exact ⟨hl, Or.inl ⟨rfl, h0⟩⟩
  · exact ⟨hl, Or.inr ⟨k, cap, cur, rfl, hbb, hO.at (t := 9) hG (by omega), hn, hm, hc, hx⟩⟩
def PartsV (w0 : World) (v : Value) (r : List Int) : Prop := ((r ≠ [] ∧ ∃ b o cap, v = .slice (some ⟨b, o, none⟩) r.length cap ∧ r.length ≤ cap ∧ b < w0.heap.size ∧ r.length ≤ maxLen ∧ ∀ i, i < r.length → w0.cell? ⟨b, o + i, none⟩ = some (.int .i64 (r.getD i 0))) ∨ (r = [] ∧ ∃ q m c, v = .slice q m c))
def RelWr (w0 : World) (P : Nat) (nv : Value) (dn st : Int) (fo : Value) (wo : Int) (R : Int → List Tx) (x : NX) (T : List Tx) (D F : Nat) (g : Option Nat) (w : World) (v v5 : Value) (wr : World) : Prop := ∃ (j : Nat) (L' : List Tx) (g' : Option Nat) (r : List Int), j ≤ (patF x.x.op).length ∧ v = .int .i64 (j : Nat) ∧ PartsV w0 v5 r ∧ PW w0 P nv dn st fo wo wr g' L' ∧ Trn P g g' w wr ∧ At wr F ((patF x.x.op).map txV).toArray 9 ∧ g' ≠ some F ∧ L' ++ wrun R ((patF x.x.op).drop j) r = T ∧ (x.x.op = 1 → j = 0 → r ≠ []) ∧ (∀ p ∈ r, p ∈ x.x.ps)
theorem patF_get {op : Int} (h : op = 1 ∨ op = 23) {j : Nat} (hj : j < (patF op).length) : ((patF op).getD j [] = nPARTS ∧ op = 1 ∧ j = 0) ∨ (((patF op).getD j [] == [78, 65, 77, 69]) = false ∧ ((patF op).getD j [] == [78, 85, 77, 66, 69, 82]) = false ∧ ((patF op).getD j [] == [80, 65, 82, 84]) = false ∧ ((patF op).getD j [] == [80, 65, 82, 84, 83]) = false) := by
  rcases h with rfl | rfl
  · have hj2 : j < 1 := hj
    obtain rfl : j = 0 := by omega
    exact Or.inl ⟨rfl, rfl, rfl⟩
  · have hj2 : j < 2 := hj
    obtain rfl | rfl : j = 0 ∨ j = 1 := by omega
    · exact Or.inr (by decide)
    · exact Or.inr (by decide)
set_option maxRecDepth 100000 in
set_option maxHeartbeats 3200000 in
theorem write_at {w0 : World} {P : Nat} {nv fo : Value} {dn st wo : Int} (X : List NX) (hN : IsNds w0 nv X) (htab : Tab w0) (i : Nat) (x : NX) (hx : X[i]? = some x) (h2 : (x.x.op = 1 ∧ x.x.ps ≠ []) ∨ x.x.op = 23) (R : Int → List Tx) (HW : ∀ p ∈ x.x.ps, ∀ w g L, PW w0 P nv dn st fo wo w g L → L.length + (R p).length ≤ 100000 → Calls Tryz.prog 71 #[.pointer (some ⟨P, 0, none⟩), .int .i64 p] w (WP w0 P nv dn st fo wo g (L ++ R p) w)) (L : List Tx) (hL : L.length + (wrun R (patF x.x.op) x.x.ps).length ≤ 100000) (w : World) (g : Option Nat) (h : PW w0 P nv dn st fo wo w g L) :
    Calls Tryz.prog 71 #[.pointer (some ⟨P, 0, none⟩), .int .i64 (i : Nat)] w (WP w0 P nv dn st fo wo g (L ++ wrun R (patF x.x.op) x.x.ps) w) := by
  have h2' : x.x.op = 1 ∨ x.x.op = 23 := h2.imp (fun h => h.1) id
  obtain ⟨T, hT⟩ : ∃ T, T = L ++ wrun R (patF x.x.op) x.x.ps := ⟨_, rfl⟩
  have hTl : T.length ≤ 100000 := by rw [hT, List.length_append]; exact hL
  rw [← hT]
  have hi : i < X.length := (List.getElem?_eq_some_iff.1 hx).1
  obtain ⟨qn, capn, rfl, hlX, hcapX, hcX⟩ := id hN
  obtain ⟨gn, rfl, hgn, hcell⟩ := hcX (by omega)
  obtain ⟨a0, a1, a2, a3, ai⟩ := hcell i x hx
  obtain ⟨hBw, h0w⟩ : Below P w0 w ∧ w0.heap.size = P := by obtain ⟨V, _, _, _, hB, h0⟩ := h; exact ⟨hB, h0⟩
  have hBw2 : Below w0.heap.size w0 w := by rw [h0w]; exact hBw
  have c0 := cell_below a0 hBw2
  have c1 := cell_below a1 hBw2
  have c2 := cell_below a2 hBw2
  have c3 := cell_below a3 hBw2
  have pc0 : w.cell? ⟨P, 0, none⟩ = some (.slice (some ⟨gn, 0, none⟩) X.length capn) := by obtain ⟨V, hA, _⟩ := h; exact hA.cell 0 rfl
  have hPV : PartsV w0 (.slice x.q x.x.ps.length x.c) x.x.ps := by
    by_cases hne : x.x.ps = []
    · exact Or.inr ⟨hne, _, _, _, rfl⟩
    · obtain ⟨q, cap, hv, hl1, hl2, hc⟩ := ai
      obtain ⟨b, o, hq, hb, hcs⟩ := hc (List.length_pos_iff.2 hne)
      injection hv with e1 e2 e3
      refine Or.inl ⟨hne, b, o, x.c, by rw [e1, hq], by rw [e3]; exact hl2, hb, hl1, hcs⟩
  have hi3 : (i : Int) < (X.length : Int) := by omega
  have htw : ∀ w', Below w0.heap.size w0 w' → Tab w' := fun w' hb => htab.below hb
  have hbx := boxT w (.cells #[.int .i64 x.x.op, txV x.x.name, .int .i64 x.x.n, .slice x.q x.x.ps.length x.c] 83)
  have cP := pattern_two x h2' (w.alloc (.cells #[.int .i64 x.x.op, txV x.x.name, .int .i64 x.x.n, .slice x.q x.x.ps.length x.c] 83))
  have cF := fun w' (ht : Tab w') => strings_Fields ⟨(patT x.x.op).toArray⟩ w' (by rcases h2' with e | e <;> rw [e] <;> decide) (pat_ascii h2') ht
  rw [show (ByteArray.mk (patT x.x.op).toArray).data.toList = patT x.x.op from rfl, pat_fields h2'] at cF
  have HE := Lib.hid (And.intro h2 (And.intro hT hPV))
  have HH := Lib.hid (And.intro h (And.intro hBw2 htw))
  have HBX := Lib.hid hbx
  clear hx hcX hcell a0 a1 a2 a3 ai hL hT hlX hcapX h hBw hBw2 htw hbx hN hPV h2
  unfold ndV at cP
  go_enter Tryz.func71, Tryz.ntmps71
  go_wp2_with fail
  refine cP.mono ?_
  rintro e w2 ⟨rfl, hb2⟩
  have hbw2 : Below w.heap.size w w2 := HBX.out.trans (hb2.mono HBX.out.size)
  have HT2 := HH.out.2.2 w2 (HH.out.2.1.trans (hbw2.mono HH.out.2.1.size))
  clear cP hb2 c0 c1 c2 c3 pc0
  go_wp2_with fail
  refine (cF _ HT2).mono ?_
  rintro e w3 ⟨rfl, hw3⟩
  clear cF HT2
  have hbw3 : Below w.heap.size w w3 := by rw [hw3]; exact hbw2.trans ((boxT w2 _).mono hbw2.size)
  have hF3 : At w3 w2.heap.size ((patF x.x.op).map txV).toArray 9 := by rw [hw3]; exact At.new w2 _ _
  have hP3 := HH.out.1.grow hbw3
  have t3 : Trn P g g w w3 := Trn.of (Onl.of hbw3 (Nat.le_of_lt HH.out.1.lt))
  have hgF : g ≠ some w2.heap.size := fun e => by
    obtain ⟨V, _, hg, hr, _⟩ := HH.out.1
    obtain ⟨cs, hc⟩ := srow_typed hr (hg.trans e)
    have := hc.lt
    have := hbw2.size
    omega
  have hFP : w2.heap.size ≠ P := by have := HH.out.1.lt; have := hbw2.size; omega
  have HFP := Lib.hid hFP
  clear hw3 hbw3 hbw2 hFP
  generalize w2.heap.size = F at *
  obtain ⟨m, hm⟩ : ∃ m, m = (patF x.x.op).length := ⟨_, rfl⟩
  rw [← hm]
  have HM := Lib.hid hm
  have hmb : m ≤ 2 := by rw [hm]; rcases h2' with e | e <;> rw [e] <;> decide
  clear hm
  have H3 := Lib.hid (And.intro hF3 (And.intro hP3 (And.intro t3 hgF)))
  clear hF3 hP3 t3 hgF
  go_wp2_with fail
  go_loopw [21, 5] (fun v v5 wr => RelWr w0 P (.slice (some ⟨gn, 0, none⟩) X.length capn) dn st fo wo R x T w.heap.size F g w v v5 wr) (fun v _ _ => m - (intOf v).toNat)
  case atStart => exact ⟨0, L, g, x.x.ps, Nat.zero_le _, rfl, HE.out.2.2, H3.out.2.1, H3.out.2.2.1, H3.out.1, H3.out.2.2.2, HE.out.2.1.symm, fun h1 _ => (HE.out.1.elim (fun h => h.2) (fun h => absurd (h1.symm.trans h) (by decide))), fun _ h => h⟩
  case round =>
    clear H3
    obtain ⟨j, L', g1, r, hj, rfl, hPV, hP1, t1, hF1, hgF1, hR, hne, hrm⟩ := hrel
    rw [← HM.out] at hj
    by_cases hlt : j < m
    · have hjl : j < (patF x.x.op).length := by rw [← HM.out]; exact hlt
      obtain ⟨t, ht⟩ : ∃ t, t = (patF x.x.op).getD j [] := ⟨_, rfl⟩
      have c1 : wr.cell? ⟨F, j, none⟩ = some (txV t) := hF1.cell j (by rw [ht, List.getElem?_toArray, List.getElem?_map, List.getD_eq_getElem?_getD, List.getElem?_eq_getElem hjl]; rfl)
      have hdr : (patF x.x.op).drop j = t :: (patF x.x.op).drop (j + 1) := by rw [List.drop_eq_getElem_cons hjl, ht, List.getD_eq_getElem?_getD, List.getElem?_eq_getElem hjl]; rfl
      rw [hdr] at hR
      have hj3 : (j : Int) < (m : Int) := by omega
      have hF2 := Lib.hid hF1
      have hft := hF1.lt
      rcases patF_get h2' hjl with ⟨e1, e2, e3⟩ | ⟨q1, q2, q3, q4⟩
      · rw [← ht] at e1
        subst e1
        have hrne := hne e2 e3
        rcases hPV with ⟨_, b, o, cap, rfl, hl1, hb, hl2, hcs⟩ | ⟨h0, _⟩
        · have hR2 : (L' ++ r.flatMap R) ++ wrun R ((patF x.x.op).drop (j + 1)) [] = T := by
            rw [List.append_assoc, ← hR]
            rfl
          have hTb : L'.length + (r.flatMap R).length ≤ 100000 := by
            have := congrArg List.length hR2
            rw [List.length_append, List.length_append] at this
            omega
          have cS := writeSome_all R r b o cap hcs hb hl1 hl2 (fun p hp => HW p (hrm p hp)) L' hTb wr g1 hP1
          have HR2 := Lib.hid (And.intro hR2 (And.intro t1 hgF1))
          clear hR hR2 hTb hcs hdr hP1 t1 hgF1 hF1 hrm ht e2 e3 hne hrne
          go_wp2_with fail
          refine cS.mono ?_
          rintro e w4 ⟨q4, c4, g4, rfl, hP4, t4⟩
          have H4 := Lib.hid (And.intro hP4 (And.intro (HR2.out.2.1.trans t4) (And.intro (t4.at hF2.out HFP.out HR2.out.2.2) (t4.far hft HR2.out.2.2))))
          clear hP4 t4 cS
          go_wp2_with fail
          go_roundw
          case rel => exact ⟨j + 1, _, g4, [], by rw [← HM.out]; omega, by go_num, Or.inr ⟨rfl, _, _, _, rfl⟩, H4.out.1, H4.out.2.1, H4.out.2.2.1, H4.out.2.2.2, HR2.out.1, fun _ h => absurd h (by omega), fun _ h => by cases h⟩
          case measure => simp [intOf]; omega
        · exact absurd h0 hrne
      · obtain ⟨V, hA, hg1, hr1, hB1, h01⟩ := hP1
        obtain ⟨mm, hmm⟩ : ∃ mm, mm = L'.length := ⟨_, rfl⟩
        rw [← hmm] at hr1
        obtain ⟨qv, cv, rfl⟩ : ∃ q cc, V = .slice q mm cc := by
          rcases hr1.2 with ⟨rfl, h0⟩ | ⟨k, cap, cur, rfl, _⟩
          · exact ⟨none, 0, by rw [h0]⟩
          · exact ⟨_, _, rfl⟩
        have htn : t ≠ nPARTS := fun e => by rw [← ht, e] at q4; revert q4; decide
        have hR2 : (L' ++ [t]) ++ wrun R ((patF x.x.op).drop (j + 1)) r = T := by
          rw [← hR]
          conv => rhs; unfold wrun
          rw [if_neg htn, List.append_assoc]
          rfl
        have hTb : mm + 1 ≤ 100000 := by
          have := congrArg List.length hR2
          rw [List.length_append, List.length_append] at this
          have e1 : ([t] : List Tx).length = 1 := rfl
          omega
        rw [← ht] at q1 q2 q3 q4
        have c4 : wr.cell? ⟨P, 4, none⟩ = some (.slice qv mm cv) := hA.cell 4 rfl
        obtain ⟨i0, hi0, hz0, hz1, hz2⟩ := info_parts info_str
        have hm1 : mm + 1 ≤ maxLen := by unfold maxLen; omega
        have hm2 : (mm + 1) * 16 ≤ 140737488355328 := by omega
        have hltP : P < wr.heap.size := hA.lt
        have hownP := hr1.alloc (.cells #[txV t] 9)
        have HA := Lib.hid hA
        have HR1 := Lib.hid (And.intro hg1 (And.intro hr1 (And.intro hB1 (And.intro h01 hmm))))
        have HR2 := Lib.hid (And.intro hR2 (And.intro t1 (And.intro hgF1 (And.intro hPV (And.intro hrm htn)))))
        clear hR hR2 hTb hdr t1 hgF1 hF1 hrm hA hg1 hr1 hB1 h01 hmm hPV htn ht hne
        have hszP : P + 1 ≤ (wr.alloc (.cells #[txV t] 9)).heap.size := by show _ ≤ (wr.heap.push _).size; simp; omega
        go_wp2_with (at_builtin; refine wpList_append_lies _ rfl _ _ 22 rfl (P + 1) 9 i0 _ 1 16 Tryz.underlying22 hi0 hz0 hz1 hz2 rfl (by decide) (.slice qv mm cv) mm (L'.map txV) rfl hownP ⟨wr.heap.size, 0, none⟩ 1 1 [txV t] rfl rfl (World.news_of_block (cs := #[txV t]) (t := 9) (fr := (0, 0)) (heap_alloc_new wr _)) (by simp [Value.oneCell', txV]) (by omega) hm1 hm2 hszP _ rfl ?_; intro k8 cap8 w8 hown3 hgrow hat hlt3; have hA8 := At.grownT (At.alloc HA.out (.cells #[txV t] 9)) hgrow (fun e => absurd (at_type (Classical.choose_spec (srow_typed HR1.out.2.1 e)) HA.out) (by decide)); have c4e := hA8.cell 4 rfl; have f4e := At.free hA8 4)
        have HP8 := Lib.hid (PW.push HA.out HR1.out.1 (by rw [← HR1.out.2.2.2.2]; exact HR1.out.2.1) HR1.out.2.2.1 HR1.out.2.2.2.1 HR1.out.2.2.2.2 hown3 hgrow (hat.imp id fun h => h.trans (by show (wr.heap.push _).size = _; simp)))
        have H4 := Lib.hid (And.intro HP8.out.1 (And.intro (HR2.out.2.1.trans HP8.out.2) (And.intro (HP8.out.2.at hF2.out HFP.out HR2.out.2.2.1) (HP8.out.2.far hft HR2.out.2.2.1))))
        clear HP8 c4 c4e f4e HA hi0 hz0 hz1 hz2 hownP hszP hA8 hown3 hgrow hat hlt3
        go_wp2_with fail
        go_roundw
        case rel => exact ⟨j + 1, _, _, r, by rw [← HM.out]; omega, by go_num, HR2.out.2.2.2.1, H4.out.1, H4.out.2.1, H4.out.2.2.1, H4.out.2.2.2, HR2.out.1, fun _ h => absurd h (by omega), HR2.out.2.2.2.2.1⟩
        case measure => simp [intOf]; omega
    · obtain rfl : j = m := by omega
      rw [show (patF x.x.op).drop j = [] from List.drop_eq_nil_of_le (by rw [← HM.out]; exact Nat.le_refl _)] at hR
      have hR2 : L' = T := by rw [← hR]; simp [wrun]
      rw [hR2] at hP1
      have FIN : Hid (WP w0 P (.slice (some ⟨gn, 0, none⟩) X.length capn) dn st fo wo g T w (.returned (.tuple #[])) wr) := Lib.hid ⟨rfl, g1, hP1, t1⟩
      clear hP1 t1 hR hR2 hF1 hPV hrm hne hgF1 hTl HW
      go_wp2_with fail
      first | go_end0 | (simp only [Exit.inBlock, Exit.then]; refine bodyPost_ret (results_none rfl _ _ _) rfl ?_) | refine bodyPost_ret (results_none rfl _ _ _) rfl ?_
      exact FIN.out
end Go.Proofs.YtkhklndmbfbnoaaGreatDoor
