/- Package tree's reader, as plain data: what each of its steps makes of it. Nothing here speaks of one translation. -/
import Derived.Test.YtkhklndmbfbnoaaGreatDoorLKind
namespace Go.Proofs.YtkhklndmbfbnoaaGreatDoor
set_option linter.unusedVariables false

abbrev Tx := List UInt8
/-- a node -/
structure ND where
  op : Int
  name : Tx
  n : Int
  ps : List Int
/-- a reader: how many words lie behind, how much is begun, the nodes, what is wrong first, and where -/
structure RS where
  k : Nat
  ar : Nat
  t : List ND
  bad : Option (Nat × Int)
def ptrN : Tx := [112, 116, 114]
def numKB (l : Tx) : Bool := knB l && !(l == ptrN)
def nameB (l : Tx) : Bool := (!l.isEmpty && letB (l.headD 0)) && !kwB l
def turnB (l : Tx) : Bool := l == [45] || l == [126] || l == [33]
def opN : List Tx := [[43], [45], [42], [47], [37], [38], [124], [94], [60, 60], [62, 62], [61, 61], [60]]
def operB (l : Tx) : Bool := opN.contains l
section
variable (W : List (Tx × Nat)) (en : Nat)
def wdR (s : RS) : Tx := (W.getD s.k ([], 0)).1
def hereR (s : RS) : Nat := if s.k < W.length then (W.getD s.k ([], 0)).2 else en
def failR (a : Nat) (e : Int) (s : RS) : RS := ⟨W.length, s.ar, s.t, match s.bad with | none => some (a, e) | some x => some x⟩
def passR (s : RS) : RS := ⟨s.k + 1, s.ar, s.t, s.bad⟩
def needR (p : Tx → Bool) (s : RS) : Tx × RS := if p (wdR W s) then (wdR W s, passR s) else ([], failR W (hereR W en s) 4 s)
def needWR (x : Tx) (s : RS) : RS := (needR W en (fun y => y == x) s).2
def needNR (s : RS) : Int × RS := ((numV (needR W en numB s).1 : Nat), (needR W en numB s).2)
def enterR (s : RS) : RS := if s.ar = 20 then ⟨W.length, s.ar + 1, s.t, (failR W (hereR W en s) 2 s).bad⟩ else ⟨s.k, s.ar + 1, s.t, s.bad⟩
def leaveR (s : RS) : RS := ⟨s.k, s.ar - 1, s.t, s.bad⟩
def nodeR (x : ND) (s : RS) : Int × RS :=
  match s.bad with
  | some _ => (0, s)
  | none => if 300 ≤ s.t.length then (0, failR W (W.getD (s.k - 1) ([], 0)).2 2 s) else ((s.t.length : Int), ⟨s.k, s.ar, s.t ++ [x], s.bad⟩)
/-- what holds of a reader all along -/
def Inv (s : RS) : Prop := s.k ≤ W.length ∧ (s.bad = none → s.t.length ≤ s.k + 1 ∧ s.t.length ≤ 300) ∧ (s.bad ≠ none → s.k = W.length) ∧ (∀ a e, s.bad = some (a, e) → e ≠ 0)
/-- from one reader to a later one: so many words more are behind than nodes came -/
def Stp (c : Nat) (s s' : RS) : Prop := s'.ar = s.ar ∧ (s'.bad = none → s.bad = none ∧ s'.t.length + s.k + c ≤ s.t.length + s'.k)
-- the grammar
def calledR (ex : RS → Int × RS) (op : Int) (name : Tx) (s : RS) : Int × RS :=
  let r := ex (needWR W en [40] s)
  nodeR W ⟨op, name, 0, [r.1]⟩ (needWR W en [41] r.2)
def plainPlaceR (ex : RS → Int × RS) (s : RS) : Int × RS :=
  if wdR W s = [42] then
    let r := needR W en knB (passR s)
    calledR W en ex 11 r.1 r.2
  else
    let r := needR W en nameB s
    nodeR W ⟨8, r.1, 0, []⟩ r.2
def placeL (ex : RS → Int × RS) : Nat → Int × RS → Int × RS
  | 0, r => r
  | f + 1, r =>
    if wdR W r.2 = [46] then
      let q := needR W en nameB (passR r.2)
      placeL ex f (nodeR W ⟨9, q.1, 0, [r.1]⟩ q.2)
    else if wdR W r.2 = [91] then
      let q := ex (passR r.2)
      placeL ex f (nodeR W ⟨10, [], 0, [r.1, q.1]⟩ (needWR W en [93] q.2))
    else r
def placeR (ex : RS → Int × RS) (s : RS) : Int × RS := placeL W en ex (W.length + 1) (plainPlaceR W en ex s)
def numberR (s : RS) : Int × RS :=
  let r := needNR W en s
  let q := needR W en numKB (needWR W en [58] r.2)
  nodeR W ⟨12, q.1, r.1, []⟩ q.2
def twoR (ex : RS → Int × RS) (s : RS) : Int × RS :=
  let a := ex (needWR W en [40] s)
  let o := needR W en operB a.2
  let b := ex o.2
  nodeR W ⟨16, o.1, 0, [a.1, b.1]⟩ (needWR W en [41] b.2)
def exprI (ex : RS → Int × RS) (s : RS) : Int × RS :=
  if numB (wdR W s) then numberR W en s
  else if numKB (wdR W s) then calledR W en ex 14 (wdR W s) (passR s)
  else if turnB (wdR W s) then
    let r := ex (passR s)
    nodeR W ⟨15, wdR W s, 0, [r.1]⟩ r.2
  else if wdR W s = [38] then
    let r := placeR W en ex (passR s)
    nodeR W ⟨13, [], 0, [r.1]⟩ r.2
  else if wdR W s = [40] then twoR W en ex s
  else placeR W en ex s
def exprB (ex : RS → Int × RS) (s : RS) : Int × RS := ((exprI W en ex (enterR W en s)).1, leaveR (exprI W en ex (enterR W en s)).2)
def exprR : Nat → RS → Int × RS
  | 0 => exprB W en (fun s => (0, s))
  | n + 1 => exprB W en (exprR n)
def namedR (ty : RS → Int × RS) (op : Int) (s : RS) : Int × RS :=
  let r := needR W en nameB s
  let q := ty (needWR W en [58] r.2)
  nodeR W ⟨op, r.1, 0, [q.1]⟩ (needWR W en [59] q.2)
def fieldsL (ty : RS → Int × RS) : Nat → List Int → RS → List Int × RS
  | 0, l, s => (l, s)
  | f + 1, l, s => if s.k < W.length ∧ wdR W s ≠ [125] then fieldsL ty f (l ++ [(namedR W en ty 7 s).1]) (namedR W en ty 7 s).2 else (l, s)
def fieldsR (ty : RS → Int × RS) (op : Int) (s : RS) : Int × RS :=
  let a := namedR W en ty 7 (needWR W en [123] s)
  let r := fieldsL W en ty (W.length + 1) [a.1] a.2
  nodeR W ⟨op, [], 0, r.1⟩ (needWR W en [125] r.2)
def plainTypeR (ty : RS → Int × RS) (s : RS) : Int × RS :=
  if wdR W s = [115, 116, 114, 117, 99, 116] then fieldsR W en ty 5 (passR s)
  else if wdR W s = [117, 110, 105, 111, 110] then fieldsR W en ty 6 (passR s)
  else
    let r := needR W en knB s
    nodeR W ⟨3, r.1, 0, []⟩ r.2
def typeL : Nat → Int × RS → Int × RS
  | 0, r => r
  | f + 1, r =>
    if wdR W r.2 = [91] then
      let q := needNR W en (passR r.2)
      typeL f (nodeR W ⟨4, [], q.1, [r.1]⟩ (needWR W en [93] q.2))
    else r
def typeI (ty : RS → Int × RS) (s : RS) : Int × RS := typeL W en (W.length + 1) (plainTypeR W en ty s)
def typeB (ty : RS → Int × RS) (s : RS) : Int × RS := ((typeI W en ty (enterR W en s)).1, leaveR (typeI W en ty (enterR W en s)).2)
def typeR : Nat → RS → Int × RS
  | 0 => typeB W en (fun s => (0, s))
  | n + 1 => typeB W en (typeR n)
def blockL (st : RS → Int × RS) : Nat → List Int → RS → List Int × RS
  | 0, l, s => (l, s)
  | f + 1, l, s => if s.bad = none ∧ wdR W s ≠ [125] then blockL st f (l ++ [(st s).1]) (st s).2 else (l, s)
def blockR (st : RS → Int × RS) (s : RS) : Int × RS :=
  let r := blockL W st (W.length + 2) [] (needWR W en [123] s)
  nodeR W ⟨24, [], 0, r.1⟩ (needWR W en [125] r.2)
def choiceR (ex st : RS → Int × RS) (s : RS) : Int × RS :=
  let a := ex (needWR W en [105, 102] s)
  let b := blockR W en st a.2
  if wdR W b.2 = [101, 108, 115, 101] then
    let c := blockR W en st (passR b.2)
    nodeR W ⟨21, [], 0, [a.1, b.1, c.1]⟩ c.2
  else nodeR W ⟨21, [], 0, [a.1, b.1]⟩ b.2
def loopR (ex st : RS → Int × RS) (s : RS) : Int × RS :=
  let a := ex (needWR W en [119, 104, 105, 108, 101] s)
  let b := blockR W en st a.2
  nodeR W ⟨22, [], 0, [a.1, b.1]⟩ b.2
def plainStR (ex : RS → Int × RS) (s : RS) : ND × RS :=
  if wdR W s = [114, 101, 97, 100] then
    let r := placeR W en ex (passR s)
    (⟨18, [], 0, [r.1]⟩, r.2)
  else if wdR W s = [110, 101, 119] then
    let r := placeR W en ex (passR s)
    let q := needNR W en (needWR W en [44] r.2)
    (⟨19, [], q.1, [r.1]⟩, q.2)
  else if wdR W s = [102, 114, 101, 101] then
    let r := ex (passR s)
    (⟨20, [], 0, [r.1]⟩, r.2)
  else if wdR W s = [115, 116, 111, 112] then (⟨23, [], 0, []⟩, passR s)
  else
    let r := placeR W en ex s
    let q := ex (needWR W en [61] r.2)
    (⟨17, [], 0, [r.1, q.1]⟩, q.2)
def stI (ex st : RS → Int × RS) (s : RS) : Int × RS :=
  if wdR W s = [105, 102] then choiceR W en ex st s
  else if wdR W s = [119, 104, 105, 108, 101] then loopR W en ex st s
  else
    let r := plainStR W en ex s
    nodeR W r.1 (needWR W en [59] r.2)
def stB (ex st : RS → Int × RS) (s : RS) : Int × RS := ((stI W en ex st (enterR W en s)).1, leaveR (stI W en ex st (enterR W en s)).2)
def stR : Nat → RS → Int × RS
  | 0 => stB W en (exprR W en 0) (fun s => (0, s))
  | n + 1 => stB W en (exprR W en n) (stR n)
def declL (ty : RS → Int × RS) : Nat → List Int → RS → List Int × RS
  | 0, l, s => (l, s)
  | f + 1, l, s => if wdR W s = [118, 97, 114] then declL ty f (l ++ [(namedR W en ty 2 (needWR W en [118, 97, 114] s)).1]) (namedR W en ty 2 (needWR W en [118, 97, 114] s)).2 else (l, s)
def stsL (st : RS → Int × RS) : Nat → List Int → RS → List Int × RS
  | 0, l, s => (l, s)
  | f + 1, l, s => if s.k < W.length then stsL st f (l ++ [(st s).1]) (st s).2 else (l, s)
def start : RS := ⟨0, 0, [], none⟩
def programR (ty st : RS → Int × RS) : Int × RS :=
  let a := declL W en ty (W.length + 1) [] start
  let b := stsL W st (W.length + 2) a.1 a.2
  nodeR W ⟨1, [], 0, b.1⟩ b.2
end
/-- what Parse tells: the nodes, the place, the error -/
def parseR (l : Tx) : List ND × Nat × Int :=
  match (tellW l).2.2 with
  | 0 =>
    match (programR (tellW l).1 l.length (typeR (tellW l).1 l.length 20) (stR (tellW l).1 l.length 20)).2.bad with
    | none => ((programR (tellW l).1 l.length (typeR (tellW l).1 l.length 20) (stR (tellW l).1 l.length 20)).2.t, 0, 0)
    | some (a, e) => ([], a, e)
  | e => ([], (tellW l).2.1, e)
end Go.Proofs.YtkhklndmbfbnoaaGreatDoor

/- Package tree's reader, as plain data: each step goes on, and keeps what holds of it. -/
namespace Go.Proofs.YtkhklndmbfbnoaaGreatDoor
set_option linter.unusedVariables false

section
variable {W : List (Tx × Nat)} {en : Nat}
theorem wdR_end {s : RS} (h : W.length ≤ s.k) : wdR W s = [] := by
  unfold wdR
  rw [List.getD_eq_getElem?_getD, List.getElem?_eq_none h]
  rfl
theorem wdR_lt {s : RS} (h : wdR W s ≠ []) : s.k < W.length := by
  rcases Nat.lt_or_ge s.k W.length with h1 | h1
  · exact h1
  · exact absurd (wdR_end h1) h
theorem wdR_good {s : RS} (hi : Inv W s) (h : wdR W s ≠ []) : s.bad = none := by
  have h1 := wdR_lt h
  cases hb : s.bad with
  | none => rfl
  | some x =>
    have := hi.2.2.1 (by rw [hb]; simp)
    omega
theorem bad_k {s : RS} (hi : Inv W s) (h : s.bad ≠ none) : s.k = W.length := hi.2.2.1 h
theorem failR_bad (a : Nat) (e : Int) {s : RS} (hi : Inv W s) (h : s.bad ≠ none) : failR W a e s = s := by
  obtain ⟨k, ar, t, bad⟩ := s
  have hk := hi.2.2.1 h
  dsimp only at hk h
  cases bad with
  | none => exact absurd rfl h
  | some x => subst hk; rfl
theorem needR_bad (p : Tx → Bool) (hp : p [] = false) {s : RS} (hi : Inv W s) (h : s.bad ≠ none) : needR W en p s = ([], s) := by
  unfold needR
  rw [wdR_end (by rw [bad_k hi h]; exact Nat.le_refl _), hp, failR_bad _ _ hi h]
  rfl
theorem nodeR_bad (x : ND) {s : RS} (h : s.bad ≠ none) : nodeR W x s = (0, s) := by
  unfold nodeR
  cases hb : s.bad with
  | none => exact absurd hb h
  | some y => rfl
def Dp (n : Nat) (s : RS) : Prop := s.bad = none → 20 ≤ s.ar + n ∧ s.ar ≤ 20
def Stq (c d : Nat) (s s' : RS) : Prop := s'.ar = s.ar ∧ (s'.bad = none → s.bad = none ∧ s'.t.length + s.k + c ≤ s.t.length + s'.k ∧ s.k + d ≤ s'.k)
/-- a reader that came of another one -/
def Ok (W : List (Tx × Nat)) (n c d : Nat) (s0 s : RS) : Prop := Inv W s0 ∧ Inv W s ∧ Stq c d s0 s ∧ Dp n s
theorem Inv.fail {a : Nat} {e : Int} {s : RS} (hi : Inv W s) (he : e ≠ 0) : Inv W (failR W a e s) := by
  refine ⟨Nat.le_refl _, fun h => ?_, fun _ => rfl, fun a' e' h => ?_⟩
  · unfold failR at h
    cases hb : s.bad <;> rw [hb] at h <;> cases h
  · unfold failR at h
    dsimp only at h
    cases hb : s.bad with
    | none => rw [hb] at h; cases h; exact he
    | some x => rw [hb] at h; cases h; exact hi.2.2.2 _ _ hb
theorem fail_bad {a : Nat} {e : Int} {s : RS} : (failR W a e s).bad ≠ none := by
  unfold failR
  cases s.bad <;> simp
theorem Inv.pass {s : RS} (hi : Inv W s) (h : s.k < W.length) : Inv W (passR s) := by
  refine ⟨h, fun hb => ?_, fun hb => ?_, hi.2.2.2⟩
  · have := hi.2.1 hb
    show s.t.length ≤ s.k + 1 + 1 ∧ _
    exact ⟨by omega, this.2⟩
  · have := hi.2.2.1 hb
    omega
theorem Inv.need {p : Tx → Bool} (hp : p [] = false) {s : RS} (hi : Inv W s) : Inv W (needR W en p s).2 := by
  unfold needR
  split
  · rename_i h
    exact hi.pass (wdR_lt (fun h0 => by rw [h0, hp] at h; cases h))
  · exact hi.fail (by decide)
theorem Inv.node {x : ND} {s : RS} (hi : Inv W s) (h : s.bad = none → s.t.length ≤ s.k) : Inv W (nodeR W x s).2 := by
  unfold nodeR
  cases hb : s.bad with
  | some y => exact hi
  | none =>
    dsimp only
    split
    · exact hi.fail (by decide)
    · have := hi.2.1 hb
      have := h hb
      refine ⟨hi.1, fun _ => ?_, fun h => absurd rfl h, fun a e h => by cases h⟩
      simp
      omega
variable {n c d : Nat} {s0 s : RS}
theorem Ok.refl (hi : Inv W s) (hd : Dp n s) : Ok W n 0 0 s s := ⟨hi, hi, ⟨rfl, fun h => ⟨h, by omega, by omega⟩⟩, hd⟩
theorem Ok.fails (h : Ok W n c d s0 s) (a : Nat) (e : Int) (he : e ≠ 0) (c' d' : Nat) : Ok W n c' d' s0 (failR W a e s) :=
  ⟨h.1, h.2.1.fail he, ⟨h.2.2.1.1, fun hb => absurd hb fail_bad⟩, fun hb => absurd hb fail_bad⟩
theorem Ok.pass (h : Ok W n c d s0 s) (hw : wdR W s ≠ []) : Ok W n (c + 1) (d + 1) s0 (passR s) := by
  obtain ⟨h1, h2, ⟨h3, h4⟩, h5⟩ := h
  refine ⟨h1, h2.pass (wdR_lt hw), ⟨h3, fun hb => ?_⟩, h5⟩
  obtain ⟨a, b, e⟩ := h4 hb
  exact ⟨a, by show s.t.length + s0.k + (c + 1) ≤ s0.t.length + (s.k + 1); omega, by show s0.k + (d + 1) ≤ s.k + 1; omega⟩
theorem Ok.need (h : Ok W n c d s0 s) {p : Tx → Bool} (hp : p [] = false) : Ok W n (c + 1) (d + 1) s0 (needR W en p s).2 := by
  unfold needR
  split
  · rename_i hq
    exact h.pass (fun h0 => by rw [h0, hp] at hq; cases hq)
  · exact h.fails _ _ (by decide) _ _
theorem Ok.needW (h : Ok W n c d s0 s) {x : Tx} (hx : x ≠ []) : Ok W n (c + 1) (d + 1) s0 (needWR W en x s) := h.need (by rw [beq_eq_false_iff_ne]; exact fun h => hx h.symm)
theorem Ok.room (h : Ok W n (c + 1) d s0 s) : s.bad = none → s.t.length ≤ s.k := fun hb => by
  obtain ⟨h1, h2, ⟨h3, h4⟩, h5⟩ := h
  obtain ⟨a, b, e⟩ := h4 hb
  have := h1.2.1 a
  omega
theorem Ok.node (h : Ok W n (c + 1) d s0 s) (x : ND) : Ok W n c d s0 (nodeR W x s).2 := by
  have hr := h.room
  obtain ⟨h1, h2, ⟨h3, h4⟩, h5⟩ := h
  refine ⟨h1, h2.node hr, ?_, ?_⟩
  · unfold nodeR
    cases hb : s.bad with
    | some y => exact ⟨h3, fun h => by rw [hb] at h; cases h⟩
    | none =>
      dsimp only
      split
      · exact ⟨h3, fun h => absurd h fail_bad⟩
      · obtain ⟨a, b, e⟩ := h4 hb
        refine ⟨h3, fun _ => ⟨a, ?_, e⟩⟩
        simp
        omega
  · unfold nodeR
    cases hb : s.bad with
    | some y => exact h5
    | none =>
      dsimp only
      split
      · exact fun h => absurd h fail_bad
      · exact fun _ => h5 hb
theorem Ok.call {c' d' : Nat} {s' : RS} (h : Ok W n c d s0 s) (h' : Ok W n c' d' s s') : Ok W n (c + c') (d + d') s0 s' := by
  obtain ⟨h1, h2, ⟨h3, h4⟩, h5⟩ := h
  obtain ⟨_, k2, ⟨k3, k4⟩, k5⟩ := h'
  refine ⟨h1, k2, ⟨k3.trans h3, fun hb => ?_⟩, k5⟩
  obtain ⟨a, b, e⟩ := k4 hb
  obtain ⟨a', b', e'⟩ := h4 a
  exact ⟨a', by omega, by omega⟩
theorem Ok.less {c' d' : Nat} (h : Ok W n c d s0 s) (hc : c' ≤ c) (hd : d' ≤ d) : Ok W n c' d' s0 s := by
  obtain ⟨h1, h2, ⟨h3, h4⟩, h5⟩ := h
  exact ⟨h1, h2, ⟨h3, fun hb => by obtain ⟨a, b, e⟩ := h4 hb; exact ⟨a, by omega, by omega⟩⟩, h5⟩
end
/-- a part of the grammar -/
def Fng (W : List (Tx × Nat)) (n : Nat) (f : RS → Int × RS) : Prop := ∀ s, Inv W s → Dp n s → Ok W n 0 1 s (f s).2
section
variable {W : List (Tx × Nat)} {en n c d : Nat} {s0 s : RS} {ex ty st : RS → Int × RS}
theorem Ok.fn (h : Ok W n c d s0 s) (hf : Fng W n ex) : Ok W n c (d + 1) s0 (ex s).2 := by
  have := h.call (hf s h.2.1 h.2.2.2)
  simpa using this
theorem called_ok (he : Fng W n ex) (op : Int) (name : Tx) (h : Ok W n c d s0 s) : Ok W n (c + 1) (d + 1) s0 (calledR W en ex op name s).2 :=
  (((h.needW (by decide)).fn he).needW (by decide)).node _ |>.less (by omega) (by omega)
theorem plainPlace_ok (he : Fng W n ex) (h : Ok W n c d s0 s) : Ok W n c (d + 1) s0 (plainPlaceR W en ex s).2 := by
  unfold plainPlaceR
  split
  · rename_i hw
    exact (called_ok he _ _ ((h.pass (by rw [hw]; decide)).need (by decide))).less (by omega) (by omega)
  · exact ((h.need (by decide)).node _).less (by omega) (by omega)
theorem placeL_ok (he : Fng W n ex) : ∀ (f : Nat) (r : Int × RS), Ok W n c d s0 r.2 → Ok W n c d s0 (placeL W en ex f r).2 := by
  intro f
  induction f with
  | zero => exact fun r h => h
  | succ f ih =>
    intro r h
    unfold placeL
    split
    · rename_i hw
      exact ih _ ((((h.pass (by rw [hw]; decide)).need (by decide)).node _).less (by omega) (by omega))
    · split
      · rename_i hw
        exact ih _ (((((h.pass (by rw [hw]; decide)).fn he).needW (by decide)).node _).less (by omega) (by omega))
      · exact h
theorem place_ok (he : Fng W n ex) (h : Ok W n c d s0 s) : Ok W n c (d + 1) s0 (placeR W en ex s).2 := placeL_ok he _ _ (plainPlace_ok he h)
theorem number_ok (h : Ok W n c d s0 s) : Ok W n c (d + 1) s0 (numberR W en s).2 :=
  ((((h.need (by decide)).needW (by decide)).need (by decide)).node _).less (by omega) (by omega)
theorem two_ok (he : Fng W n ex) (h : Ok W n c d s0 s) : Ok W n c (d + 1) s0 (twoR W en ex s).2 :=
  ((((((h.needW (by decide)).fn he).need (by decide)).fn he).needW (by decide)).node _).less (by omega) (by omega)
theorem exprI_ok (he : Fng W n ex) (h : Ok W n c d s0 s) : Ok W n c (d + 1) s0 (exprI W en ex s).2 := by
  unfold exprI
  split
  · exact number_ok h
  · split
    · rename_i hw
      exact (called_ok he _ _ (h.pass (fun h0 => by rw [h0] at hw; revert hw; decide))).less (by omega) (by omega)
    · split
      · rename_i hw
        exact (((h.pass (fun h0 => by rw [h0] at hw; revert hw; decide)).fn he).node _).less (by omega) (by omega)
      · split
        · rename_i hw
          exact ((place_ok he (h.pass (by rw [hw]; decide))).node _).less (by omega) (by omega)
        · split
          · exact two_ok he h
          · exact place_ok he h
theorem place_bad (hi : Inv W s) (h : s.bad ≠ none) : placeR W en ex s = (0, s) := by
  have hw : wdR W s = [] := wdR_end (by rw [bad_k hi h]; exact Nat.le_refl _)
  unfold placeR plainPlaceR
  rw [hw, if_neg (by decide)]
  dsimp only
  rw [needR_bad _ (by decide) hi h, nodeR_bad _ h]
  unfold placeL
  rw [hw, if_neg (by decide), if_neg (by decide)]
theorem exprI_bad (hi : Inv W s) (h : s.bad ≠ none) : exprI W en ex s = (0, s) := by
  have hw : wdR W s = [] := wdR_end (by rw [bad_k hi h]; exact Nat.le_refl _)
  unfold exprI
  rw [hw, if_neg (by decide), if_neg (by decide), if_neg (by decide), if_neg (by decide), if_neg (by decide)]
  exact place_bad hi h
theorem enter_inv (hi : Inv W s) : Inv W (enterR W en s) := by
  unfold enterR
  split
  · have := hi.fail (a := hereR W en s) (e := 2) (by decide)
    exact ⟨Nat.le_refl _, fun h => absurd h (fail_bad (W := W)), fun _ => rfl, this.2.2.2⟩
  · exact hi
theorem enter_good (hd : Dp n s) (h : (enterR W en s).bad = none) : s.bad = none ∧ s.ar ≠ 20 ∧ (enterR W en s) = ⟨s.k, s.ar + 1, s.t, s.bad⟩ ∧ ∃ m, n = m + 1 ∧ Dp m (enterR W en s) := by
  unfold enterR at h ⊢
  by_cases h20 : s.ar = 20
  · rw [if_pos h20] at h
    exact absurd h (fail_bad (W := W))
  · rw [if_neg h20] at h ⊢
    have := hd h
    refine ⟨h, h20, rfl, n - 1, by omega, fun _ => ?_⟩
    show 20 ≤ s.ar + 1 + (n - 1) ∧ s.ar + 1 ≤ 20
    omega
theorem leave_ok {s' : RS} (hi : Inv W s) (h : Ok W n 0 1 (enterR W en s) s') (hd : Dp c s) (hg : (enterR W en s).bad = none) : Ok W c 0 1 s (leaveR s') := by
  obtain ⟨h0, h1, h2, _⟩ := enter_good hd hg
  obtain ⟨_, k2, ⟨k3, k4⟩, k5⟩ := h
  rw [h2] at k3 k4
  have ha : (leaveR s').ar = s.ar := by show s'.ar - 1 = s.ar; rw [k3]; rfl
  refine ⟨hi, k2, ⟨ha, fun hb => ?_⟩, fun hb => ?_⟩
  · obtain ⟨a, b, e⟩ := k4 hb
    exact ⟨a, b, e⟩
  · rw [ha]
    exact hd h0
theorem leave_bad (hi : Inv W s) (h : (enterR W en s).bad ≠ none) (d : Nat) : Ok W c 0 d s (leaveR (enterR W en s)) := by
  refine ⟨hi, enter_inv hi, ⟨?_, fun hb => absurd hb h⟩, fun hb => absurd hb h⟩
  unfold leaveR enterR
  split <;> simp
theorem exprB_bad (hi : Inv W s) (h : (enterR W en s).bad ≠ none) : exprB W en ex s = (0, leaveR (enterR W en s)) := by
  unfold exprB
  rw [exprI_bad (enter_inv hi) h]
theorem expr_ok : ∀ n, Fng W n (exprR W en n) := by
  intro n
  induction n with
  | zero =>
    intro s hi hd
    by_cases h : (enterR W en s).bad = none
    · obtain ⟨_, _, _, m, hm, _⟩ := enter_good hd h
      omega
    · unfold exprR
      rw [exprB_bad hi h]
      exact leave_bad hi h 1
  | succ n ih =>
    intro s hi hd
    unfold exprR
    by_cases h : (enterR W en s).bad = none
    · obtain ⟨_, _, _, m, hm, hdm⟩ := enter_good hd h
      obtain rfl : m = n := by omega
      unfold exprB
      exact leave_ok hi (exprI_ok ih (Ok.refl (enter_inv hi) hdm)) hd h
    · rw [exprB_bad hi h]
      exact leave_bad hi h 1
theorem named_ok (ht : Fng W n ty) (op : Int) (h : Ok W n c d s0 s) : Ok W n (c + 2) (d + 1) s0 (namedR W en ty op s).2 :=
  (((((h.need (by decide)).needW (by decide)).fn ht).needW (by decide)).node _).less (by omega) (by omega)
theorem fieldsL_ok (ht : Fng W n ty) : ∀ (f : Nat) (l : List Int) (s : RS), Ok W n c d s0 s → Ok W n c d s0 (fieldsL W en ty f l s).2 := by
  intro f
  induction f with
  | zero => exact fun l s h => h
  | succ f ih =>
    intro l s h
    unfold fieldsL
    split
    · exact ih _ _ ((named_ok ht 7 h).less (by omega) (by omega))
    · exact h
theorem fields_ok (ht : Fng W n ty) (op : Int) (h : Ok W n c d s0 s) : Ok W n c (d + 1) s0 (fieldsR W en ty op s).2 :=
  (((fieldsL_ok ht _ _ _ (named_ok ht 7 (h.needW (by decide)))).needW (by decide)).node _).less (by omega) (by omega)
theorem plainType_ok (ht : Fng W n ty) (h : Ok W n c d s0 s) : Ok W n c (d + 1) s0 (plainTypeR W en ty s).2 := by
  unfold plainTypeR
  split
  · rename_i hw
    exact (fields_ok ht _ (h.pass (by rw [hw]; decide))).less (by omega) (by omega)
  · split
    · rename_i hw
      exact (fields_ok ht _ (h.pass (by rw [hw]; decide))).less (by omega) (by omega)
    · exact ((h.need (by decide)).node _).less (by omega) (by omega)
theorem typeL_ok : ∀ (f : Nat) (r : Int × RS), Ok W n c d s0 r.2 → Ok W n c d s0 (typeL W en f r).2 := by
  intro f
  induction f with
  | zero => exact fun r h => h
  | succ f ih =>
    intro r h
    unfold typeL
    split
    · rename_i hw
      exact ih _ (((((h.pass (by rw [hw]; decide)).need (by decide)).needW (by decide)).node _).less (by omega) (by omega))
    · exact h
theorem typeI_ok (ht : Fng W n ty) (h : Ok W n c d s0 s) : Ok W n c (d + 1) s0 (typeI W en ty s).2 := typeL_ok _ _ (plainType_ok ht h)
theorem typeI_bad (hi : Inv W s) (h : s.bad ≠ none) : typeI W en ty s = (0, s) := by
  have hw : wdR W s = [] := wdR_end (by rw [bad_k hi h]; exact Nat.le_refl _)
  unfold typeI plainTypeR
  rw [hw, if_neg (by decide), if_neg (by decide)]
  dsimp only
  rw [needR_bad _ (by decide) hi h, nodeR_bad _ h]
  unfold typeL
  rw [hw, if_neg (by decide)]
theorem typeB_bad (hi : Inv W s) (h : (enterR W en s).bad ≠ none) : typeB W en ty s = (0, leaveR (enterR W en s)) := by
  unfold typeB
  rw [typeI_bad (enter_inv hi) h]
theorem type_ok : ∀ n, Fng W n (typeR W en n) := by
  intro n
  induction n with
  | zero =>
    intro s hi hd
    by_cases h : (enterR W en s).bad = none
    · obtain ⟨_, _, _, m, hm, _⟩ := enter_good hd h
      omega
    · unfold typeR
      rw [typeB_bad hi h]
      exact leave_bad hi h 1
  | succ n ih =>
    intro s hi hd
    unfold typeR
    by_cases h : (enterR W en s).bad = none
    · obtain ⟨_, _, _, m, hm, hdm⟩ := enter_good hd h
      obtain rfl : m = n := by omega
      unfold typeB
      exact leave_ok hi (typeI_ok ih (Ok.refl (enter_inv hi) hdm)) hd h
    · rw [typeB_bad hi h]
      exact leave_bad hi h 1
theorem blockL_ok (hs : Fng W n st) : ∀ (f : Nat) (l : List Int) (s : RS), Ok W n c d s0 s → Ok W n c d s0 (blockL W st f l s).2 := by
  intro f
  induction f with
  | zero => exact fun l s h => h
  | succ f ih =>
    intro l s h
    unfold blockL
    split
    · exact ih _ _ ((h.fn hs).less (by omega) (by omega))
    · exact h
theorem block_ok (hs : Fng W n st) (h : Ok W n c d s0 s) : Ok W n (c + 1) (d + 1) s0 (blockR W en st s).2 :=
  (((blockL_ok hs _ _ _ (h.needW (by decide))).needW (by decide)).node _).less (by omega) (by omega)
theorem choice_ok (he : Fng W n ex) (hs : Fng W n st) (h : Ok W n c d s0 s) : Ok W n c (d + 1) s0 (choiceR W en ex st s).2 := by
  unfold choiceR
  dsimp only
  split
  · rename_i hw
    exact ((block_ok hs ((block_ok hs ((h.needW (by decide)).fn he)).pass (by rw [hw]; decide))).node _).less (by omega) (by omega)
  · exact ((block_ok hs ((h.needW (by decide)).fn he)).node _).less (by omega) (by omega)
theorem loop_ok (he : Fng W n ex) (hs : Fng W n st) (h : Ok W n c d s0 s) : Ok W n c (d + 1) s0 (loopR W en ex st s).2 :=
  ((block_ok hs ((h.needW (by decide)).fn he)).node _).less (by omega) (by omega)
theorem plainSt_ok (he : Fng W n ex) (h : Ok W n c d s0 s) : Ok W n c d s0 (plainStR W en ex s).2 := by
  unfold plainStR
  split
  · rename_i hw
    exact (place_ok he (h.pass (by rw [hw]; decide))).less (by omega) (by omega)
  · split
    · rename_i hw
      exact (((place_ok he (h.pass (by rw [hw]; decide))).needW (by decide)).need (by decide)).less (by omega) (by omega)
    · split
      · rename_i hw
        exact ((h.pass (by rw [hw]; decide)).fn he).less (by omega) (by omega)
      · split
        · rename_i hw
          exact (h.pass (by rw [hw]; decide)).less (by omega) (by omega)
        · exact (((place_ok he h).needW (by decide)).fn he).less (by omega) (by omega)
theorem stI_ok (he : Fng W n ex) (hs : Fng W n st) (h : Ok W n c d s0 s) : Ok W n c (d + 1) s0 (stI W en ex st s).2 := by
  unfold stI
  split
  · exact choice_ok he hs h
  · split
    · exact loop_ok he hs h
    · exact ((plainSt_ok he h).needW (by decide)).node _
theorem stI_bad (hi : Inv W s) (h : s.bad ≠ none) (hex : ∀ s, Inv W s → s.bad ≠ none → ∃ v, ex s = (v, s)) : stI W en ex st s = (0, s) := by
  have hw : wdR W s = [] := wdR_end (by rw [bad_k hi h]; exact Nat.le_refl _)
  obtain ⟨v, hv⟩ := hex s hi h
  have hn : ∀ x, x ≠ [] → needWR W en x s = s := fun x hx => by
    unfold needWR
    rw [needR_bad _ (by rw [beq_eq_false_iff_ne]; exact fun h => hx h.symm) hi h]
  unfold stI plainStR
  rw [hw, if_neg (by decide), if_neg (by decide), if_neg (by decide), if_neg (by decide), if_neg (by decide), if_neg (by decide)]
  dsimp only
  rw [place_bad hi h]
  dsimp only
  rw [hn _ (by decide), hv]
  dsimp only
  rw [hn _ (by decide), nodeR_bad _ h]
theorem expr_bad : ∀ n s, Inv W s → s.bad ≠ none → exprR W en n s = (0, leaveR (enterR W en s)) := by
  intro n s hi h
  have hb : (enterR W en s).bad ≠ none := by
    unfold enterR
    split
    · exact fail_bad (W := W)
    · exact h
  cases n with
  | zero => exact exprB_bad hi hb
  | succ n => exact exprB_bad hi hb
theorem leave_enter_bad (hi : Inv W s) (h : s.bad ≠ none) : leaveR (enterR W en s) = s := by
  obtain ⟨k, ar, t, bad⟩ := s
  have hk := hi.2.2.1 h
  dsimp only at hk h
  subst hk
  cases bad with
  | none => exact absurd rfl h
  | some x =>
    unfold leaveR enterR
    by_cases h20 : ar = 20
    · subst h20
      simp [failR]
    · simp [h20]
theorem st_ok : ∀ n, Fng W n (stR W en n) := by
  have hex : ∀ n s, Inv W s → s.bad ≠ none → ∃ v, exprR W en n s = (v, s) := fun n s hi h => ⟨0, by rw [expr_bad n s hi h, leave_enter_bad hi h]⟩
  intro n
  induction n with
  | zero =>
    intro s hi hd
    by_cases h : (enterR W en s).bad = none
    · obtain ⟨_, _, _, m, hm, _⟩ := enter_good hd h
      omega
    · unfold stR stB
      rw [stI_bad (enter_inv hi) h (hex 0)]
      exact leave_bad hi h 1
  | succ n ih =>
    intro s hi hd
    unfold stR stB
    by_cases h : (enterR W en s).bad = none
    · obtain ⟨_, _, _, m, hm, hdm⟩ := enter_good hd h
      obtain rfl : m = n := by omega
      exact leave_ok hi (stI_ok (expr_ok m) ih (Ok.refl (enter_inv hi) hdm)) hd h
    · rw [stI_bad (enter_inv hi) h (hex n)]
      exact leave_bad hi h 1
end
end Go.Proofs.YtkhklndmbfbnoaaGreatDoor
