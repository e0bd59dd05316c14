/- Package prog, plain: which programs may be, both ways; how statements stand. Nothing here speaks of one translation. -/
import Derived.Test.YtncdbjflfhfddaaGreatGPr
namespace Go.Proofs.YtncdbjflfhfddaaGreat
open Go.ChangeShapes Go.WideShapes Go.ChangeAt Go.RowKit Go.Joins Go.Deep
set_option linter.unusedVariables false

def gN (k : Int) : Bool := decide (1 ≤ k) && decide (k ≤ 6)
def gS (k : Int) : Bool := (k == 7) || gN k
def plB (i below : Int) : Bool := decide (0 ≤ i) && decide (i < below)
def exAt (P : PX) (i : Int) : EX := P.exs.getD i.toNat default
def stAt (P : PX) (i : Int) : SX := P.sts.getD i.toNat default
def kindI (P : PX) (i below : Int) : Int := if plB i below then (exAt P i).kind else 0
def hasTwoB (op : Int) : Bool := decide (8 ≤ op) && decide (op ≤ 22)
def hasOneB (op : Int) : Bool := decide (3 ≤ op) && decide (op ≤ 7)
def fitsTwoB (x : EX) (a b : Int) : Bool :=
  if x.op = 18 ∨ x.op = 19 then (x.kind == 6) && gN a && (a == b)
  else if x.op = 20 then (x.kind == 7) && (a == 7) && (b == 6)
  else if x.op = 21 ∨ x.op = 22 then (x.kind == 6) && (a == 7) && (b == 7)
  else gN x.kind && (a == x.kind) && (b == x.kind)
def fitsOneB (x : EX) (a : Int) : Bool :=
  if x.op = 3 then gS x.kind && (a == 7)
  else if x.op = 4 then gN x.kind && gN a
  else if x.op = 7 then (x.kind == 6) && gS a
  else gN x.kind && (a == x.kind)
def isVarB (P : PX) (n : Int) : Bool := decide (1 ≤ n) && decide (n ≤ P.vars.length)
def isNewB (P : PX) (n : Int) : Bool := decide ((P.vars.length : Int) < n) && decide (n ≤ P.vars.length + P.news.length)
def fitsNoneB (P : PX) (x : EX) : Bool :=
  if x.op = 1 then mayS x.kind ⟨x.kind == 7, x.n, 0, 0⟩
  else if x.op = 2 then (x.kind == 7) && isVarB P x.n
  else false
def isExprB (P : PX) (x : EX) (i : Int) : Bool :=
  if hasTwoB x.op then (x.n == 0) && fitsTwoB x (kindI P x.a i) (kindI P x.b i)
  else if hasOneB x.op then (x.n == 0) && (x.b == 0) && fitsOneB x (kindI P x.a i)
  else if x.a ≠ 0 ∨ x.b ≠ 0 then false
  else fitsNoneB P x
def isStmtB (P : PX) (s : SX) : Bool :=
  if (s.op ≠ 5 ∧ 0 < s.els.length) ∨ (s.op ≠ 5 ∧ s.op ≠ 6 ∧ 0 < s.body.length) then false
  else if s.op = 1 then (s.n == 0) && (kindI P s.to P.exs.length == 7) && gS s.kind && (kindI P s.e P.exs.length == s.kind)
  else if s.op = 2 then (s.e == 0) && (s.n == 0) && (kindI P s.to P.exs.length == 7) && gN s.kind
  else if s.op = 3 then (s.kind == 0) && (s.e == 0) && (kindI P s.to P.exs.length == 7) && isNewB P s.n
  else if s.op = 4 then (s.to == 0) && (s.kind == 0) && (s.n == 0) && (kindI P s.e P.exs.length == 7)
  else if s.op = 5 ∨ s.op = 6 then (s.to == 0) && (s.kind == 0) && (s.n == 0) && (kindI P s.e P.exs.length == 6)
  else if s.op = 7 then (s.to == 0) && (s.kind == 0) && (s.e == 0) && (s.n == 0)
  else false
def szB (l : List Int) (most : Nat) : Bool := decide (l.length ≤ most) && l.all fun n => decide (1 ≤ n) && decide (n ≤ 32)
/-- all but how statements stand -/
def formB (P : PX) : Bool :=
  ((P.ptr == 2) || (P.ptr == 4)) && szB P.vars 4 && szB P.news 2 && decide (P.exs.length ≤ 120) && ((List.range P.exs.length).all fun i => isExprB P (exAt P i) i) && decide (P.sts.length ≤ 40) && P.sts.all (isStmtB P)

/-- on the way through all statements -/
structure GS where
  met : Nat
  inner : List Int
  made : List Bool
instance : Inhabited GS := ⟨⟨0, [], []⟩⟩
def goL {σ : Type} (f : Int → σ → Option σ) : List Int → σ → Option σ
  | [], st => some st
  | i :: r, st => match f i st with
    | none => none
    | some st' => goL f r st'
def newS (s : SX) (lo : Bool) (st : GS) : Option GS :=
  if s.op = 3 then (if lo || st.made.getD s.n.toNat true then none else some { st with made := st.made.set s.n.toNat true }) else some st
def goS (P : PX) (rec : List Int → Int → Bool → GS → Option GS) (deep : Int) (lo : Bool) (i : Int) (st : GS) : Option GS :=
  if i = st.met ∧ st.met < P.sts.length then
    match newS (P.sts.getD st.met default) lo { st with met := st.met + 1, inner := st.inner.set st.met deep } with
    | none => none
    | some st2 => match rec (P.sts.getD st.met default).body (deep + 1) (lo || ((P.sts.getD st.met default).op == 6)) st2 with
      | none => none
      | some st3 => rec (P.sts.getD st.met default).els (deep + 1) lo st3
  else none
def goF (P : PX) : Nat → List Int → Int → Bool → GS → Option GS
  | 0, l, _, _, st => if l.length = 0 then some st else none
  | n + 1, l, deep, lo, st => goL (goS P (goF P n) deep lo) l st
def go0 (P : PX) : GS := ⟨0, List.replicate P.sts.length 0, List.replicate (1 + P.vars.length + P.news.length) false⟩
def goA (P : PX) : Option GS := match goF P 6 P.main 0 false (go0 P) with
  | none => none
  | some st => if st.met = P.sts.length then some st else none
/-- a program that may be -/
def progB (P : PX) : Bool := formB P && (goA P).isSome
def innerL (P : PX) : List Int := match goA P with
  | none => []
  | some st => st.inner

/-- the document's own way -/
structure RS where
  last : Int
  seen : Nat
  inner : List Int
  loop : List Bool
  news : List Bool
instance : Inhabited RS := ⟨⟨0, 0, [], [], []⟩⟩
def newR (P : PX) (s : SX) (lo : Bool) (st : RS) : Option RS :=
  if s.op = 3 then (if lo || st.news.getD (s.n - P.vars.length - 1).toNat true then none else some { st with news := st.news.set (s.n - P.vars.length - 1).toNat true }) else some st
def boS (P : PX) (rec : List Int → Int → Bool → RS → Option RS) (deep : Int) (lo : Bool) (i : Int) (st : RS) : Option RS :=
  if st.last < i ∧ i < P.sts.length then
    match newR P (stAt P i) lo { st with last := i, seen := st.seen + 1, inner := st.inner.set i.toNat deep, loop := st.loop.set i.toNat lo } with
    | none => none
    | some st2 => match rec (stAt P i).body (deep + 1) (lo || ((stAt P i).op == 6)) st2 with
      | none => none
      | some st3 => rec (stAt P i).els (deep + 1) lo st3
  else none
def boF (P : PX) : Nat → List Int → Int → Bool → RS → Option RS
  | 0, l, _, _, st => if l.length = 0 then some st else none
  | n + 1, l, deep, lo, st => goL (boS P (boF P n) deep lo) l st
def bo0 (P : PX) : RS := ⟨-1, 0, List.replicate P.sts.length 0, List.replicate P.sts.length false, List.replicate P.news.length false⟩

structure RelR (P : PX) (st : GS) (rs : RS) : Prop where
  last : rs.last + 1 = st.met
  seen : rs.seen = st.met
  inner : rs.inner = st.inner
  lm : st.made.length = 1 + P.vars.length + P.news.length
  ln : rs.news.length = P.news.length
  news : ∀ k, k < P.news.length → rs.news.getD k true = st.made.getD (P.vars.length + 1 + k) true
def NewOK (P : PX) : Prop := ∀ s ∈ P.sts, s.op = 3 → isNewB P s.n = true
def Agr (P : PX) : Option GS → Option RS → Prop
  | some a, some b => RelR P a b
  | none, some b => (b.seen : Int) < b.last + 1
  | none, none => True
  | some _, none => False
theorem goL_mono {f : Int → RS → Option RS} (hf : ∀ i st st', f i st = some st' → st.last + 1 - st.seen ≤ st'.last + 1 - st'.seen) : ∀ l st st', goL f l st = some st' → st.last + 1 - st.seen ≤ st'.last + 1 - st'.seen := by
  intro l
  induction l with
  | nil => intro st st' h; simp [goL] at h; subst h; exact Int.le_refl _
  | cons i r ih =>
    intro st st' h
    unfold goL at h
    split at h
    · cases h
    · next s1 h1 => exact Int.le_trans (hf i st s1 h1) (ih s1 st' h)
theorem newR_seen {P : PX} {s : SX} {lo : Bool} {st st' : RS} (h : newR P s lo st = some st') : st'.last = st.last ∧ st'.seen = st.seen ∧ st'.inner = st.inner := by
  unfold newR at h
  split at h
  · split at h
    · cases h
    · injection h with h; subst h; exact ⟨rfl, rfl, rfl⟩
  · injection h with h; subst h; exact ⟨rfl, rfl, rfl⟩
theorem boF_mono (P : PX) : ∀ n l d lo st st', boF P n l d lo st = some st' → st.last + 1 - st.seen ≤ st'.last + 1 - st'.seen := by
  intro n
  induction n with
  | zero => intro l d lo st st' h; unfold boF at h; split at h <;> simp at h; subst h; exact Int.le_refl _
  | succ n ih =>
    intro l d lo st st' h
    unfold boF at h
    refine goL_mono (fun i a b hab => ?_) l st st' h
    unfold boS at hab
    split at hab
    · next hc =>
      split at hab
      · cases hab
      · next s2 h2 =>
        split at hab
        · cases hab
        · next s3 h3 =>
          have e := newR_seen h2
          have m1 := ih _ _ _ _ _ h3
          have m2 := ih _ _ _ _ _ hab
          have e1 : s2.last = i := e.1
          have e2 : s2.seen = a.seen + 1 := e.2.1
          omega
    · cases hab
theorem new_agr {P : PX} {s : SX} {lo : Bool} {a : GS} {b : RS} (hN : s.op = 3 → isNewB P s.n = true) (h : RelR P a b) : Agr P (newS s lo a) (newR P s lo b) := by
  unfold newS newR
  by_cases h3 : s.op = 3
  · rw [if_pos h3, if_pos h3]
    have hn := hN h3
    simp [isNewB] at hn
    obtain ⟨k, hk⟩ : ∃ k : Nat, s.n = P.vars.length + 1 + k := ⟨(s.n - P.vars.length - 1).toNat, by omega⟩
    have e1 : (s.n - P.vars.length - 1).toNat = k := by omega
    have e2 : s.n.toNat = P.vars.length + 1 + k := by omega
    have hk2 : k < P.news.length := by omega
    rw [e1, e2, h.news k hk2]
    by_cases hc : (lo || a.made.getD (P.vars.length + 1 + k) true) = true
    · rw [if_pos hc, if_pos hc]; trivial
    · rw [if_neg hc, if_neg hc]
      refine ⟨h.last, h.seen, h.inner, by simpa using h.lm, by simpa using h.ln, fun j hj => ?_⟩
      by_cases hjk : j = k
      · subst hjk
        have l1 := h.ln
        have l2 := h.lm
        simp [List.getD_eq_getElem?_getD, List.getElem?_set]
        rw [if_pos (by omega), if_pos (by omega)]
      · have := h.news j hj
        simp only [List.getD_eq_getElem?_getD] at this ⊢
        rw [List.getElem?_set_ne (by omega), List.getElem?_set_ne (by omega)]
        exact this
  · rw [if_neg h3, if_neg h3]
    exact h
theorem go_agr (P : PX) (hN : NewOK P) : ∀ n l d lo a b, RelR P a b → Agr P (goF P n l d lo a) (boF P n l d lo b) := by
  intro n
  induction n with
  | zero =>
    intro l d lo a b h
    unfold goF boF
    by_cases hl : l.length = 0
    · rw [if_pos hl, if_pos hl]; exact h
    · rw [if_neg hl, if_neg hl]; trivial
  | succ n ih =>
    intro l d lo
    unfold goF boF
    induction l with
    | nil => intro a b h; exact h
    | cons i r ihl =>
      intro a b h
      have hone : Agr P (goS P (goF P n) d lo i a) (boS P (boF P n) d lo i b) := by
        have hl := h.last
        have hs := h.seen
        unfold goS boS
        by_cases hi : i = a.met ∧ a.met < P.sts.length
        · obtain ⟨rfl, hlt⟩ := hi
          rw [if_pos ⟨rfl, hlt⟩, if_pos ⟨by omega, by omega⟩]
          have e : stAt P (a.met : Int) = P.sts.getD a.met default := by simp [stAt]
          rw [e]
          generalize hs0 : P.sts.getD a.met default = s
          have hm : s ∈ P.sts := by
            rw [← hs0, List.getD_eq_getElem?_getD, List.getElem?_eq_getElem hlt]
            exact List.getElem_mem hlt
          have hr : RelR P { a with met := a.met + 1, inner := a.inner.set a.met d } { b with last := (a.met : Int), seen := b.seen + 1, inner := b.inner.set (a.met : Int).toNat d, loop := b.loop.set (a.met : Int).toNat lo } :=
            ⟨by simp, by simp [hs], by simp [h.inner], h.lm, h.ln, h.news⟩
          have h1 := new_agr (lo := lo) (hN s hm) hr
          revert h1
          generalize newS s lo { a with met := a.met + 1, inner := a.inner.set a.met d } = x
          generalize newR P s lo { b with last := (a.met : Int), seen := b.seen + 1, inner := b.inner.set (a.met : Int).toNat d, loop := b.loop.set (a.met : Int).toNat lo } = y
          cases x with
          | none =>
            cases y with
            | none => intro _; trivial
            | some y =>
              intro h1
              have h1 : (y.seen : Int) < y.last + 1 := h1
              show Agr P none _
              cases hb : boF P n s.body (d + 1) (lo || (s.op == 6)) y with
              | none => simp only [hb]; trivial
              | some y2 =>
                have m1 := boF_mono P _ _ _ _ _ _ hb
                simp only [hb]
                cases hb2 : boF P n s.els (d + 1) lo y2 with
                | none => trivial
                | some y3 =>
                  have m2 := boF_mono P _ _ _ _ _ _ hb2
                  show (y3.seen : Int) < y3.last + 1
                  omega
          | some x =>
            cases y with
            | none => intro h1; exact h1.elim
            | some y =>
              intro h1
              have h2 := ih s.body (d + 1) (lo || (s.op == 6)) x y h1
              revert h2
              simp only []
              generalize goF P n s.body (d + 1) (lo || (s.op == 6)) x = x2
              generalize boF P n s.body (d + 1) (lo || (s.op == 6)) y = y2
              cases x2 with
              | none =>
                cases y2 with
                | none => intro _; trivial
                | some y2 =>
                  intro h2
                  have h2 : (y2.seen : Int) < y2.last + 1 := h2
                  show Agr P none _
                  simp only []
                  cases hb2 : boF P n s.els (d + 1) lo y2 with
                  | none => trivial
                  | some y3 =>
                    have m2 := boF_mono P _ _ _ _ _ _ hb2
                    show (y3.seen : Int) < y3.last + 1
                    omega
              | some x2 =>
                cases y2 with
                | none => intro h2; exact h2.elim
                | some y2 => intro h2; exact ih s.els (d + 1) lo x2 y2 h2
        · rw [if_neg hi]
          by_cases hb : b.last < i ∧ i < P.sts.length
          · rw [if_pos hb]
            have hgap : (b.seen : Int) + 1 < i + 1 := by
              have : i ≠ a.met := fun h => hi ⟨h, by omega⟩
              omega
            show Agr P none _
            split
            · trivial
            · next s2 h2 =>
              have e := newR_seen h2
              have e1 : s2.last = i := e.1
              have e2 : s2.seen = b.seen + 1 := e.2.1
              split
              · trivial
              · next s3 h3 =>
                have m1 := boF_mono P _ _ _ _ _ _ h3
                cases hb2 : boF P n (stAt P i).els (d + 1) lo s3 with
                | none => trivial
                | some y3 =>
                  have m2 := boF_mono P _ _ _ _ _ _ hb2
                  show (y3.seen : Int) < y3.last + 1
                  omega
          · rw [if_neg hb]; trivial
      unfold goL
      revert hone
      generalize goS P (goF P n) d lo i a = x
      generalize hy : boS P (boF P n) d lo i b = y
      cases x with
      | none =>
        cases y with
        | none => intro _; trivial
        | some y =>
          intro h1
          have h1 : (y.seen : Int) < y.last + 1 := h1
          show Agr P none (goL (boS P (boF P n) d lo) r y)
          cases hb2 : goL (boS P (boF P n) d lo) r y with
          | none => trivial
          | some y3 =>
            have m2 := boF_mono P (n + 1) r d lo y y3 hb2
            show (y3.seen : Int) < y3.last + 1
            omega
      | some x =>
        cases y with
        | none => intro h1; exact h1.elim
        | some y => intro h1; exact ihl x y h1
theorem boL_last (P : PX) : ∀ n l d lo b b', boF P n l d lo b = some b' → b.last < P.sts.length → b'.last < P.sts.length := by
  intro n
  induction n with
  | zero => intro l d lo b b' h hb; unfold boF at h; split at h <;> simp at h; subst h; exact hb
  | succ n ih =>
    intro l d lo
    unfold boF
    induction l with
    | nil => intro b b' h hb; simp [goL] at h; subst h; exact hb
    | cons i r ihl =>
      intro b b' h hb
      unfold goL at h
      split at h
      · cases h
      · next s1 h1 =>
        refine ihl s1 b' h ?_
        unfold boS at h1
        split at h1
        · next hc =>
          split at h1
          · cases h1
          · next s2 h2 =>
            have e1 : s2.last = i := (newR_seen h2).1
            split at h1
            · cases h1
            · next s3 h3 =>
              exact ih _ _ _ _ _ h1 (ih _ _ _ _ _ h3 (by omega))
        · cases h1
def boA (P : PX) : Option RS := match boF P 6 P.main 0 false (bo0 P) with
  | none => none
  | some st => if st.seen = P.sts.length then some st else none
theorem stands_agree (P : PX) (hN : NewOK P) : (goA P).isSome = (boA P).isSome ∧ ∀ st rs, goA P = some st → boA P = some rs → rs.inner = st.inner := by
  have h0 : RelR P (go0 P) (bo0 P) := ⟨rfl, rfl, rfl, by simp [go0], by simp [bo0], fun k hk => by
    simp [go0, bo0, List.getD_eq_getElem?_getD, List.getElem?_replicate]
    rw [if_pos hk, if_pos (by omega)]⟩
  have h := go_agr P hN 6 P.main 0 false _ _ h0
  have hl := boL_last P 6 P.main 0 false (bo0 P)
  unfold goA boA
  revert h hl
  generalize goF P 6 P.main 0 false (go0 P) = x
  generalize boF P 6 P.main 0 false (bo0 P) = y
  cases x with
  | none =>
    cases y with
    | none => intro _ _; exact ⟨rfl, fun st rs h => by cases h⟩
    | some y =>
      intro h hl
      have h : (y.seen : Int) < y.last + 1 := h
      have h2 := hl y rfl (by show (-1 : Int) < _; omega)
      have h3 : ¬ y.seen = P.sts.length := by omega
      simp [h3]
  | some x =>
    cases y with
    | none => intro h; exact h.elim
    | some y =>
      intro h _
      have hs := h.seen
      have hi := h.inner
      simp only [hs]
      by_cases hm : x.met = P.sts.length
      · rw [if_pos hm, if_pos hm]
        refine ⟨rfl, fun st rs h1 h2 => ?_⟩
        injection h1 with h1; injection h2 with h2
        subst h1 h2
        exact hi
      · rw [if_neg hm, if_neg hm]
        exact ⟨rfl, fun st rs h => by cases h⟩
end Go.Proofs.YtncdbjflfhfddaaGreat
