/- Words of a text, as plain data: which bytes are passed over, how long the longest word is, where a text's words begin. Nothing here speaks of one translation. -/
import Derived.Lib.Atoi
namespace Go.Proofs.YtkhklndmbfbnoaaGreatDoor
set_option linter.unusedVariables false

def letB (c : UInt8) : Bool := decide (97 ≤ (c.toNat : Int)) && decide ((c.toNat : Int) ≤ 122)
def digB (c : UInt8) : Bool := decide (48 ≤ (c.toNat : Int)) && decide ((c.toNat : Int) ≤ 57)
def namB (c : UInt8) : Bool := letB c || digB c
def endB (c : UInt8) : Bool := (c.toNat : Int) == 10 || (c.toNat : Int) == 13
def blaB (c : UInt8) : Bool := (c.toNat : Int) == 32 || (c.toNat : Int) == 9
def hasB (c : UInt8) : Bool := (c.toNat : Int) == 35
/-- how many are such, from the begin on -/
def runN (p : UInt8 → Bool) : List UInt8 → Nat
  | [] => 0
  | c :: l => if p c then runN p l + 1 else 0
theorem runN_le (p : UInt8 → Bool) (l : List UInt8) : runN p l ≤ l.length := by
  induction l with
  | nil => exact Nat.le_refl _
  | cons c l ih => unfold runN; split <;> simp <;> omega
theorem runN_step {p : UInt8 → Bool} {l : List UInt8} {k : Nat} (h : k < l.length) : runN p (l.drop k) = if p (l.getD k 0) then runN p (l.drop (k + 1)) + 1 else 0 := by
  rw [List.drop_eq_getElem_cons h]
  have e : l.getD k 0 = l[k] := by simp [List.getD, h]
  rw [e]
  rfl
theorem runN_end {p : UInt8 → Bool} {l : List UInt8} {k : Nat} (h : l.length ≤ k) : runN p (l.drop k) = 0 := by rw [List.drop_eq_nil_of_le h]; rfl
theorem runN_pos {p : UInt8 → Bool} {c : UInt8} {l : List UInt8} (h : p c = true) : runN p (c :: l) = runN p l + 1 := by rw [show runN p (c :: l) = if p c then runN p l + 1 else 0 from rfl, if_pos h]
theorem runN_all {p : UInt8 → Bool} {l : List UInt8} (h : runN p l = l.length) : ∀ c ∈ l, p c = true := by
  induction l with
  | nil => simp
  | cons a l ih =>
    unfold runN at h
    split at h
    · rename_i ha
      intro c hc
      rcases List.mem_cons.1 hc with rfl | hc
      · exact ha
      · exact ih (by simpa using h) c hc
    · simp at h
/-- a pair of signs -/
def pairB : List UInt8 → Bool
  | a :: b :: _ => (a == 61 && b == 61) || (a == 60 && b == 60) || (a == 62 && b == 62)
  | _ => false
def signs : List UInt8 := [123, 125, 40, 41, 91, 93, 59, 58, 44, 46, 61, 43, 45, 42, 47, 37, 38, 124, 94, 126, 33, 60]
def cap (m n : Nat) : Nat := if m < n then 0 else n
/-- how long the longest word is with which these begin; 0: none -/
def longN (l : List UInt8) : Nat :=
  match l with
  | [] => 0
  | c :: r => if letB c then cap 8 (runN namB l) else if (c.toNat : Int) == 48 then cap 1 (runN digB l) else if digB c then cap 10 (runN digB l) else if pairB l then 2 else if signs.contains c then 1 else 0
theorem cap_le (m n : Nat) : cap m n ≤ n := by unfold cap; split <;> omega
theorem longN_le (l : List UInt8) : longN l ≤ l.length := by
  match l with
  | [] => exact Nat.le_refl _
  | c :: r =>
    unfold longN
    have h1 := runN_le namB (c :: r)
    have h2 := runN_le digB (c :: r)
    dsimp only
    split
    · exact Nat.le_trans (cap_le _ _) h1
    · split
      · exact Nat.le_trans (cap_le _ _) h2
      · split
        · exact Nat.le_trans (cap_le _ _) h2
        · split
          · rename_i h
            match r with
            | [] => simp [pairB] at h
            | b :: r => simp
          · split <;> simp
theorem longN_pos {l : List UInt8} (h : 0 < longN l) : 0 < l.length := by
  match l with
  | [] => simp [longN] at h
  | c :: r => simp
/-- how many are passed over ahead of whatever is to be a word -/
def gapN : Bool → List UInt8 → Nat
  | _, [] => 0
  | p, c :: r => if endB c then gapN false r + 1 else if hasB c then gapN true r + 1 else if !p && !blaB c then 0 else gapN p r + 1
theorem gapN_le (p : Bool) (l : List UInt8) : gapN p l ≤ l.length := by
  induction l generalizing p with
  | nil => exact Nat.le_refl _
  | cons c l ih =>
    unfold gapN
    have := ih false
    have := ih true
    have := ih p
    split
    · simp; omega
    · split
      · simp; omega
      · split <;> simp
        omega
def nextP (p : Bool) (c : UInt8) : Bool := if endB c then false else if hasB c then true else p
def stopB (p : Bool) (c : UInt8) : Bool := !endB c && !hasB c && !p && !blaB c
theorem gapN_cons (p : Bool) (c : UInt8) (r : List UInt8) : gapN p (c :: r) = if endB c then gapN false r + 1 else if hasB c then gapN true r + 1 else if !p && !blaB c then 0 else gapN p r + 1 := rfl
theorem gapN_step {p : Bool} {l : List UInt8} {k : Nat} (h : k < l.length) : gapN p (l.drop k) = if stopB p (l.getD k 0) then 0 else gapN (nextP p (l.getD k 0)) (l.drop (k + 1)) + 1 := by
  rw [List.drop_eq_getElem_cons h]
  have e : l.getD k 0 = l[k] := by simp [List.getD, h]
  rw [e, gapN_cons]
  unfold stopB nextP
  cases endB l[k] <;> cases hasB l[k] <;> cases p <;> cases blaB l[k] <;> simp
theorem gapN_end {p : Bool} {l : List UInt8} {k : Nat} (h : l.length ≤ k) : gapN p (l.drop k) = 0 := by rw [List.drop_eq_nil_of_le h]; rfl
/-- the words from a place on, and where they end -/
def scan : Nat → Bool → List UInt8 → Nat → List (List UInt8 × Nat) × Nat
  | 0, p, l, at' => ([], at' + gapN p l)
  | f + 1, p, l, at' =>
    if longN (l.drop (gapN p l)) = 0 then ([], at' + gapN p l)
    else (((l.drop (gapN p l)).take (longN (l.drop (gapN p l))), at' + gapN p l) :: (scan f false (l.drop (gapN p l + longN (l.drop (gapN p l)))) (at' + gapN p l + longN (l.drop (gapN p l)))).1,
      (scan f false (l.drop (gapN p l + longN (l.drop (gapN p l)))) (at' + gapN p l + longN (l.drop (gapN p l)))).2)
theorem scan_fuel : ∀ (f f' : Nat) (p : Bool) (l : List UInt8) (a : Nat), l.length ≤ f → l.length ≤ f' → scan f p l a = scan f' p l a := by
  have nil : ∀ f p a, scan f p [] a = ([], a) := by
    intro f p a
    cases f <;> simp [scan, gapN, longN]
  intro f
  induction f with
  | zero =>
    intro f' p l a h h'
    have : l = [] := List.eq_nil_of_length_eq_zero (by omega)
    subst this
    rw [nil, nil]
  | succ f ih =>
    intro f' p l a h h'
    cases f' with
    | zero =>
      have : l = [] := List.eq_nil_of_length_eq_zero (by omega)
      subst this
      rw [nil, nil]
    | succ f' =>
      unfold scan
      by_cases h0 : longN (l.drop (gapN p l)) = 0
      · rw [if_pos h0, if_pos h0]
      · rw [if_neg h0, if_neg h0]
        rw [ih f' false _ _ (by rw [List.length_drop]; omega) (by rw [List.length_drop]; omega)]
def scanL (p : Bool) (l : List UInt8) (a : Nat) : List (List UInt8 × Nat) × Nat := scan (l.length + 1) p l a
theorem scanL_of {f : Nat} (p : Bool) (l : List UInt8) (a : Nat) (h : l.length ≤ f) : scan f p l a = scanL p l a := scan_fuel _ _ _ _ _ h (by omega)
theorem scanL_none {p : Bool} {l : List UInt8} {a : Nat} (h : longN (l.drop (gapN p l)) = 0) : scanL p l a = ([], a + gapN p l) := by
  unfold scanL scan; rw [if_pos h]
theorem scanL_some {p : Bool} {l : List UInt8} {a : Nat} {g n : Nat} (hg : gapN p l = g) (hn : longN (l.drop g) = n) (h : 0 < n) :
    scanL p l a = (((l.drop g).take n, a + g) :: (scanL false (l.drop (g + n)) (a + g + n)).1, (scanL false (l.drop (g + n)) (a + g + n)).2) := by
  subst hg; subst hn
  conv => lhs; unfold scanL scan
  rw [if_neg (by omega), scanL_of _ _ _ (by rw [List.length_drop]; omega)]
/-- one byte is passed over -/
theorem scanL_pass {p p' : Bool} {c : UInt8} {r : List UInt8} {a : Nat} (h : gapN p (c :: r) = gapN p' r + 1) : scanL p (c :: r) a = scanL p' r (a + 1) := by
  by_cases h0 : longN (r.drop (gapN p' r)) = 0
  · rw [scanL_none h0, scanL_none (by rw [h]; exact h0), h]
    congr 1; omega
  · rw [scanL_some h (by rw [List.drop_succ_cons]) (by omega), scanL_some (p := p') (l := r) rfl rfl (by omega)]
    rw [List.drop_succ_cons, show gapN p' r + 1 + longN (List.drop (gapN p' r) r) = gapN p' r + longN (List.drop (gapN p' r) r) + 1 by omega, List.drop_succ_cons,
      show a + (gapN p' r + 1) = a + 1 + gapN p' r by omega]
theorem scanL_nil (p : Bool) (a : Nat) : scanL p [] a = ([], a) := by rw [scanL_none rfl]; rfl
theorem scanL_step {p : Bool} {l : List UInt8} {k : Nat} (a : Nat) (h : k < l.length) (hs : stopB p (l.getD k 0) = false) : scanL p (l.drop k) a = scanL (nextP p (l.getD k 0)) (l.drop (k + 1)) (a + 1) := by
  have hg := gapN_step (p := p) h
  rw [hs] at hg
  simp only [Bool.false_eq_true, if_false] at hg
  have e : l.drop k = l[k] :: l.drop (k + 1) := List.drop_eq_getElem_cons h
  rw [e] at hg ⊢
  exact scanL_pass hg
theorem scanL_stop {p : Bool} {l : List UInt8} {k : Nat} (a : Nat) (h : k < l.length) (hs : stopB p (l.getD k 0) = true) :
    (longN (l.drop k) = 0 → scanL p (l.drop k) a = ([], a)) ∧ (0 < longN (l.drop k) → scanL p (l.drop k) a = (((l.drop k).take (longN (l.drop k)), a) :: (scanL false (l.drop (k + longN (l.drop k))) (a + longN (l.drop k))).1, (scanL false (l.drop (k + longN (l.drop k))) (a + longN (l.drop k))).2)) := by
  have hg := gapN_step (p := p) h
  rw [hs] at hg
  simp only [if_true] at hg
  refine ⟨fun h0 => ?_, fun h0 => ?_⟩
  · rw [scanL_none (by rw [hg]; exact h0), hg]; rfl
  · rw [scanL_some hg rfl (by simpa using h0)]
    rw [List.drop_zero, List.drop_drop, Nat.add_zero, Nat.zero_add]
/-- behind a '#': a line's end ends it -/
theorem scanL_line {l : List UInt8} {k : Nat} (a : Nat) (h : l.length ≤ k ∨ endB (l.getD k 0) = true) : scanL true (l.drop k) a = scanL false (l.drop k) a := by
  rcases Nat.lt_or_ge k l.length with h' | h'
  · rcases h with h | h
    · omega
    · have h1 : stopB true (l.getD k 0) = false := by simp only [stopB, h]; rfl
      have h2 : stopB false (l.getD k 0) = false := by simp only [stopB, h]; rfl
      have h3 : nextP true (l.getD k 0) = nextP false (l.getD k 0) := by simp only [nextP, h, if_true]
      rw [scanL_step a h' h1, scanL_step a h' h2, h3]
  · rw [List.drop_eq_nil_of_le h', scanL_nil, scanL_nil]
/-- a text's words, and where they end -/
def cutW (l : List UInt8) : List (List UInt8 × Nat) × Nat := scanL false l 0
theorem scan_end : ∀ (f : Nat) (p : Bool) (l : List UInt8) (a : Nat), (scan f p l a).2 ≤ a + l.length := by
  intro f
  induction f with
  | zero => intro p l a; have := gapN_le p l; simp [scan]; omega
  | succ f ih =>
    intro p l a
    have hg := gapN_le p l
    unfold scan
    split
    · simp; omega
    · have h1 := ih false (l.drop (gapN p l + longN (l.drop (gapN p l)))) (a + gapN p l + longN (l.drop (gapN p l)))
      have h2 := longN_le (l.drop (gapN p l))
      rw [List.length_drop] at h1 h2
      refine Nat.le_trans h1 ?_
      omega
theorem cutW_end (l : List UInt8) : (cutW l).2 ≤ l.length := by have := scan_end (l.length + 1) false l 0; simpa [cutW, scanL] using this
/-- what a call tells: the words, the place, the error -/
def tellW (l : List UInt8) : List (List UInt8 × Nat) × Nat × Int :=
  if 2000 < l.length then ([], 0, 2) else if (cutW l).2 < l.length then ([], (cutW l).2, 4) else ((cutW l).1, 0, 0)
/-- one word? -/
def wordB (l : List UInt8) : Bool := !l.isEmpty && longN l == l.length
def numB (l : List UInt8) : Bool := wordB l && digB (l.headD 0)
def valN (l : List UInt8) : Nat := l.foldl (fun n c => 10 * n + (c.toNat - 48)) 0
theorem valN_snoc (l : List UInt8) (c : UInt8) : valN (l ++ [c]) = 10 * valN l + (c.toNat - 48) := by simp [valN]
theorem cap_eq {m n k : Nat} (h : cap m n = k) (hk : 0 < k) : n = k ∧ n ≤ m := by unfold cap at h; split at h <;> omega
/-- a number's word is of digits, at most ten -/
theorem numB_digits {l : List UInt8} (h : numB l = true) : l.length ≤ 10 ∧ 0 < l.length ∧ ∀ c ∈ l, digB c = true := by
  simp only [numB, wordB, Bool.and_eq_true, Bool.not_eq_true', beq_iff_eq] at h
  obtain ⟨⟨h0, h1⟩, h2⟩ := h
  match l with
  | [] => simp at h0
  | c :: r =>
    have h2 : digB c = true := h2
    have hl : letB c = false := by
      simp only [digB, Bool.and_eq_true, decide_eq_true_eq] at h2
      simp only [letB, Bool.and_eq_false_iff, decide_eq_false_iff_not]
      omega
    unfold longN at h1
    dsimp only at h1
    rw [hl] at h1
    simp only [Bool.false_eq_true, if_false, h2, if_true] at h1
    split at h1
    · obtain ⟨a, b⟩ := cap_eq h1 (by simp)
      exact ⟨by omega, by simp, runN_all a⟩
    · obtain ⟨a, b⟩ := cap_eq h1 (by simp)
      exact ⟨by omega, by simp, runN_all a⟩
theorem decFrom_val : ∀ (l : List UInt8) (n : Nat), (∀ c ∈ l, digB c = true) → Lib.decFrom n l = some (l.foldl (fun n c => 10 * n + (c.toNat - 48)) n) := by
  intro l
  induction l with
  | nil => intro n _; rfl
  | cons c l ih =>
    intro n h
    have hc := h c (by simp)
    simp only [digB, Bool.and_eq_true, decide_eq_true_eq] at hc
    have hd : Lib.digitVal c = some (c.toNat - 48) := by unfold Lib.digitVal; rw [if_pos (by omega)]
    simp only [Lib.decFrom, hd, List.foldl_cons]
    have := ih (10 * n + (c.toNat - 48)) (fun x hx => h x (by simp [hx]))
    rw [← this, Nat.mul_comm]
theorem atoi_val {l : List UInt8} (h : numB l = true) : Lib.atoi l = some (valN l : Int) := by
  obtain ⟨_, h1, h2⟩ := numB_digits h
  match l with
  | [] => simp at h1
  | c :: r =>
    have hc := h2 c (by simp)
    simp only [digB, Bool.and_eq_true, decide_eq_true_eq] at hc
    have e1 : (c == 45) = false := by rw [beq_eq_false_iff_ne]; rintro rfl; simp at hc
    have e2 : (c == 43) = false := by rw [beq_eq_false_iff_ne]; rintro rfl; simp at hc
    simp only [Lib.atoi, e1, e2, Bool.false_eq_true, if_false, Lib.decNat, List.isEmpty_cons]
    rw [decFrom_val _ 0 h2]
    rfl
theorem fold_bound : ∀ (l : List UInt8) (n k : Nat), (∀ c ∈ l, digB c = true) → n < 10 ^ k → l.foldl (fun n c => 10 * n + (c.toNat - 48)) n < 10 ^ (k + l.length) := by
  intro l
  induction l with
  | nil => intro n k _ h; simpa using h
  | cons c l ih =>
    intro n k h hn
    have hc := h c (by simp)
    simp only [digB, Bool.and_eq_true, decide_eq_true_eq] at hc
    have := ih (10 * n + (c.toNat - 48)) (k + 1) (fun x hx => h x (by simp [hx])) (by rw [Nat.pow_succ]; omega)
    rw [List.foldl_cons, List.length_cons, show k + (l.length + 1) = k + 1 + l.length by omega]
    exact this
theorem valN_bound {l : List UInt8} (h : ∀ c ∈ l, digB c = true) (hl : l.length ≤ 10) : valN l < 100000000000 := by
  have h1 := fold_bound l 0 0 h (by decide)
  have h2 : 10 ^ (0 + l.length) ≤ 10 ^ 10 := Nat.pow_le_pow_right (by decide) (by omega)
  unfold valN
  omega
end Go.Proofs.YtkhklndmbfbnoaaGreatDoor
