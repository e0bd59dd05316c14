/- Bytes copied over a row's run: the builtin copy at structs, as one step of a region. -/
import Derived.Test.YtnhbaigagphpmaaKCopy
import Derived.Laws.CopyOwn
namespace Go.Proofs.Ytnhbaigagphpmaa
open Go.ChangeShapes Go.WideShapes Go.ChangeAt Go.RowKit Go.Joins Go.Deep
set_option linter.unusedVariables false

theorem run_copy_rowS {P : Program} (w : World) (dT sT ty elem : TypeId) (size g o dLen dCap : Nat) (a : Addr) (sLen sCap n : Nat) (cur : Array Value) (t : TypeId) (cs : List Value)
    (hu : P.underlying dT = some (.slice elem)) (hs : (P.info? elem).map (·.size) = some size)
    (hg : w.heap[g]? = some (.cells cur t (0, 0))) (hn : n = Nat.min sLen dLen) (hl : cs.length = n * size)
    (hsrc : ∀ j v, cs[j]? = some v → w.cell? (a.add j) = some v) (hfit : o + cs.length ≤ cur.size) (h1 : ∀ v ∈ cs, v.oneCell' = true) :
    (Builtin.copy_ #[dT, sT] ty #[.slice (some ⟨g, o, none⟩) dLen dCap, .slice (some a) sLen sCap]).run P w =
      .ok (goInt n) (w.setRow g (cur.toList.take o ++ cs ++ cur.toList.drop (o + cs.length)).toArray) := by
  have hfc := run_firstCells_some (P := P) w size n a sLen sCap cs hl hsrc
  have hst := run_storeCells_at P g o t cs 0 cur w hg (by simpa using hfit) h1
  cases hq : P.info? elem with
  | none => simp [hq] at hs
  | some i =>
    have hi : i.size = size := by simpa [hq] using hs
    simp [Builtin.copy_, run_underlying hu, Builtin.lenOf, sizeOf, typeInfo, hq, hi, ← hn, hfc, hst]
theorem only_setRow (w : World) (g : Nat) (cs : Array Value) : Only g w (w.setRow g cs) :=
  ⟨⟨rfl, rfl, rfl, by simp [World.setRow], fun k hk => setRow_other w g k cs (by omega)⟩, fun k hk _ => setRow_other w g k cs hk⟩
theorem step_copy_row {P : Program} {ops : Array Oper} {o : Oper} {a : Act} {w : World} {K : Act → World → Prop} {Q : Exit → Act → World → Prop} {E : Prop} (hgd : o.guard = none) (d s : Operand) (dT sT : TypeId)
    (ho : o.op = .call { callee := .builtin .copy, args := #[d, s], argTypes := #[dT, sT] }) (elem : TypeId) (hu : P.underlying dT = some (.slice elem)) (size : Nat) (hsz : (P.info? elem).map (·.size) = some size)
    (g off dLen dCap : Nat) (ad : Addr) (sLen sCap n : Nat) (hd : a.eval d = .slice (some ⟨g, off, none⟩) dLen dCap) (hs : a.eval s = .slice (some ad) sLen sCap)
    (cur : Array Value) (t : TypeId) (hg : w.heap[g]? = some (.cells cur t (0, 0))) (cs : List Value) (hn : n = Nat.min sLen dLen) (hl : cs.length = n * size)
    (hsrc : ∀ j v, cs[j]? = some v → w.cell? (ad.add j) = some v) (hfit : off + cs.length ≤ cur.size) (h1 : ∀ v ∈ cs, v.oneCell' = true)
    (h : ∀ w', At w' g (cur.toList.take off ++ cs ++ cur.toList.drop (off + cs.length)).toArray t → Only g w w' → K (a.put o.dst (goInt n)) w') :
    if Region.wanted o (yielded ops a.tmps) = true then Oper.wp P o a w K Q else E := by
  have hw : Region.wanted o (yielded ops a.tmps) = true := by simp [Region.wanted, hgd]
  rw [if_pos hw]
  have hrun := run_copy_rowS (P := P) w dT sT o.type elem size g off dLen dCap ad sLen sCap n cur t cs hu hsz hg hn hl hsrc hfit h1
  unfold Oper.wp
  simp [execOp, ho, resolve, invoke, builtin, hd, hs, hrun, Result.andThen]
  simp only [List.append_assoc] at h
  exact h _ (setRow_heap w g _ _ t _ hg) (only_setRow w g _)
/-- a row's run written over -/
def putAt (ys : List BY) (o : Nat) (xs : List BY) : List BY := ys.take o ++ xs ++ ys.drop (o + xs.length)
theorem putAt_len {ys xs : List BY} {o : Nat} (h : o + xs.length ≤ ys.length) : (putAt ys o xs).length = ys.length := by simp [putAt]; omega
theorem putAt_get {ys xs : List BY} {o : Nat} (h : o + xs.length ≤ ys.length) (i : Nat) : (putAt ys o xs).getD i default = if o ≤ i ∧ i < o + xs.length then xs.getD (i - o) default else ys.getD i default := by
  unfold putAt
  simp only [List.getD_eq_getElem?_getD]
  by_cases h1 : i < o
  · rw [if_neg (by omega), List.append_assoc, List.getElem?_append_left (by rw [List.length_take]; omega), List.getElem?_take, if_pos h1]
  · by_cases h2 : i < o + xs.length
    · rw [if_pos ⟨by omega, h2⟩, List.append_assoc, List.getElem?_append_right (by rw [List.length_take]; omega), List.getElem?_append_left (by rw [List.length_take]; omega), List.length_take, Nat.min_eq_left (by omega)]
    · rw [if_neg (by omega), List.getElem?_append_right (by rw [List.length_append, List.length_take]; omega), List.getElem?_drop, List.length_append, List.length_take, Nat.min_eq_left (by omega)]
      congr 2
      omega
theorem BRow.splice {w' : World} {g o : Nat} {cs : Array Value} {ys xs : List BY} (hsz : ys.length * 5 ≤ cs.size) (hget : ∀ i, i < ys.length → ∀ c, c < 5 → cs[i * 5 + c]? = (byCells (ys.getD i default))[c]?)
    (hfit : o + xs.length ≤ ys.length) (h : At w' g (cs.toList.take (o * 5) ++ flatY xs ++ cs.toList.drop (o * 5 + (flatY xs).length)).toArray 67) : BRow w' g (putAt ys o xs) := by
  have hfl := flatY_len xs
  refine ⟨_, h, ?_, fun i hi c hc => ?_⟩
  · rw [putAt_len hfit]
    simp [hfl]
    omega
  · rw [putAt_len hfit] at hi
    rw [putAt_get hfit, List.getElem?_toArray]
    by_cases h1 : i < o
    · rw [if_neg (by omega), List.append_assoc, List.getElem?_append_left (by rw [List.length_take]; simp; omega), List.getElem?_take, if_pos (by omega), Array.getElem?_toList]
      exact hget i hi c hc
    · by_cases h2 : i < o + xs.length
      · rw [if_pos ⟨by omega, h2⟩, List.append_assoc, List.getElem?_append_right (by rw [List.length_take]; simp; omega), List.getElem?_append_left (by rw [List.length_take, hfl]; simp; omega)]
        rw [List.length_take]
        rw [show i * 5 + c - min (o * 5) cs.toList.length = (i - o) * 5 + c by simp; omega]
        exact flat_get xs (i - o) (by omega) c hc
      · rw [if_neg (by omega), List.getElem?_append_right (by rw [List.length_append, List.length_take, hfl]; simp; omega), List.getElem?_drop, List.length_append, List.length_take, hfl]
        rw [show o * 5 + xs.length * 5 + (i * 5 + c - (min (o * 5) cs.toList.length + xs.length * 5)) = i * 5 + c by simp; omega, Array.getElem?_toList]
        exact hget i hi c hc
end Go.Proofs.Ytnhbaigagphpmaa
