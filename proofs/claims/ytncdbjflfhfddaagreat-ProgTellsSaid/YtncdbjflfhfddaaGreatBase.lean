/- Words and laws over any program: what slices that came in yield, appends to rows of the call's own, masks. Nothing here speaks of one translation. -/
import Derived.Test.YtncdbjflfhfddaaGreatRows
import Derived.WalkKit
import Derived.ProofKit
import Derived.WalkLawsBesides
import Derived.WalkSpells
import Derived.Laws.AppendOwnNone
import Derived.Lib.SmallJoins
import Derived.LoopTactic
import Derived.Outline
import Derived.Deep.QuietTactic
import Derived.BigQuiet
import Derived.Lib.Hide
import Derived.ChangeOld
import Derived.SizedLaws
namespace Go.Proofs.YtncdbjflfhfddaaGreat
open Go.ChangeShapes Go.WideShapes Go.ChangeAt Go.RowKit Go.Joins Go.Deep
set_option linter.unusedVariables false

theorem and_mask (n : Int) (k : Nat) (hk : k ≤ 62) : bits .and .i64 n (2 ^ k - 1) = n % 2 ^ k := by
  have e1 : ((2 : Int) ^ k - 1) = ((2 ^ k - 1 : Nat) : Int) := by
    have : 1 ≤ 2 ^ k := Nat.one_le_two_pow
    rw [Int.natCast_sub this]; simp
  have h62 : (2 : Nat) ^ k ≤ 2 ^ 62 := Nat.pow_le_pow_right (by decide) hk
  have e2 : (BitVec.ofInt 64 ((2 : Int) ^ k - 1)).toNat = 2 ^ k - 1 := by
    rw [e1, BitVec.ofInt_natCast, BitVec.toNat_ofNat]
    exact Nat.mod_eq_of_lt (by omega)
  show IntKind.i64.wrap ((BitVec.ofInt 64 n &&& BitVec.ofInt 64 ((2 : Int) ^ k - 1)).toNat : Int) = _
  rw [BitVec.toNat_and, e2, Nat.and_two_pow_sub_one_eq_mod]
  have e3 : ((BitVec.ofInt 64 n).toNat : Int) = n % 2 ^ 64 := by
    rw [BitVec.toNat_ofInt]
    have : 0 ≤ n % ((2 ^ 64 : Nat) : Int) := Int.emod_nonneg _ (by decide)
    omega
  have e4 : (((BitVec.ofInt 64 n).toNat % 2 ^ k : Nat) : Int) = n % 2 ^ k := by
    rw [Int.natCast_emod, e3]
    have hd : ((2 : Int) ^ k) ∣ 2 ^ 64 := ⟨2 ^ (64 - k), by rw [← Int.pow_add]; congr 1; omega⟩
    simp only [Int.natCast_pow, Int.cast_ofNat_Int]
    exact Int.emod_emod_of_dvd n hd
  rw [e4]
  have l0 : 0 ≤ n % 2 ^ k := Int.emod_nonneg _ (by have : (0:Int) < 2 ^ k := Int.pow_pos (by decide); omega)
  have l1 : n % 2 ^ k < 2 ^ 62 := by
    have a : n % 2 ^ k < 2 ^ k := Int.emod_lt_of_pos _ (Int.pow_pos (by decide))
    have b : ((2 : Int) ^ k) ≤ 2 ^ 62 := by exact_mod_cast h62
    omega
  generalize n % 2 ^ k = m at *
  simp [IntKind.wrap, IntKind.bits, IntKind.signed]
  omega
theorem and_255 (n : Int) : bits .and .i64 n 255 = n % 256 := and_mask n 8 (by decide)
theorem and_65535 (n : Int) : bits .and .i64 n 65535 = n % 65536 := and_mask n 16 (by decide)
theorem and_4294967295 (n : Int) : bits .and .i64 n 4294967295 = n % 4294967296 := and_mask n 32 (by decide)
theorem ret_2 {a b c d : Int} (h : a = b) (h' : c = d) : Ending.returned (.tuple #[.int .i64 a, .int .i64 c]) = .returned (.tuple #[.int .i64 b, .int .i64 d]) := by rw [h, h']

/-- A slice of integers that came in: where it has elements, it leads to a row of them. -/
def IsInts (w : World) (p : Option Addr) (len : Nat) (zs : List Int) : Prop :=
  len ≤ maxLen ∧ (zs.length = len ∧ ∀ n ∈ zs, (Lit.int .i64 n).wf = true) ∧ (0 < len → ∃ b off, p = some ⟨b, off, none⟩ ∧ b < w.heap.size ∧ ∀ i, i < len → w.cell? ⟨b, off + i, none⟩ = some (.int .i64 (zs.getD i 0)))

def IsStrs (w : World) (p : Option Addr) (len : Nat) (ss : List ByteArray) : Prop :=
  len ≤ maxLen ∧ ss.length = len ∧ (∀ s ∈ ss, s.size ≤ maxLen) ∧ (0 < len → ∃ b off, p = some ⟨b, off, none⟩ ∧ b < w.heap.size ∧ ∀ i, i < len → w.cell? ⟨b, off + i, none⟩ = some (.string (ss.getD i ByteArray.empty)))

theorem IsInts.below {w w' : World} {p : Option Addr} {len : Nat} {zs : List Int} (h : IsInts w p len zs) (hb : Below w.heap.size w w') : IsInts w' p len zs := by
  obtain ⟨a, c, d⟩ := h
  refine ⟨a, c, fun hl => ?_⟩
  obtain ⟨x, off, rfl, hx, hc⟩ := d hl
  exact ⟨x, off, rfl, by have := hb.size; omega, fun i hi => (hb.cell (p := ⟨x, off + i, none⟩) hx).trans (hc i hi)⟩
theorem IsStrs.below {w w' : World} {p : Option Addr} {len : Nat} {zs : List ByteArray} (h : IsStrs w p len zs) (hb : Below w.heap.size w w') : IsStrs w' p len zs := by
  obtain ⟨a, c, e, d⟩ := h
  refine ⟨a, c, e, fun hl => ?_⟩
  obtain ⟨x, off, rfl, hx, hc⟩ := d hl
  exact ⟨x, off, rfl, by have := hb.size; omega, fun i hi => (hb.cell (p := ⟨x, off + i, none⟩) hx).trans (hc i hi)⟩

theorem wf_of_mem {zs : List Int} (h : ∀ n ∈ zs, (Lit.int .i64 n).wf = true) (k : Nat) : -9223372036854775808 ≤ zs.getD k 0 ∧ zs.getD k 0 ≤ 9223372036854775807 := by
  by_cases hk : k < zs.length
  · have := h (zs.getD k 0) (by rw [List.getD_eq_getElem?_getD, List.getElem?_eq_getElem hk]; simp)
    simpa [Lit.wf, IntKind.min, IntKind.max, IntKind.signed, IntKind.bits] using this
  · rw [List.getD_eq_getElem?_getD, List.getElem?_eq_none (by omega)]; simp

/-- WHAT A SLICE THAT CAME IN YIELDS: nothing, or so many cells. -/
def Yields (w : World) (size : Nat) (p : Option Addr) (m c : Nat) (news : List Value) : Prop :=
  news.length = m * size ∧ (∀ u ∈ news, u.oneCell' = true) ∧ ((p = none ∧ m = 0 ∧ c = 0) ∨ ∃ ad, p = some ad ∧ ∀ j u, news[j]? = some u → w.cell? (ad.add j) = some u)

theorem wpList_append_any {P : Program} {w : World} {ops : Array Oper} {rest : List Oper} {o : Oper} {a : Act} {Q : Exit → Act → World → Prop} (hgd : o.guard = none) (s x : Operand) (t : TypeId)
    (ho : o.op = .call { callee := .builtin .append, args := #[s, x], argTypes := #[t, t] })
    (base : Nat) (e : TypeId) (i : TypeInfo) (z : Value) (size bytes : Nat) (ht : P.underlying t = some (.slice e)) (hi : P.info? e = some i) (hz : i.zero = some z)
    (hsize : i.size = size) (hby : i.bytes = bytes) (hzs : z.cells.size = size) (hsz : 0 < size)
    (v : Value) (n : Nat) (xs : List Value) (hs : a.eval s = v) (hown : w.ownsRow base e size v n xs) (hv : v ≠ .slice none 0 0)
    (p : Option Addr) (m c : Nat) (news : List Value) (hx : a.eval x = .slice p m c) (hy : Yields w size p m c news)
    (h63 : n + m ≤ maxLen) (hbytes : (n + m) * bytes ≤ 140737488355328) (hbase : base ≤ w.heap.size)
    (h : ∀ v' w', w'.ownsRow base e size v' (n + m) (xs ++ news) → w.grownBy w' v.ownBlock → v' ≠ .slice none 0 0 → wpList P ops Q rest (a.put o.dst v') w') : wpList P ops Q (o :: rest) a w := by
  obtain ⟨hl, h1, ⟨rfl, rfl, rfl⟩ | ⟨ad, rfl, hnews⟩⟩ := hy
  · have hn0 : news = [] := by simpa using hl
    subst hn0
    refine wpList_append_own_none hgd s x t ho base e i size ht hi v n xs hs hown hx ?_
    refine h v w (by simpa using hown) ⟨rfl, rfl, rfl, Nat.le_refl _, fun _ _ _ => rfl⟩ hv
  · exact wpList_append_own _ hgd s x t ho base e i z size bytes ht hi hz hsize hby hzs hsz v n xs hs hown ad m c news hx hl hnews h1 h63 hbytes hbase (fun v' w' h2 h3 h4 => h v' w' h2 h3 (fun hh => hv (h4.1 hh).1))

/-- a literal's row is the call's own -/
theorem ownsRow_lit (w : World) (base e size n : Nat) (cur : Array Value) (hb : base ≤ w.heap.size) (hc : cur.size = n * size) (hm : n ≤ maxLen) : (w.alloc (.cells cur e)).ownsRow base e size (.slice (some ⟨w.heap.size, 0, none⟩) n n) n cur.toList := by
  refine ⟨by simpa using hc, Or.inr ⟨w.heap.size, n, cur, rfl, hb, by show (w.heap.push _)[w.heap.size]? = _; simp, Nat.le_refl _, hm, hc, ?_⟩⟩
  rw [← hc, ← Array.length_toList, List.take_length]

/-- an own row's cells -/
theorem ownsRow_cells {w : World} {base e size : Nat} {v : Value} {n : Nat} {xs : List Value} (h : w.ownsRow base e size v n xs) (hv : v ≠ .slice none 0 0) :
    ∃ g cap, v = .slice (some ⟨g, 0, none⟩) n cap ∧ base ≤ g ∧ g < w.heap.size ∧ n ≤ maxLen ∧ ∀ j u, xs[j]? = some u → w.cell? ⟨g, j, none⟩ = some u := by
  obtain ⟨hl, ⟨rfl, _⟩ | ⟨g, cap, cur, rfl, hb, hg, hn, hm, hc, hx⟩⟩ := h
  · exact absurd rfl hv
  · refine ⟨g, cap, rfl, hb, ?_, by omega, fun j u hu => ?_⟩
    · rcases Nat.lt_or_ge g w.heap.size with h' | h'
      · exact h'
      · rw [Array.getElem?_eq_none h'] at hg; cases hg
    · rw [cell_of_block hg]
      rw [← hx, List.getElem?_take] at hu
      split at hu
      · simpa using hu
      · cases hu

/-- A slice of machines that came in. -/
def IsAbis (w : World) (p : Option Addr) (len cap : Nat) (xa : List (Bool × Int)) : Prop :=
  len ≤ maxLen ∧ xa.length = len ∧ ((p = none ∧ len = 0 ∧ cap = 0) ∨ ∃ ad, p = some ad ∧ (0 < len → ad.block < w.heap.size) ∧ ∀ i, i < len → w.cell? (ad.add (2 * i)) = some (.bool (xa.getD i (false, 0)).1) ∧ w.cell? (ad.add (2 * i + 1)) = some (.int .i64 (xa.getD i (false, 0)).2))

def abiCells (xa : List (Bool × Int)) : List Value := xa.flatMap fun x => [.bool x.1, .int .i64 x.2]

theorem abiCells_length (xa : List (Bool × Int)) : (abiCells xa).length = 2 * xa.length := by
  induction xa with
  | nil => rfl
  | cons x r ih => simp only [abiCells, List.flatMap_cons, List.length_append, List.length_cons, List.length_nil] at ih ⊢; omega
theorem abiCells_get (xa : List (Bool × Int)) (i : Nat) (h : i < xa.length) : (abiCells xa)[2 * i]? = some (.bool (xa.getD i (false, 0)).1) ∧ (abiCells xa)[2 * i + 1]? = some (.int .i64 (xa.getD i (false, 0)).2) := by
  induction xa generalizing i with
  | nil => exact absurd h (by simp)
  | cons x r ih =>
    cases i with
    | zero => exact ⟨rfl, rfl⟩
    | succ i =>
      have := ih i (by simpa using h)
      rw [show 2 * (i + 1) = (2 * i) + 1 + 1 by omega]
      exact this
theorem abiCells_one (xa : List (Bool × Int)) : ∀ u ∈ abiCells xa, u.oneCell' = true := by
  intro u hu
  simp only [abiCells, List.mem_flatMap, List.mem_cons, List.not_mem_nil, or_false] at hu
  obtain ⟨x, _, rfl | rfl⟩ := hu <;> rfl
theorem IsAbis.yields {w : World} {p : Option Addr} {len cap : Nat} {xa : List (Bool × Int)} (h : IsAbis w p len cap xa) : Yields w 2 p len cap (abiCells xa) := by
  obtain ⟨_, hl, hp⟩ := h
  refine ⟨by rw [abiCells_length]; omega, abiCells_one xa, ?_⟩
  rcases hp with hp | ⟨ad, rfl, _, hc⟩
  · exact Or.inl hp
  · refine Or.inr ⟨ad, rfl, fun j u hu => ?_⟩
    have hj : j < 2 * xa.length := by
      rcases Nat.lt_or_ge j (2 * xa.length) with h | h
      · exact h
      · rw [List.getElem?_eq_none (by rw [abiCells_length]; omega)] at hu; cases hu
    obtain ⟨i, rfl | rfl⟩ : ∃ i, j = 2 * i ∨ j = 2 * i + 1 := ⟨j / 2, by omega⟩
    · rw [(abiCells_get xa i (by omega)).1] at hu; rw [← hu]; exact (hc i (by omega)).1
    · rw [(abiCells_get xa i (by omega)).2] at hu; rw [← hu]; exact (hc i (by omega)).2
theorem add_block (a : Addr) (n : Nat) : (a.add n).block = a.block := by unfold Addr.add; split <;> rfl
theorem IsAbis.below {w w' : World} {p : Option Addr} {len cap : Nat} {xa : List (Bool × Int)} (h : IsAbis w p len cap xa) (hb : Below w.heap.size w w') : IsAbis w' p len cap xa := by
  obtain ⟨a, c, d⟩ := h
  refine ⟨a, c, ?_⟩
  rcases d with d | ⟨ad, rfl, hx, hc⟩
  · exact Or.inl d
  · refine Or.inr ⟨ad, rfl, fun hl => by have := hb.size; have := hx hl; omega, fun i hi => ?_⟩
    have hx' := hx (by omega)
    exact ⟨(hb.cell (p := ad.add (2 * i)) (by rw [add_block]; exact hx')).trans (hc i hi).1, (hb.cell (p := ad.add (2 * i + 1)) (by rw [add_block]; exact hx')).trans (hc i hi).2⟩


theorem IsInts.yields {w : World} {p : Option Addr} {len cap : Nat} {zs : List Int} (h : IsInts w p len zs) (hc : p = none → cap = 0) : Yields w 1 p len cap (zs.map (Value.int .i64)) := by
  obtain ⟨_, ⟨hl, _⟩, hp⟩ := h
  refine ⟨by simp; omega, fun u hu => by obtain ⟨x, _, rfl⟩ := List.mem_map.1 hu; rfl, ?_⟩
  cases p with
  | none =>
    refine Or.inl ⟨rfl, ?_, hc rfl⟩
    rcases Nat.eq_zero_or_pos len with h | h
    · exact h
    · obtain ⟨b, off, h', _⟩ := hp h; cases h'
  | some ad =>
    refine Or.inr ⟨ad, rfl, fun j u hu => ?_⟩
    rw [List.getElem?_map, Option.map_eq_some_iff] at hu
    obtain ⟨x, hx, rfl⟩ := hu
    have hj : j < zs.length := (List.getElem?_eq_some_iff.1 hx).1
    obtain ⟨b, off, h', _, hcell⟩ := hp (by omega)
    cases h'
    have := hcell j (by omega)
    rw [List.getD_eq_getElem?_getD, hx] at this
    unfold Addr.add
    by_cases h0 : j = 0
    · subst h0; simpa using this
    · simpa [h0] using this

theorem ints_of {P : Program} {t e : TypeId} (ht : P.underlying t = some (.slice e)) (he : P.underlying e = some (.int .i64)) (hc : P.cellsOf e = 1) {H : Type} {enc : TypeId × Value → H} {W : World} {v : Value} {y : DataW H × List MemPlace} {m : Nat} (h : DataW.trod enc P W 0 (fun _ => true) true m t [v] = some y) :
    ∃ p len cap zs, v = .slice p len cap ∧ IsInts W p len zs ∧ (p = none → cap = 0) ∧ (len = 0 ∨ ∃ elems spare, y.1 = .slice elems spare ∧ elems.length = len) := by
  rcases open_ints ht he hc h with ⟨hcs, _⟩ | ⟨x, l, c, zs, hcs, _, hl, hm, hz, hy, hcell, hwz⟩
  · simp at hcs
    subst hcs
    exact ⟨none, 0, 0, [], rfl, ⟨by simp [maxLen], ⟨rfl, by simp⟩, fun h => absurd h (by omega)⟩, (fun _ => rfl), Or.inl rfl⟩
  · simp at hcs
    subst hcs
    refine ⟨some x, l, c, zs.take l, rfl, ⟨by omega, ⟨?_, fun n hn => hwz n (List.mem_of_mem_take hn)⟩, fun hlt => ?_⟩, (fun h => by cases h), Or.inr ⟨_, _, by rw [hy], by simp [lits]; simp at hz; omega⟩⟩
    · simp at hz; simp; omega
    · obtain ⟨b, off, spot⟩ := x
      simp at hz
      have hc := hcell 0 (by omega)
      have hspot : spot = none := by simpa [Addr.add] using World.cell?_spot hc
      subst hspot
      have hb := World.block_lt_of_cell? W _ hc
      refine ⟨b, off, rfl, by simpa [Addr.add] using hb, fun i hi => ?_⟩
      have h1 := hcell i (by omega)
      have e1 : (zs.take l).getD i 0 = zs.getD i 0 := by simp [List.getD, hi]
      rw [e1, ← h1]
      unfold Addr.add
      by_cases h0 : i = 0 <;> simp [h0]
theorem strs_of {P : Program} {t e : TypeId} (ht : P.underlying t = some (.slice e)) (he : P.underlying e = some .string) (hc : P.cellsOf e = 1) {H : Type} {enc : TypeId × Value → H} {W : World} {v : Value} {y : DataW H × List MemPlace} {m : Nat} (h : DataW.trod enc P W 0 (fun _ => true) true m t [v] = some y) :
    ∃ p len cap zs, v = .slice p len cap ∧ IsStrs W p len zs := by
  rcases open_strings ht he hc h with ⟨hcs, _⟩ | ⟨x, l, c, zs, hcs, _, hl, hm, hz, _, hcell, hwz⟩
  · simp at hcs
    subst hcs
    exact ⟨none, 0, 0, [], rfl, by simp [maxLen], rfl, by simp, fun h => absurd h (by omega)⟩
  · simp at hcs
    subst hcs
    refine ⟨some x, l, c, zs.take l, rfl, by omega, ?_, fun n hn => hwz n (List.mem_of_mem_take hn), fun hlt => ?_⟩
    · simp at hz; simp; omega
    · obtain ⟨b, off, spot⟩ := x
      simp at hz
      have hc := hcell 0 (by omega)
      have hspot : spot = none := by simpa [Addr.add] using World.cell?_spot hc
      subst hspot
      have hb := World.block_lt_of_cell? W _ hc
      refine ⟨b, off, rfl, by simpa [Addr.add] using hb, fun i hi => ?_⟩
      have h1 := hcell i (by omega)
      have e1 : (zs.take l).getD i ByteArray.empty = zs.getD i ByteArray.empty := by simp [List.getD, hi]
      rw [e1, ← h1]
      unfold Addr.add
      by_cases h0 : i = 0 <;> simp [h0]


/-- A slice of machines. -/
theorem abis_of {P : Program} {t e eb ei : TypeId} {f0 f1 : Field} (ht : P.underlying t = some (.slice e)) (he : P.underlying e = some (.struct #[f0, f1])) (hc : P.cellsOf e = 2)
    (hf0 : f0.type = eb ∧ f0.offset = 0 ∧ P.cellsOf eb = 1 ∧ P.underlying eb = some .bool) (hf1 : f1.type = ei ∧ f1.offset = 1 ∧ P.cellsOf ei = 1 ∧ P.underlying ei = some (.int .i64))
    {H : Type} {enc : TypeId × Value → H} {W : World} {v : Value} {y : DataW H × List MemPlace} {m : Nat} (h : DataW.trod enc P W 0 (fun _ => true) true m t [v] = some y) :
    ∃ p len cap xa, v = .slice p len cap ∧ IsAbis W p len cap xa ∧ (len = 0 ∨ ∃ elems spare, y.1 = .slice elems spare ∧ elems.length = len) := by
  rcases open_slice ht h with ⟨hcs, _⟩ | ⟨ad, len, cap, m, n, D, Pl, hcs, _, hl, hm, hmm, hy, hx⟩
  · simp at hcs
    subst hcs
    exact ⟨none, 0, 0, [], rfl, ⟨by simp [maxLen], rfl, Or.inl ⟨rfl, rfl, rfl⟩⟩, Or.inl rfl⟩
  · simp at hcs
    subst hcs
    have each : ∀ i, i < len → ∃ x : Bool × Int, W.cell? (ad.add (2 * i)) = some (.bool x.1) ∧ W.cell? (ad.add (2 * i + 1)) = some (.int .i64 x.2) := by
      intro i hi
      obtain ⟨cs', h1, h2⟩ := hx i (by simp at hmm; omega)
      rw [hc] at h1
      obtain ⟨_, hlen, hcell⟩ := World.cells?_some h1
      obtain ⟨y0, y1, n', _, _, t0, t1⟩ := trod_struct2 he h2
      obtain ⟨c0, c1, rfl⟩ : ∃ c0 c1, cs' = [c0, c1] := by
        match cs', hlen with
        | [c0, c1], _ => exact ⟨c0, c1, rfl⟩
      rw [hf0.1, hf0.2.1, hf0.2.2.1] at t0
      rw [hf1.1, hf1.2.1, hf1.2.2.1] at t1
      obtain ⟨b, e0, _⟩ := DataW.trod_bool hf0.2.2.2 t0
      obtain ⟨k, e1, _⟩ := DataW.trod_int hf1.2.2.2 t1
      simp at e0 e1
      subst e0 e1
      refine ⟨(b, k), ?_, ?_⟩
      · have := hcell 0 (by omega)
        rw [add_add] at this
        simpa [Nat.mul_comm] using this
      · have := hcell 1 (by omega)
        rw [add_add] at this
        simpa [Nat.mul_comm] using this
    obtain ⟨f, hf⟩ := choose_lt (α := Bool × Int) each
    refine ⟨some ad, len, cap, (List.range len).map f, rfl, ⟨by omega, by simp, Or.inr ⟨ad, rfl, fun hpos => ?_, fun i hi => ?_⟩⟩, Or.inr ⟨_, _, by rw [hy], by simp⟩⟩
    · have := World.block_lt_of_cell? W _ (hf 0 hpos).1
      rw [add_block] at this
      exact this
    · have := hf i hi
      have e : ((List.range len).map f).getD i (false, 0) = f i := by simp [List.getD, hi]
      rw [e]; exact this

theorem reach_parts {P : Program} {t : TypeId} {fs : Array Field} {H : Type} {parts : List (DataW H)} (h : (DataW.weightsEach P [t] [.agg parts]).all (· ≤ reachBytes) = true) (hs : P.underlying t = some (.struct fs)) :
    (DataW.weightsEach P (fs.toList.map (·.type)) parts).all (· ≤ reachBytes) = true := by
  simpa [DataW.weightsEach, DataW.weights, hs] using h

end Go.Proofs.YtncdbjflfhfddaaGreat
