/- append onto an own row of whatever row comes in, empty in whatever way or not. Nothing here speaks of one translation. -/
import Derived.Test.YtncdbjflfhfddaaGreatGPr
import Derived.Deep.AppendLies
import Derived.Test.YtncdbjflfhfddaaGreatGN1
namespace Go.Proofs.YtncdbjflfhfddaaGreat
open Go.ChangeShapes Go.WideShapes Go.ChangeAt Go.RowKit Go.Joins Go.Deep
set_option linter.unusedVariables false

def YieldsG (w : World) (size : Nat) (p : Option Addr) (m c : Nat) (news : List Value) : Prop :=
  news.length = m * size ∧ (∀ u ∈ news, u.oneCell' = true) ∧ (m = 0 ∨ ∃ ad, p = some ad ∧ ∀ j u, news[j]? = some u → w.cell? (ad.add j) = some u)
theorem YieldsG.below {w w' : World} {size m c : Nat} {p : Option Addr} {news : List Value} (h : YieldsG w size p m c news) (hb : Below w.heap.size w w') : YieldsG w' size p m c news :=
  ⟨h.1, h.2.1, h.2.2.imp id fun ⟨ad, hp, hc⟩ => ⟨ad, hp, fun j u hu => cell_below (hc j u hu) hb⟩⟩
theorem IsIs.yields {w : World} {q : Option Addr} {n c : Nat} {l : List Int} (h : IsIs w (.slice q n c) l) : YieldsG w 1 q n c (l.map fun x => Value.int .i64 x) := by
  obtain ⟨q', cap, he, hl, hcap, hc⟩ := h
  injection he with h1 h2 h3
  subst h1 h2 h3
  refine ⟨by simp, fun u hu => by obtain ⟨x, _, rfl⟩ := List.mem_map.1 hu; rfl, ?_⟩
  rcases Nat.eq_zero_or_pos l.length with h0 | h0
  · exact Or.inl h0
  · obtain ⟨b, off, rfl, hb, hcell⟩ := hc h0
    refine Or.inr ⟨_, rfl, fun j u hu => ?_⟩
    rw [List.getElem?_map] at hu
    obtain ⟨x, hx, rfl⟩ := Option.map_eq_some_iff.1 hu
    have := hcell j x hx
    rw [add_noneG]
    simpa [QI] using this
theorem run_append_zeroG {P : Program} (w : World) (t ty e : TypeId) (i : TypeInfo) (ht : P.underlying t = some (.slice e)) (hi : P.info? e = some i) (q : Option Addr) (n cap : Nat) (hn : n ≤ cap) (p : Option Addr) (c : Nat) :
    (Builtin.append_ #[t, t] ty #[.slice q n cap, .slice p 0 c]).run P w = .ok (.slice q n cap) w := by
  cases p <;> cases q <;> simp [Builtin.append_, run_underlying ht, sizeOf, typeInfo, hi, Builtin.lenOf, Builtin.firstCells, loadCells, loadCellsFrom, hn, storeCells]
theorem wp_append_anyG {P : Program} {w : World} {o : Oper} {a : Act} {K : Act → World → Prop} {Q : Exit → Act → World → Prop} (s x : Operand) (t : TypeId)
    (ho : o.op = .call { callee := .builtin .append, args := #[s, x], argTypes := #[t, t] })
    (base : Nat) (e : TypeId) (i : TypeInfo) (z : Value) (size bytes : Nat) (ht : P.underlying t = some (.slice e)) (hi : P.info? e = some i) (hz : i.zero = some z)
    (hsize : i.size = size) (hby : i.bytes = bytes) (hzs : z.cells.size = size) (hsz : 0 < size)
    (g n cap : Nat) (xs : List Value) (hs : a.eval s = .slice (some ⟨g, 0, none⟩) n cap) (hown : w.ownsRow base e size (.slice (some ⟨g, 0, none⟩) n cap) n xs)
    (p : Option Addr) (m c : Nat) (news : List Value) (hx : a.eval x = .slice p m c) (hy : YieldsG w size p m c news)
    (h63 : n + m ≤ maxLen) (hbytes : (n + m) * bytes ≤ 140737488355328) (hbase : base ≤ w.heap.size)
    (h : ∀ g' cap' w', w'.ownsRow base e size (.slice (some ⟨g', 0, none⟩) (n + m) cap') (n + m) (xs ++ news) → w.grownBy w' (some g) → K (a.put o.dst (.slice (some ⟨g', 0, none⟩) (n + m) cap')) w') : o.wp P a w K Q := by
  obtain ⟨hl, h1, h0⟩ := hy
  rcases Nat.eq_zero_or_pos m with hm | hm
  · subst hm
    have hn0 : news = [] := by simpa using hl
    subst hn0
    have hnc : n ≤ cap := by
      rcases hown.2 with ⟨h0, _⟩ | ⟨g', cap', cur, hv, hbg, hg, hnc, _⟩
      · cases h0
      · injection hv with _ _ h3
        rw [h3]; exact hnc
    have hr := run_append_zeroG (P := P) w t o.type e i ht hi (some ⟨g, 0, none⟩) n cap hnc p c
    unfold Oper.wp execOp
    simp only [ho, resolve, invoke, builtin, Sem.run_bind, Sem.run_pure, Result.andThen_ok, List.map_toArray, List.map_cons, List.map_nil, hs, hx, hr]
    exact h g cap w (by simpa using hown) ⟨rfl, rfl, rfl, Nat.le_refl _, fun _ _ _ => rfl⟩
  · obtain ⟨ad, rfl, hc⟩ := h0.resolve_left (by omega)
    exact wp_append_lies w s x t ho base e i z size bytes ht hi hz hsize hby hzs hsz _ n xs hs hown ad m c news hx hl hc h1 hm h63 hbytes hbase _ rfl fun g' cap' w' h2 h3 _ _ => h g' cap' w' h2 h3
theorem wpList_append_anyG {P : Program} {w : World} {ops : Array Oper} {rest : List Oper} {o : Oper} {a : Act} {Q : Exit → Act → World → Prop} (hgd : o.guard = none) (s x : Operand) (t : TypeId)
    (ho : o.op = .call { callee := .builtin .append, args := #[s, x], argTypes := #[t, t] })
    (base : Nat) (e : TypeId) (i : TypeInfo) (z : Value) (size bytes : Nat) (ht : P.underlying t = some (.slice e)) (hi : P.info? e = some i) (hz : i.zero = some z)
    (hsize : i.size = size) (hby : i.bytes = bytes) (hzs : z.cells.size = size) (hsz : 0 < size)
    (g n cap : Nat) (xs : List Value) (hs : a.eval s = .slice (some ⟨g, 0, none⟩) n cap) (hown : w.ownsRow base e size (.slice (some ⟨g, 0, none⟩) n cap) n xs)
    (p : Option Addr) (m c : Nat) (news : List Value) (hx : a.eval x = .slice p m c) (hy : YieldsG w size p m c news)
    (h63 : n + m ≤ maxLen) (hbytes : (n + m) * bytes ≤ 140737488355328) (hbase : base ≤ w.heap.size)
    (h : ∀ g' cap' w', w'.ownsRow base e size (.slice (some ⟨g', 0, none⟩) (n + m) cap') (n + m) (xs ++ news) → w.grownBy w' (some g) → wpList P ops Q rest (a.put o.dst (.slice (some ⟨g', 0, none⟩) (n + m) cap')) w') : wpList P ops Q (o :: rest) a w :=
  wpList_plain hgd fun _ hK => wp_append_anyG s x t ho base e i z size bytes ht hi hz hsize hby hzs hsz g n cap xs hs hown p m c news hx hy h63 hbytes hbase fun g' cap' w' h2 h3 => hK _ _ (h g' cap' w' h2 h3)
theorem step_append_anyG {P : Program} {w : World} {ops : Array Oper} {o : Oper} {a : Act} {K : Act → World → Prop} {Q : Exit → Act → World → Prop} {E : Prop} (hgd : o.guard = none) (s x : Operand) (t : TypeId)
    (ho : o.op = .call { callee := .builtin .append, args := #[s, x], argTypes := #[t, t] })
    (base : Nat) (e : TypeId) (i : TypeInfo) (z : Value) (size bytes : Nat) (ht : P.underlying t = some (.slice e)) (hi : P.info? e = some i) (hz : i.zero = some z)
    (hsize : i.size = size) (hby : i.bytes = bytes) (hzs : z.cells.size = size) (hsz : 0 < size)
    (g n cap : Nat) (xs : List Value) (hs : a.eval s = .slice (some ⟨g, 0, none⟩) n cap) (hown : w.ownsRow base e size (.slice (some ⟨g, 0, none⟩) n cap) n xs)
    (p : Option Addr) (m c : Nat) (news : List Value) (hx : a.eval x = .slice p m c) (hy : YieldsG w size p m c news)
    (h63 : n + m ≤ maxLen) (hbytes : (n + m) * bytes ≤ 140737488355328) (hbase : base ≤ w.heap.size)
    (h : ∀ g' cap' w', w'.ownsRow base e size (.slice (some ⟨g', 0, none⟩) (n + m) cap') (n + m) (xs ++ news) → w.grownBy w' (some g) → K (a.put o.dst (.slice (some ⟨g', 0, none⟩) (n + m) cap')) w') :
    if Region.wanted o (yielded ops a.tmps) = true then Oper.wp P o a w K Q else E := by
  have hw : Region.wanted o (yielded ops a.tmps) = true := by simp [Region.wanted, hgd]
  rw [if_pos hw]
  exact wp_append_anyG s x t ho base e i z size bytes ht hi hz hsize hby hzs hsz g n cap xs hs hown p m c news hx hy h63 hbytes hbase h
end Go.Proofs.YtncdbjflfhfddaaGreat

/- Rows of numbers under writes of numbers: they stay rows of numbers. -/
namespace Go.Proofs.YtncdbjflfhfddaaGreat
open Go.ChangeShapes Go.WideShapes Go.ChangeAt Go.RowKit Go.Joins Go.Deep
set_option linter.unusedVariables false

def IsN (v : Value) : Prop := ∃ k : Int, v = .int .i64 k
/-- blocks of numbers hold what they held, or numbers; all others are as they were -/
def IntStep (w w' : World) : Prop :=
  (∀ b cur, At w b cur 3 → ∃ cur', At w' b cur' 3 ∧ cur'.size = cur.size ∧ ∀ (j : Nat) (x : Value), cur'[j]? = some x → cur[j]? = some x ∨ IsN x) ∧ (∀ b cur t, t ≠ 3 → At w b cur t → At w' b cur t)
theorem IntStep.refl (w : World) : IntStep w w := ⟨fun b cur h => ⟨cur, h, rfl, fun j x hx => Or.inl hx⟩, fun b cur t _ h => h⟩
theorem IntStep.trans {a b c : World} (h : IntStep a b) (k : IntStep b c) : IntStep a c := by
  refine ⟨fun x cur hx => ?_, fun x cur t ht hx => k.2 x cur t ht (h.2 x cur t ht hx)⟩
  obtain ⟨c1, a1, s1, e1⟩ := h.1 x cur hx
  obtain ⟨c2, a2, s2, e2⟩ := k.1 x c1 a1
  refine ⟨c2, a2, s2.trans s1, fun j y hy => ?_⟩
  rcases e2 j y hy with h2 | h2
  · exact e1 j y h2
  · exact Or.inr h2
theorem IntStep.below {w w' : World} (hb : Below w.heap.size w w') : IntStep w w' :=
  ⟨fun b cur h => ⟨cur, At.below' hb h, rfl, fun j x hx => Or.inl hx⟩, fun b cur t _ h => At.below' hb h⟩
theorem at_uniq {w : World} {b : Nat} {c c2 : Array Value} {t t2 : TypeId} (h : At w b c t) (h2 : At w b c2 t2) : c = c2 ∧ t = t2 := by
  have h3 := h.symm.trans h2
  injection h3 with h3
  injection h3 with h4 h5 h6
  exact ⟨h4, h5⟩
theorem IntStep.set {w : World} {g : Nat} {cur : Array Value} (hA : At w g cur 3) (j : Nat) (hj : j < cur.size) (k : Int) : IntStep w (w.setCell ⟨g, j, none⟩ (.int .i64 k)) := by
  refine ⟨fun b cur2 h => ?_, fun b cur2 t ht h => ?_⟩
  · by_cases hb : b = g
    · subst hb
      obtain ⟨rfl, _⟩ := at_uniq hA h
      refine ⟨_, At.set hA j (.int .i64 k) hj, by simp, fun i x hx => ?_⟩
      rw [Array.set!_eq_setIfInBounds, Array.getElem?_setIfInBounds] at hx
      by_cases hij : j = i
      · rw [if_pos hij, if_pos (by omega)] at hx
        injection hx with hx
        exact Or.inr ⟨k, hx.symm⟩
      · rw [if_neg hij] at hx
        exact Or.inl hx
    · exact ⟨cur2, (heap_setCell_lt w g j b _ hb).trans h, rfl, fun i x hx => Or.inl hx⟩
  · have hb : b ≠ g := fun e => by
      subst e
      exact ht (at_uniq hA h).2.symm
    exact (heap_setCell_lt w g j b _ hb).trans h
theorem ints_list {cs : List Value} (h : ∀ x ∈ cs, IsN x) : ∃ l : List Int, cs = l.map fun x => Value.int .i64 x := by
  induction cs with
  | nil => exact ⟨[], rfl⟩
  | cons a r ih =>
    obtain ⟨l, hl⟩ := ih fun x hx => h x (List.mem_cons_of_mem _ hx)
    obtain ⟨k, hk⟩ := h a List.mem_cons_self
    exact ⟨k :: l, by rw [hl, hk]; rfl⟩
theorem IntStep.row {w w' : World} {base : Nat} {l : List Int} {v : Value} (h : IntStep w w') (hR : RowZ base l v w) : ∃ l' : List Int, l'.length = l.length ∧ RowZ base l' v w' := by
  obtain ⟨hl, ⟨rfl, h0⟩ | ⟨g, cap, cur, rfl, hbb, hg, hn, hm, hc, hx⟩⟩ := hR
  · exact ⟨[], h0.symm, rfl, Or.inl ⟨rfl, rfl⟩⟩
  · obtain ⟨cur', hA', hs, he⟩ := h.1 g cur hg
    obtain ⟨l', hl'⟩ := ints_list (cs := cur'.toList.take (l.length * 1)) (fun x hxm => by
      obtain ⟨j, hj⟩ := List.mem_iff_getElem?.1 hxm
      rw [List.getElem?_take] at hj
      split at hj
      · next hlt =>
        rcases he j x (by simpa using hj) with h2 | h2
        · have h3 : (cur.toList.take (l.length * 1))[j]? = some x := by rw [List.getElem?_take, if_pos hlt]; simpa using h2
          rw [hx, List.getElem?_map] at h3
          obtain ⟨y, _, hy⟩ := Option.map_eq_some_iff.1 h3
          exact ⟨y, hy.symm⟩
        · exact h2
      · cases hj)
    have hlen : l'.length = l.length := by
      have h9 := congrArg List.length hl'
      rw [List.length_take, List.length_map] at h9
      have h8 : cur'.toList.length = cap * 1 := by rw [Array.length_toList, hs, hc]
      rw [h8] at h9
      omega
    refine ⟨l', hlen, ?_⟩
    unfold RowZ
    rw [hlen]
    exact ⟨by rw [List.length_map, hlen]; omega, Or.inr ⟨g, cap, cur', rfl, hbb, hA', hn, hm, by rw [hs, hc], hl'⟩⟩
theorem IntStep.rowE {w w' : World} {base : Nat} {l : List EX} {v : Value} (h : IntStep w w') (hR : RowE base l v w) : RowE base l v w' := by
  obtain ⟨hl, ⟨rfl, h0⟩ | ⟨g, cap, cur, rfl, hbb, hg, hr⟩⟩ := hR
  · exact ⟨hl, Or.inl ⟨rfl, h0⟩⟩
  · exact ⟨hl, Or.inr ⟨g, cap, cur, rfl, hbb, h.2 g cur _ (by decide) hg, hr⟩⟩
abbrev TT := SX × Value × Value
/-- statements whose bodies are of these lengths at most -/
def LeT (R : Nat) (r : List TT) : Prop := r.length ≤ R ∧ ∀ t ∈ r, t.1.body.length ≤ R ∧ t.1.els.length ≤ R
theorem rows_each {w' : World} {base R : Nat} (r : List TT) (h : ∀ t ∈ r, (∃ l' : List Int, l'.length ≤ R ∧ RowZ base l' t.2.1 w') ∧ (∃ l' : List Int, l'.length ≤ R ∧ RowZ base l' t.2.2 w')) :
    ∃ r' : List TT, r'.length = r.length ∧ r'.flatMap tsC = r.flatMap tsC ∧ (∀ t ∈ r', RowZ base t.1.body t.2.1 w' ∧ RowZ base t.1.els t.2.2 w') ∧ ∀ t ∈ r', t.1.body.length ≤ R ∧ t.1.els.length ≤ R := by
  induction r with
  | nil => exact ⟨[], rfl, rfl, fun t ht => (by cases ht), fun t ht => (by cases ht)⟩
  | cons a r ih =>
    obtain ⟨r', h1, h2, h3, h4⟩ := ih fun t ht => h t (List.mem_cons_of_mem _ ht)
    obtain ⟨⟨l1, e1, z1⟩, ⟨l2, e2, z2⟩⟩ := h a List.mem_cons_self
    refine ⟨({ a.1 with body := l1, els := l2 }, a.2) :: r', by simp [h1], by rw [List.flatMap_cons, List.flatMap_cons, h2]; rfl, fun t ht => ?_, fun t ht => ?_⟩
    · rcases List.mem_cons.1 ht with rfl | ht
      · exact ⟨z1, z2⟩
      · exact h3 t ht
    · rcases List.mem_cons.1 ht with rfl | ht
      · exact ⟨e1, e2⟩
      · exact h4 t ht
theorem IntStep.rowT {w w' : World} {base R : Nat} {r : List TT} {v : Value} (h : IntStep w w') (hR : RowT base r v w) (hl : LeT R r) : ∃ r', r'.length = r.length ∧ RowT base r' v w' ∧ LeT R r' := by
  obtain ⟨r', h1, h2, h3, h4⟩ := rows_each (w' := w') (base := base) (R := R) r fun t ht => by
    obtain ⟨l1, e1, z1⟩ := h.row (hR.1 t ht).1
    obtain ⟨l2, e2, z2⟩ := h.row (hR.1 t ht).2
    have := hl.2 t ht
    exact ⟨⟨l1, by omega, z1⟩, ⟨l2, by omega, z2⟩⟩
  refine ⟨r', h1, ⟨h3, ?_⟩, by rw [h1]; exact hl.1, h4⟩
  rw [h1, h2]
  obtain ⟨hlen, ⟨rfl, h0⟩ | ⟨g, cap, cur, rfl, hbb, hg, hr⟩⟩ := hR.2
  · exact ⟨hlen, Or.inl ⟨rfl, h0⟩⟩
  · exact ⟨hlen, Or.inr ⟨g, cap, cur, rfl, hbb, h.2 g cur _ (by decide) hg, hr⟩⟩
/-- a number is appended to an own row of numbers -/
theorem run_append_one {w : World} {base n c : Nat} {q : Option Addr} {l : List Int} (hl : l.length = n) (hR : RowZ base l (.slice q n c) w) (hn : n ≤ 100000) {nb : Nat} {k : Int} (hA : At w nb #[.int .i64 k] 3) (hbase : base ≤ w.heap.size) (ty : TypeId) :
    ∃ g cap w', (Builtin.append_ #[23, 23] ty #[.slice q n c, .slice (some ⟨nb, 0, none⟩) 1 1]).run Tryz.prog w = .ok (.slice (some ⟨g, 0, none⟩) (n + 1) cap) w' ∧ RowZ base (l ++ [k]) (.slice (some ⟨g, 0, none⟩) (n + 1) cap) w' ∧ IntStep w w' ∧ Below base w w' := by
  obtain ⟨i0, hi0, hz0, hz1, hz2⟩ := info_parts gInt
  have hown : w.ownsRow base 3 1 (.slice q n c) n (l.map fun x => Value.int .i64 x) := by
    have := hR; unfold RowZ at this; rw [hl] at this; exact this
  have hnews := World.news_of_block (cs := #[.int .i64 k]) (t := 3) (fr := (0, 0)) (w := w) (B := nb) hA
  obtain ⟨g, cap, w', hr, h2, h3, h4, h5⟩ := run_append_lies (P := Tryz.prog) w 23 ty base 3 i0 _ 1 8 Tryz.underlying23 hi0 hz0 hz1 hz2 rfl (by decide) (.slice q n c) n _ hown ⟨nb, 0, none⟩ 1 1 [.int .i64 k] rfl hnews (by simp [Value.oneCell']) (by omega) (by unfold maxLen; omega) (by omega) hbase _ rfl
  refine ⟨g, cap, w', hr, ?_, ?_, (Below.refl base w).grown h3 hbase (fun j hj => own_geG hown hj)⟩
  · unfold RowZ
    rw [List.length_append, List.map_append, hl]
    exact h2
  · have hfar : ∀ b, b < w.heap.size → (Value.slice q n c).ownBlock ≠ some b → w'.heap[b]? = w.heap[b]? := fun b hb hne => h3.block b hb (Ne.symm hne)
    obtain ⟨hlen, ⟨he, h0⟩ | ⟨g0, cap0, cur0, he, hbb, hg0, hnc, hcm, hcs, htake⟩⟩ := hown
    · injection he with e1 e2 e3
      subst e1
      exact ⟨fun b cur hb => ⟨cur, (hfar b hb.lt (by simp [Value.ownBlock])).trans hb, rfl, fun j x hx => Or.inl hx⟩, fun b cur t _ hb => (hfar b hb.lt (by simp [Value.ownBlock])).trans hb⟩
    · injection he with e1 e2 e3
      subst e1 e3
      have hA0 : At w g0 cur0 3 := hg0
      have key : ∃ cur', At w' g0 cur' 3 ∧ cur'.size = cur0.size ∧ ∀ (j : Nat) (x : Value), cur'[j]? = some x → cur0[j]? = some x ∨ IsN x := by
        by_cases hroom : n + 1 ≤ c
        · have hfit : n * i0.size + [Value.int .i64 k].length ≤ cur0.size := by rw [hz1, hcs]; simp; omega
          have hr2 := run_append_room (P := Tryz.prog) w 23 ty 3 i0 Tryz.underlying23 hi0 g0 n c cur0 hg0 ⟨nb, 0, none⟩ 1 1 [.int .i64 k] (by rw [hz1]; rfl) hnews (by simp [Value.oneCell']) hroom hfit
          rw [hr] at hr2
          injection hr2 with _ hw
          rw [hw]
          refine ⟨_, setRow_heap w g0 cur0 _ _ _ hg0, ?_, fun j x hx => ?_⟩
          · simp at hfit ⊢; omega
          · rw [hz1] at hx
            simp only [Nat.mul_one, List.getElem?_toArray, List.length_cons, List.length_nil] at hx
            rw [List.append_assoc, List.getElem?_append] at hx
            split at hx
            · next hlt =>
              rw [List.getElem?_take] at hx
              split at hx
              · exact Or.inl (by simpa using hx)
              · cases hx
            · next hge =>
              have hlt2 : (cur0.toList.take n).length = n := by rw [List.length_take, Array.length_toList]; omega
              rw [hlt2] at hx hge
              rw [List.getElem?_append] at hx
              split at hx
              · next hlt =>
                have : j - n = 0 := by simpa using hlt
                rw [this] at hx
                injection hx with hx
                exact Or.inr ⟨k, hx.symm⟩
              · next hge2 =>
                simp only [List.length_cons, List.length_nil] at hge2 hx
                rw [List.getElem?_drop] at hx
                rw [show n + (0 + 1) + (j - n - (0 + 1)) = j by omega] at hx
                exact Or.inl (by simpa using hx)
        · have holds : ∀ j u, (l.map fun x => Value.int .i64 x)[j]? = some u → w.cell? ((⟨g0, 0, none⟩ : Addr).add j) = some u := fun j u hu => by
            have h9 : (cur0.toList.take (n * 1))[j]? = some u := by rw [htake]; exact hu
            rw [List.getElem?_take] at h9
            split at h9
            · rw [add_noneG, cell_of_block hg0, Nat.zero_add]; simpa using h9
            · cases h9
          have hr2 := run_append_grow (P := Tryz.prog) w 23 ty 3 i0 _ Tryz.underlying23 hi0 hz0 ⟨g0, 0, none⟩ n c (l.map fun x => Value.int .i64 x) (by rw [hz1]; simpa using hl) holds ⟨nb, 0, none⟩ 1 1 [.int .i64 k] (by rw [hz1]; rfl) hnews (by omega) (by omega) (growslice_fits (by omega) (by rw [hz2]; omega))
          rw [hr] at hr2
          injection hr2 with _ hw
          rw [hw]
          exact ⟨cur0, (At.alloc hA0.drew _), rfl, fun j x hx => Or.inl hx⟩
      refine ⟨fun b cur hb => ?_, fun b cur t ht hb => ?_⟩
      · by_cases hbg : b = g0
        · subst hbg
          obtain ⟨rfl, _⟩ := at_uniq hA0 hb
          exact key
        · exact ⟨cur, (hfar b hb.lt (by simp [Value.ownBlock]; omega)).trans hb, rfl, fun j x hx => Or.inl hx⟩
      · have hbg : b ≠ g0 := fun e => by
          subst e
          exact ht (at_uniq hA0 hb).2.symm
        exact (hfar b hb.lt (by simp [Value.ownBlock]; omega)).trans hb
theorem wpList_append_one {w : World} {ops : Array Oper} {rest : List Oper} {o : Oper} {a : Act} {Q : Exit → Act → World → Prop} (hgd : o.guard = none) (s x : Operand)
    (ho : o.op = .call { callee := .builtin .append, args := #[s, x], argTypes := #[23, 23] })
    (base n c : Nat) (q : Option Addr) (l : List Int) (hl : l.length = n) (hs : a.eval s = .slice q n c) (hR : RowZ base l (.slice q n c) w) (hn : n ≤ 100000) (nb : Nat) (k : Int) (hx : a.eval x = .slice (some ⟨nb, 0, none⟩) 1 1) (hA : At w nb #[.int .i64 k] 3) (hbase : base ≤ w.heap.size)
    (h : ∀ g cap w', RowZ base (l ++ [k]) (.slice (some ⟨g, 0, none⟩) (n + 1) cap) w' → IntStep w w' → Below base w w' → wpList Tryz.prog ops Q rest (a.put o.dst (.slice (some ⟨g, 0, none⟩) (n + 1) cap)) w') : wpList Tryz.prog ops Q (o :: rest) a w := by
  refine wpList_plain hgd fun K hK => ?_
  obtain ⟨g, cap, w', hr, h2, h3, h4⟩ := run_append_one hl hR hn hA hbase o.type
  unfold Oper.wp execOp
  simp only [ho, resolve, invoke, builtin, Sem.run_bind, Sem.run_pure, Result.andThen_ok, List.map_toArray, List.map_cons, List.map_nil, hs, hx, hr]
  exact hK _ _ (h g cap w' h2 h3 h4)
end Go.Proofs.YtncdbjflfhfddaaGreat
