/- A row of programs of the call's own: each program keeps while no memory but the row's own is written. -/
import Derived.Test.YtncdbjflfhfddaaGreatGTc
import Derived.Test.YtncdbjflfhfddaaGreatGTh
namespace Go.Proofs.YtncdbjflfhfddaaGreat
open Go.ChangeShapes Go.WideShapes Go.ChangeAt Go.RowKit Go.Joins Go.Deep
set_option linter.unusedVariables false

theorem gProgI : (Tryz.prog.info? 33).map (fun i => (i.zero, i.size, i.bytes)) = some (some (.agg #[.bool false, .int .i64 0, .slice none 0 0, .slice none 0 0, .slice none 0 0, .slice none 0 0, .slice none 0 0]), 7, 136) := by kernel_rfl
abbrev PT := PX × Value × Value × Value × Value × Value
def ptC (t : PT) : List Value := [.bool t.1.big, .int .i64 t.1.ptr, t.2.1, t.2.2.1, t.2.2.2.1, t.2.2.2.2.1, t.2.2.2.2.2]
def IsPT (w : World) (t : PT) : Prop := IsPr w t.2.1 t.2.2.1 t.2.2.2.1 t.2.2.2.2.1 t.2.2.2.2.2 t.1
def PStep (base : Nat) (w w' : World) : Prop := Below base w w' ∧ ∀ b, b < w.heap.size → (¬ ∃ cur, At w b cur 33) → w'.heap[b]? = w.heap[b]?
theorem PStep.refl (base : Nat) (w : World) : PStep base w w := ⟨Below.refl _ _, fun _ _ _ => rfl⟩
theorem PStep.trans {base : Nat} {a b c : World} (h : PStep base a b) (k : PStep base b c) : PStep base a c := by
  refine ⟨h.1.trans k.1, fun x hx hn => ?_⟩
  have h1 := h.2 x hx hn
  have h2 := k.2 x (Nat.lt_of_lt_of_le hx h.1.size) (fun ⟨cur, hc⟩ => hn ⟨cur, by unfold At at hc ⊢; rw [← h1]; exact hc⟩)
  exact h2.trans h1
theorem PStep.below {base : Nat} {w w' : World} (hb : Below w.heap.size w w') (hbase : base ≤ w.heap.size) : PStep base w w' := ⟨hb.mono hbase, fun b hl _ => hb.block b hl⟩
theorem PStep.row {base b2 e size n : Nat} {v : Value} {xs : List Value} {w w' : World} (h : PStep base w w') (hR : w.ownsRow b2 e size v n xs) (he : e ≠ 33) : w'.ownsRow b2 e size v n xs := by
  obtain ⟨hl, ⟨h0, h1⟩ | ⟨g, cap, cur, hv, hbb, hg, hr⟩⟩ := hR
  · exact ⟨hl, Or.inl ⟨h0, h1⟩⟩
  · have hA : At w g cur e := hg
    refine ⟨hl, Or.inr ⟨g, cap, cur, hv, hbb, (h.2 g hA.lt (fun ⟨c2, hc⟩ => ?_)).trans hg, hr⟩⟩
    exact he (at_uniq hA hc).2
/-- a program that keeps so -/
def Stays (base : Nat) (w : World) (t : PT) : Prop := ∀ w', PStep base w w' → IsPT w' t
theorem Stays.step {base : Nat} {w w' : World} {t : PT} (h : Stays base w t) (hs : PStep base w w') : Stays base w' t := fun w2 h2 => h w2 (hs.trans h2)
theorem Stays.arg {base : Nat} {w0 w : World} {t : PT} (h : IsPT w0 t) (hb : Below base w0 w) (he : w0.heap.size = base) : Stays base w t := fun w2 h2 => by
  subst he
  exact IsPr.below h (hb.trans h2.1)
theorem Stays.own {base B bx : Nat} {w : World} {big : Bool} {ptr : Int} {v1 v2 v3 v4 v5 : Value} {V N : List Int} {E : List EX} {r : List TT} {M : List Int} (h : CpA B bx 1000 w big ptr v1 v2 v3 v4 v5 V N E r M) :
    Stays base w (⟨big, ptr, V, N, E, r.map (·.1), M⟩, v1, v2, v3, v4, v5) ∧ LeP 1000 ⟨big, ptr, V, N, E, r.map (·.1), M⟩ := by
  have l1 := h.l1
  have l2 := h.l2
  have l3 := h.l3
  have l4 := h.l4
  have l5 := h.l5
  refine ⟨fun w2 h2 => ?_, l1, l2, l3, by simpa using l4.1, l5, fun s hs => ?_⟩
  · have z4 : RowT B r v4 w2 := ⟨fun t ht => ⟨h2.row (h.z4.1 t ht).1 (by decide), h2.row (h.z4.1 t ht).2 (by decide)⟩, h2.row h.z4.2 (by decide)⟩
    have m1 : V.length ≤ maxLen := by unfold maxLen; omega
    have m2 : N.length ≤ maxLen := by unfold maxLen; omega
    have m3 : E.length ≤ maxLen := by unfold maxLen; omega
    have m4 : r.length ≤ maxLen := by have := l4.1; unfold maxLen; omega
    have m5 : M.length ≤ maxLen := by unfold maxLen; omega
    exact ⟨RowZ.is (h2.row h.z1 (by decide)) m1, RowZ.is (h2.row h.z2 (by decide)) m2, RowE.is (h2.row h.z3 (by decide)) m3, RowT.is z4 m4 (fun t ht => by have := l4.2 t ht; unfold maxLen; omega), RowZ.is (h2.row h.z5 (by decide)) m5⟩
  · obtain ⟨t, ht, rfl⟩ := List.mem_map.1 hs
    exact l4.2 t ht
def RowPr (base : Nat) (ps : List PT) (v : Value) (w : World) : Prop := (∀ t ∈ ps, Stays base w t ∧ LeP 1000 t.1) ∧ w.ownsRow base 33 7 v ps.length (ps.flatMap ptC)
theorem ptC_get (r : List PT) (i j : Nat) (x : PT) (h : r[i]? = some x) (hj : j < 7) : (r.flatMap ptC)[i * 7 + j]? = (ptC x)[j]? := by
  induction r generalizing i with
  | nil => simp at h
  | cons y r ih =>
    cases i with
    | zero =>
      obtain rfl : y = x := by simpa using h
      rw [List.flatMap_cons, Nat.zero_mul, Nat.zero_add, List.getElem?_append_left (by simpa [ptC] using hj)]
    | succ i =>
      have := ih i (by simpa using h)
      rw [List.flatMap_cons, List.getElem?_append_right (by simp [ptC]; omega)]
      rw [show (i + 1) * 7 + j - (ptC y).length = i * 7 + j by simp [ptC]; omega]
      exact this
theorem RowPr.is {base : Nat} {r : List PT} {v : Value} {w : World} (h : RowPr base r v w) (hl : r.length ≤ maxLen) : IsPs w v (r.map (·.1)) := by
  obtain ⟨hz, hlen, ⟨rfl, h0⟩ | ⟨g, cap, cur, rfl, hbb, hg, hn, hm, hc, hx⟩⟩ := h
  · exact ⟨none, 0, by rw [List.length_map, h0], by rw [List.length_map]; exact hl, by rw [List.length_map, h0]; exact Nat.zero_le _, fun hp => by rw [List.length_map] at hp; omega⟩
  · refine ⟨_, cap, by rw [List.length_map], by rw [List.length_map]; exact hl, by rw [List.length_map]; exact hn, fun _ => ⟨g, 0, rfl, ?_, fun i x hxi => ?_⟩⟩
    · have hA : At w g cur 33 := hg
      exact hA.lt
    · rw [List.getElem?_map] at hxi
      obtain ⟨t, ht, rfl⟩ := Option.map_eq_some_iff.1 hxi
      have hi : i < r.length := (List.getElem?_eq_some_iff.1 ht).1
      have hc9 : ∀ j, j < 7 → w.cell? ⟨g, 0 + i * 7 + j, none⟩ = (ptC t)[j]? := fun j hj => by
        rw [cell_of_block hg, Nat.zero_add]
        have h9 : (cur.toList.take (r.length * 7))[i * 7 + j]? = (r.flatMap ptC)[i * 7 + j]? := by rw [hx]
        rw [List.getElem?_take, if_pos (by omega), ptC_get r i j t ht hj] at h9
        simpa using h9
      have hm9 := List.mem_of_getElem? ht
      exact ⟨t.2.1, t.2.2.1, t.2.2.2.1, t.2.2.2.2.1, t.2.2.2.2.2, hc9 0 (by decide), hc9 1 (by decide), hc9 2 (by decide), hc9 3 (by decide), hc9 4 (by decide), hc9 5 (by decide), hc9 6 (by decide), (hz t hm9).1 w (PStep.refl _ _)⟩
theorem RowPr.below {base : Nat} {r : List PT} {v : Value} {w w' : World} (h : RowPr base r v w) (hb : Below w.heap.size w w') (hbase : base ≤ w.heap.size) : RowPr base r v w' :=
  ⟨fun t ht => ⟨(h.1 t ht).1.step (PStep.below hb hbase), (h.1 t ht).2⟩, ownsRow_belowG h.2 hb⟩
theorem RowPr.form {base : Nat} {r : List PT} {v : Value} {w : World} (h : RowPr base r v w) : ∃ q c, v = .slice q r.length c := by
  rcases h.2.2 with ⟨h0, h1⟩ | ⟨g, cap, cur, h0, _⟩
  · exact ⟨none, 0, by rw [h0, h1]⟩
  · exact ⟨_, _, by rw [h0]⟩
theorem PStep.grown {base : Nat} {xs : List Value} {v : Value} {n : Nat} {w w' : World} (hown : w.ownsRow base 33 7 v n xs) (hg : w.grownBy w' v.ownBlock) (hbase : base ≤ w.heap.size) : PStep base w w' := by
  refine ⟨(Below.refl base w).grown hg hbase (fun j hj => own_geG hown hj), fun b hb hn => hg.block b hb (fun hh => hn ?_)⟩
  obtain ⟨_, ⟨rfl, _⟩ | ⟨g', cap', cur', rfl, _, hg', _⟩⟩ := hown
  · simp [Value.ownBlock] at hh
  · simp [Value.ownBlock] at hh
    subst hh
    exact ⟨cur', hg'⟩
theorem RowPr.grown {base : Nat} {r : List PT} {v v3 : Value} {t : PT} {w w' : World} (h : RowPr base r v w) (ht : Stays base w t ∧ LeP 1000 t.1) (hbase : base ≤ w.heap.size) (hg : w.grownBy w' v.ownBlock) (hn : w'.ownsRow base 33 7 v3 (r.length + 1) (r.flatMap ptC ++ ptC t)) : RowPr base (r ++ [t]) v3 w' := by
  have hs := PStep.grown h.2 hg hbase
  refine ⟨fun u hu => ?_, ?_⟩
  · rcases List.mem_append.1 hu with hu | hu
    · exact ⟨(h.1 u hu).1.step hs, (h.1 u hu).2⟩
    · obtain rfl := List.mem_singleton.1 hu
      exact ⟨ht.1.step hs, ht.2⟩
  · rw [List.length_append, List.flatMap_append]
    simpa using hn
end Go.Proofs.YtncdbjflfhfddaaGreat
