/- Memory as data: what is loaded hangs on the data alone; what was stored is loaded. -/
import Derived.Test.YtnhbaigagphpmaaKStore
import Derived.Test.YtnhbaigagphpmaaBBack
namespace Go.Proofs.Ytnhbaigagphpmaa
open Go.ChangeShapes Go.WideShapes Go.ChangeAt Go.RowKit Go.Joins Go.Deep
set_option linter.unusedVariables false

theorem mayK_dat {x y : BK} (h : datK x = datK y) : mayK x = mayK y := by
  obtain ⟨s, q, c, ys⟩ := x
  obtain ⟨s', q', c', ys'⟩ := y
  have h1 : s = s' := congrArg Prod.fst h
  have h2 : ys = ys' := congrArg Prod.snd h
  subst h1 h2
  rfl
theorem oddK_dat {x y : BK} (i : Nat) (h : datK x = datK y) : oddK i x = oddK i y := by
  unfold oddK
  rw [mayK_dat h, show x.st = y.st from congrArg Prod.fst h]
theorem oddF_dat {x : List BK} : ∀ {m : List BK} (k : Nat), datM x = datM m → oddF k x = oddF k m := by
  induction x with
  | nil => intro m k h; cases m with
    | nil => rfl
    | cons y s => simp [datM] at h
  | cons a r ih => intro m k h; cases m with
    | nil => simp [datM] at h
    | cons y s =>
      simp only [datM, List.map_cons, List.cons.injEq] at h
      simp only [oddF]
      rw [oddK_dat k h.1, ih (k + 1) h.2]
theorem mayM_dat {x m : List BK} (h : datM x = datM m) : mayM x = mayM m := by
  unfold mayM
  rw [datM_len h, oddF_dat 0 h]
theorem atM_dat {x m : List BK} (h : datM x = datM m) (p : SC) : datK (atM x p) = datK (atM m p) := by
  unfold atM
  by_cases hi : p.b.toNat < m.length
  · exact datM_get h _ hi
  · have hl := datM_len h
    rw [List.getD_eq_getElem?_getD, List.getD_eq_getElem?_getD, List.getElem?_eq_none (by omega), List.getElem?_eq_none (by omega)]
theorem hasM_dat {x m : List BK} (h : datM x = datM m) (p : SC) : hasM x p = hasM m p := by
  unfold hasM
  rw [mayM_dat h, datM_len h]
theorem reachM_dat {x m : List BK} (h : datM x = datM m) (p : SC) (n : Nat) : reachM x p n = reachM m p n := by
  unfold reachM
  have h1 := atM_dat h p
  rw [show (atM x p).st = (atM m p).st from congrArg Prod.fst h1, show (atM x p).ys = (atM m p).ys from congrArg Prod.snd h1]
theorem loadS_dat {x m : List BK} (h : datM x = datM m) (big : Bool) (pp k : Int) (p : SC) : loadS big pp k x p = loadS big pp k m p := by
  unfold loadS partM
  rw [reachM_dat h, show (atM x p).ys = (atM m p).ys from congrArg Prod.snd (atM_dat h p)]
theorem stoM_dat {x m : List BK} (h : datM x = datM m) (p : SC) (xs : List BY) : datM (stoM x p xs) = datM (stoM m p xs) := by
  unfold stoM
  have h1 := atM_dat h p
  refine datM_set h _ ?_
  unfold datK at *
  rw [show (atM x p).ys = (atM m p).ys from congrArg Prod.snd h1, show (atM x p).st = (atM m p).st from congrArg Prod.fst h1]
theorem storeD_dat {x m : List BK} (h : datM x = datM m) (big : Bool) (pp k : Int) (p s : SC) : storeD big pp k x p s = storeD big pp k m p s := by
  unfold storeD
  rw [reachM_dat h, stoM_dat h, h]
/-- the block in which was stored -/
theorem atM_sto {m : List BK} {p : SC} (h : InM m p) (xs : List BY) : atM (stoM m p xs) p = ⟨(atM m p).st, (atM m p).q, (atM m p).c, putAt (atM m p).ys p.o.toNat xs⟩ := by
  obtain ⟨k, hk, hl⟩ := h
  unfold stoM
  rw [atM_eq (m := List.set _ _ _) hk, hk, Int.toNat_natCast, set_self hl]
theorem putAt_part {ys xs : List BY} {o : Nat} (h : o + xs.length ≤ ys.length) : ((putAt ys o xs).drop o).take xs.length = xs := by
  unfold putAt
  rw [List.append_assoc, List.drop_append_of_le_length (by rw [List.length_take]; omega)]
  rw [show (ys.take o).drop o = [] by rw [List.drop_eq_nil_iff, List.length_take]; omega]
  simp
theorem reach_sto {m : List BK} {p : SC} {n : Nat} {xs : List BY} (hI : InM m p) (hR : reachM m p n = 0) (hl : xs.length = n) (ho : 0 ≤ p.o) : reachM (stoM m p xs) p n = 0 := by
  obtain ⟨h1, h2, h3⟩ := reach_0 hR
  have e := atM_sto hI xs
  refine reach_ok (by rw [e]; exact h1) (by rw [e]; dsimp only; rw [putAt_len (by omega)]; omega) h3
theorem load_store {big : Bool} {pp k : Int} {m : List BK} {p s : SC} (hp : mayA pp) (hs : mayS k s = true) (hI : InM m p) (ho : 0 ≤ p.o) (hR : reachM m p (sizN pp k) = 0) :
    loadS big pp k (stoM m p (putL big (sizN pp k) s)) p = (s, 0) := by
  have hl := putL_len big (sizN pp k) s
  have hr := reach_0 hR
  unfold loadS partM
  rw [reach_sto hI hR hl ho, if_neg (by simp), atM_sto hI]
  dsimp only
  have hp2 := putAt_part (ys := (atM m p).ys) (xs := putL big (sizN pp k) s) (o := p.o.toNat) (by rw [hl]; omega)
  rw [hl] at hp2
  rw [hp2]
  exact get_put hp hs
/-- memory behind a store may be, if what was stored may -/
theorem mays_splice {ys xs : List BY} {o : Nat} (h : maysY ys = true) (hx : maysY xs = true) : maysY (putAt ys o xs) = true := by
  unfold maysY at *
  unfold putAt
  rw [List.all_append, List.all_append]
  rw [List.all_eq_true] at h
  simp only [Bool.and_eq_true, List.all_eq_true]
  refine ⟨⟨fun x hx => h x (List.mem_of_mem_take hx), fun x hm => ?_⟩, fun x hx => h x (List.mem_of_mem_drop hx)⟩
  exact (List.all_eq_true.1 hx) x hm
theorem mayM_of {m : List BK} (h0 : 1 ≤ m.length ∧ m.length ≤ 33) (h1 : (m.getD 0 default).st = 0) (h2 : ∀ i, i < m.length → mayK (m.getD i default) = true) : mayM m = true := by
  unfold mayM
  simp only [Bool.and_eq_true, decide_eq_true_eq, beq_iff_eq]
  refine ⟨h0, oddF_zero.2 fun j hj => ?_⟩
  rw [Nat.zero_add]
  rcases Nat.eq_zero_or_pos j with rfl | hj0
  · exact oddK_s (h2 0 hj) h1
  · exact oddK_i (h2 j hj) hj0
theorem mayM_head {m : List BK} (h : mayM m = true) : (m.getD 0 default).st = 0 := by
  have hl := mayM_len h
  have hm := mayM_at h 0 (by omega)
  unfold mayM at h
  simp only [Bool.and_eq_true, beq_iff_eq] at h
  have := oddF_zero.1 h.2 0 (by omega)
  unfold oddK at this
  rw [hm] at this
  simpa using this
theorem mayM_sto {m : List BK} {p : SC} {n : Nat} {xs : List BY} (hm : mayM m = true) (hI : InM m p) (hR : reachM m p n = 0) (hl : xs.length = n) (ho : 0 ≤ p.o) (hx : maysY xs = true) : mayM (stoM m p xs) = true := by
  obtain ⟨h1, h2, h3⟩ := reach_0 hR
  obtain ⟨k, hk, hkl⟩ := hI
  have hb := mayM_len hm
  have hat := mayM_at hm k hkl
  have e : stoM m p xs = m.set k ⟨(m.getD k default).st, (m.getD k default).q, (m.getD k default).c, putAt (m.getD k default).ys p.o.toNat xs⟩ := by
    unfold stoM; rw [atM_eq hk, hk, Int.toNat_natCast]
  rw [atM_eq hk] at h1 h2
  have hk0 : k ≠ 0 := by
    rintro rfl
    rw [mayM_head hm] at h1
    exact absurd h1 (by decide)
  rw [e]
  refine mayM_of (by simpa using hb) (by rw [set_other (by omega)]; exact mayM_head hm) fun i hi => ?_
  have hi' : i < m.length := by simpa using hi
  by_cases e2 : i = k
  · subst e2
    rw [set_self hkl]
    have := mayK_len hat
    unfold mayK
    rw [h1]
    simp only [show ¬ (1 : Int) = 0 by decide, show ¬ (1 : Int) = 2 by decide, show ¬ (1 : Int) = 3 by decide, if_false, if_true, Bool.and_eq_true, decide_eq_true_eq]
    exact ⟨by rw [putAt_len (by omega)]; exact this.1, mays_splice this.2 hx⟩
  · rw [set_other e2]; exact mayM_at hm i hi'
theorem hasM_sto {m : List BK} {p r : SC} {n : Nat} {xs : List BY} (hm : mayM m = true) (hI : InM m p) (hR : reachM m p n = 0) (hl : xs.length = n) (ho : 0 ≤ p.o) (hx : maysY xs = true) (hr : hasM m r = true) : hasM (stoM m p xs) r = true := by
  unfold hasM at *
  rw [mayM_sto hm hI hR hl ho hx]
  simp only [Bool.and_eq_true] at hr ⊢
  refine ⟨trivial, hr.2.1, ?_⟩
  rw [show (stoM m p xs).length = m.length by unfold stoM; rw [List.length_set]]
  exact hr.2.2
end Go.Proofs.Ytnhbaigagphpmaa
