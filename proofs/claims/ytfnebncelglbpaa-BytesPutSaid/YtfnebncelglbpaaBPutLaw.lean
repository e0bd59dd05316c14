/- BytesPut: its walk. -/
import Derived.Test.YtfnebncelglbpaaBLaw
import Derived.Test.YtfnebncelglbpaaBOpen
import Derived.Deep.Cut
import Derived.Deep.CutRange
namespace Go.Proofs.Ytfnebncelglbpaa
open Go.ChangeShapes Go.WideShapes Go.ChangeAt Go.RowKit Go.Joins Go.Deep
set_option linter.unusedVariables false

def scL (x : SC) : List Value := [.bool x.p, .int .i64 x.n, .int .i64 x.b, .int .i64 x.o]
def scCs (xs : List SC) : List Value := xs.flatMap scL
theorem scCs_len (xs : List SC) : (scCs xs).length = xs.length * 4 := by
  induction xs with
  | nil => rfl
  | cons x r ih => simp only [scCs, List.flatMap_cons, List.length_append, scL, List.length_cons, List.length_nil] at ih ⊢; omega
theorem scCs_get (xs : List SC) : ∀ i, i < xs.length → ∀ c, c < 4 → (scCs xs)[i * 4 + c]? = (scL (xs.getD i default))[c]? := by
  induction xs with
  | nil => intro i h; simp at h
  | cons x r ih =>
    intro i h c hc
    cases i with
    | zero =>
      simp only [scCs, List.flatMap_cons, Nat.zero_mul, Nat.zero_add, List.getD_cons_zero]
      rw [List.getElem?_append_left (by simp [scL]; omega)]
    | succ i =>
      have := ih i (by simpa using h) c hc
      unfold scCs at this ⊢
      rw [List.flatMap_cons, List.getElem?_append_right (by simp [scL]; omega), List.getD_cons_succ, ← this]
      congr 1
      simp [scL]
      omega
theorem scCs_one (xs : List SC) : ∀ u ∈ scCs xs, u.oneCell' = true := by
  intro u hu
  simp only [scCs, List.mem_flatMap, scL, List.mem_cons, List.not_mem_nil, or_false] at hu
  obtain ⟨x, _, rfl | rfl | rfl | rfl⟩ := hu <;> rfl
theorem InScs.below {w w' : World} {p : Option Addr} {len cap : Nat} {xs : List SC} (h : InScs w p len cap xs) (hb : Below w.heap.size w w') : InScs w' p len cap xs := by
  obtain ⟨a, c, d⟩ := h
  refine ⟨a, c, fun hl => ?_⟩
  obtain ⟨x, off, rfl, hx, hc⟩ := d hl
  exact ⟨x, off, rfl, by have := hb.size; omega, fun i hi => (hc i hi).below hb⟩
theorem InBys.below {w w' : World} {p : Option Addr} {len cap : Nat} {xs : List BY} (h : InBys w p len cap xs) (hb : Below w.heap.size w w') : InBys w' p len cap xs := by
  obtain ⟨a, e, c, d⟩ := h
  refine ⟨a, e, c, fun hl => ?_⟩
  obtain ⟨x, off, rfl, hx, hc⟩ := d hl
  exact ⟨x, off, rfl, by have := hb.size; omega, fun i hi => (hc i hi).below hb⟩
theorem InScs.yields {w : World} {p : Option Addr} {len cap : Nat} {xs : List SC} (h : InScs w p len cap xs) : Yields w 4 p len cap (scCs xs) := by
  obtain ⟨hl, hn, hc⟩ := h
  refine ⟨by rw [scCs_len, hl], scCs_one xs, ?_⟩
  cases p with
  | none => exact Or.inl ⟨rfl, (hn rfl).1, (hn rfl).2⟩
  | some ad =>
    refine Or.inr ⟨ad, rfl, fun j u hu => ?_⟩
    have hj : j < len * 4 := by
      rcases Nat.lt_or_ge j (len * 4) with h | h
      · exact h
      · rw [List.getElem?_eq_none (by rw [scCs_len, hl]; exact h)] at hu; cases hu
    obtain ⟨b, off, had, _, hcell⟩ := hc (by omega)
    cases had
    obtain ⟨i, c, hc4, rfl⟩ : ∃ i c, c < 4 ∧ j = i * 4 + c := ⟨j / 4, j % 4, Nat.mod_lt _ (by decide), by omega⟩
    have h1 := scCs_get xs i (by omega) c hc4
    rw [hu] at h1
    obtain ⟨c0, c1, c2, c3⟩ := hcell i (by omega)
    rw [add_none]
    have : c = 0 ∨ c = 1 ∨ c = 2 ∨ c = 3 := by omega
    rcases this with rfl | rfl | rfl | rfl <;> simp [scL] at h1 <;> subst h1 <;> rw [← Nat.add_assoc] <;> assumption
def ScRow (w : World) (g m : Nat) (fs : List SC) : Prop := g < w.heap.size ∧ ∀ i, i < m → ScCells w g (i * 4) (fs.getD i default)
theorem ScRow.below {w w' : World} {g m : Nat} {fs : List SC} (h : ScRow w g m fs) (hb : Below w.heap.size w w') : ScRow w' g m fs := ⟨by have := h.1; have := hb.size; omega, fun i hi => (h.2 i hi).below hb⟩
def six : List SC := [⟨false, 0, 0, 0⟩, ⟨false, 200, 0, 0⟩, ⟨false, 4294967295, 0, 0⟩, ⟨true, 0, 0, 0⟩, ⟨true, 0, 3, 5⟩, ⟨true, 0, 0, 1⟩]
theorem Try.infoSc : (Try.prog.info? 30).map (fun i => (i.zero, i.size, i.bytes)) = some (some (.agg #[.bool false, .int .i64 0, .int .i64 0, .int .i64 0]), 4, 32) := by kernel_rfl
def RelK (w0 : World) (v : Value) (wr : World) : Prop := ∃ k : Int, -1 ≤ k ∧ k ≤ 12 ∧ v = .int .i64 k ∧ Below w0.heap.size w0 wr
def RelN (m : Nat) (w0 : World) (v : Value) (wr : World) : Prop := ∃ q : Nat, q ≤ m ∧ v = .int .i64 (q : Nat) ∧ Below w0.heap.size w0 wr
/-- what Put told: a row of its own, or none -/
def PutOut (big : Bool) (p k : Int) (s : SC) (v8 v9 : Value) (w0 wx : World) : Prop :=
  (mayA p ∧ mayS k s = true ∧ ∃ B, v8 = .slice (some ⟨B, 0, none⟩) (sizN p k) (sizN p k) ∧ v9 = .int .i64 0 ∧ w0.heap.size ≤ B ∧ At wx B (byC (putL big (sizN p k) s)) 45 ∧ Below w0.heap.size w0 wx)
  ∨ (¬ (mayA p ∧ mayS k s = true) ∧ v8 = .slice none 0 0 ∧ v9 = .int .i64 1 ∧ Below w0.heap.size w0 wx)
theorem nil_bys (w : World) : IsBys w none 0 [] := ⟨by omega, rfl, fun h => absurd h (by omega)⟩

set_option maxRecDepth 100000 in
set_option maxHeartbeats 12800000 in
theorem putlaw_any (pa ps pb : Option Addr) (la ca ls cs lb cb : Nat) (xa : List (Bool × Int)) (ss : List SC) (bs : List BY) (ha : la ≤ 140737488355328) (hs : ls ≤ 140737488355328) (hb : lb ≤ 140737488355328) (w : World) (hxa : IsAbis w pa la ca xa) (hss : InScs w ps ls cs ss) (hbs : InBys w pb lb cb bs) :
    Calls Try.prog 3 #[.agg #[.slice pa la ca, .slice ps ls cs, .slice pb lb cb]] w fun e w' => e = .returned (.bool true) ∧ Below w.heap.size w w' := by
  have dK := At.new w #[.slice pa la ca, .slice ps ls cs, .slice pb lb cb] 26
  have hb0 := below_box1 w (.cells #[.slice pa la ca, .slice ps ls cs, .slice pb lb cb] 26)
  have cH := fun w => heavy_any pa ps pb la ca ls cs lb cb ha hs hb w
  have cW := fun w => wakes_any w
  have cNum := fun x w => num_any x w
  have HX := Lib.hid hxa
  have HSS := Lib.hid hss
  have HBS := Lib.hid hbs
  clear hxa hss hbs ha hs hb
  go_enter Try.func3, Try.ntmps3
  go_wp2_with fail
  refine (cH _).mono ?_
  rintro e w1 ⟨hv, rfl, hle, hb1⟩
  replace dK := At.below' hb1 dK
  replace hb0 := hb0.trans (hb1.mono hb0.size)
  clear hb1 cH
  cases hv
  · have h300 := hle rfl
    have k0 : w1.cell? ⟨w.heap.size, 0, none⟩ = some (.slice pa la ca) := dK.cell 0 rfl
    clear hle
    go_wp2_with fail
    refine (machines_any pa la ca xa (by omega) _ (HX.out.below hb0)).mono ?_
    rintro e w2 ⟨g, m, cap, fa, rfl, hm4, hm6, hgge, hM, hb1⟩
    replace dK := At.below' hb1 dK
    replace hb0 := hb0.trans (hb1.mono hb0.size)
    clear hb1 k0
    have k1 : w2.cell? ⟨w.heap.size, 1, none⟩ = some (.slice ps ls cs) := dK.cell 1 rfl
    have hys := ((HSS.out.below hb0).below (below_box1 w2 (.cells #[.bool false, .int .i64 0, .int .i64 0, .int .i64 0, .bool false, .int .i64 200, .int .i64 0, .int .i64 0, .bool false, .int .i64 4294967295, .int .i64 0, .int .i64 0, .bool true, .int .i64 0, .int .i64 0, .int .i64 0, .bool true, .int .i64 0, .int .i64 3, .int .i64 5, .bool true, .int .i64 0, .int .i64 0, .int .i64 1] 30))).yields
    have hown0 := ownsRow_lit w2 w2.heap.size 30 4 6 #[.bool false, .int .i64 0, .int .i64 0, .int .i64 0, .bool false, .int .i64 200, .int .i64 0, .int .i64 0, .bool false, .int .i64 4294967295, .int .i64 0, .int .i64 0, .bool true, .int .i64 0, .int .i64 0, .int .i64 0, .bool true, .int .i64 0, .int .i64 3, .int .i64 5, .bool true, .int .i64 0, .int .i64 0, .int .i64 1] (Nat.le_refl _) rfl (by decide)
    obtain ⟨j0, gi, gz0, gz1, gz2⟩ := info_parts Try.infoSc
    have hNK : w.heap.size < w2.heap.size := dK.lt
    go_wp2_with (first | (at_builtin; refine wpList_append_any rfl _ _ 23 rfl w2.heap.size 30 j0 _ 4 32 Try.underlying23 gi gz0 gz1 gz2 rfl (by decide) _ 6 _ rfl hown0 (fun h => by cases h) _ _ _ _ rfl hys ?_ ?_ ?_ ?_))
    · unfold maxLen; omega
    · omega
    all_goals try (simp; done)
    · intro v3 w3 hown3 hgrow3 hne3
      have hbel : Below w2.heap.size w2 w3 := (((Below.refl _ _).alloc (Nat.le_refl _) _).grown hgrow3 (by simp) (fun k hk => by simp [Value.ownBlock] at hk; omega))
      replace hown3 : w3.ownsRow w2.heap.size 30 4 v3 (6 + ls) (scCs (six ++ ss)) := by simpa [scCs, six, scL] using hown3
      obtain ⟨gs, cap2, rfl, hncap, hge, hlt, hcells⟩ := ownsRow_row hown3 hne3
      have hS : ScRow w3 gs (6 + ls) (six ++ ss) := ⟨hlt, fun i hi => by
        have hl : i < (six ++ ss).length := by rw [List.length_append, HSS.out.1]; simp [six]; omega
        have hh := fun c hc => scCs_get (six ++ ss) i hl c hc
        exact ⟨hcells _ _ (hh 0 (by decide)), hcells _ _ (hh 1 (by decide)), hcells _ _ (hh 2 (by decide)), hcells _ _ (hh 3 (by decide))⟩⟩
      generalize six ++ ss = fs at *
      obtain ⟨ms, hms⟩ : ∃ ms, ms = 6 + ls := ⟨_, rfl⟩
      have hms306 : ms ≤ 306 := by omega
      replace hS : ScRow w3 gs ms fs := by rw [hms]; exact hS
      replace dK := At.below' hbel dK
      replace hM := hM.below hbel
      replace hb0 := hb0.trans (hbel.mono hb0.size)
      clear hown0 hown3 hgrow3 hne3 hys gi gz0 gz1 gz2 hcells k1 hbel hlt hge hncap
      rw [← hms]
      clear hms
      go_wp2_with fail
      go_loopw [5] (fun v wr => RelN ms w3 v wr) (fun v _ => ms - (intOf v).toNat)
      case atStart => exact ⟨0, by omega, rfl, Below.refl _ _⟩
      case round =>
        obtain ⟨i, hi, rfl, hbr⟩ := hrel
        by_cases hlt : i < ms ∧ i < 16
        · obtain ⟨hlt1, hlt2⟩ := hlt
          have hi3 : (i : Int) < (ms : Int) := by omega
          have hi4 : (i : Int) < 16 := by omega
          have hSi := (hS.below hbr).2 i hlt1
          generalize fs.getD i default = s at *
          obtain ⟨sp, sn, sb, so⟩ := s
          obtain ⟨e0, e1, e2, e3⟩ := hSi
          dsimp only at e0 e1 e2 e3
          have hMr := hM.below hbr
          obtain ⟨w4, hw4⟩ : ∃ w4, w4 = wr := ⟨_, rfl⟩
          rw [← hw4] at e0 e1 e2 e3 hbr hMr ⊢
          clear hw4
          go_wp2_with fail
          go_loopw [6] (fun v wr => RelK w4 v wr) (fun v _ => (12 - intOf v).toNat)
          case atStart => exact ⟨-1, by omega, by omega, rfl, Below.refl _ _⟩
          case round =>
            obtain ⟨k, hk1, hk2, rfl, hbk⟩ := hrel
            by_cases hk11 : k ≤ 11
            · have f0 := cell_below e0 hbk
              have f1 := cell_below e1 hbk
              have f2 := cell_below e2 hbk
              have f3 := cell_below e3 hbk
              obtain ⟨w5, hw5⟩ : ∃ w5, w5 = wr := ⟨_, rfl⟩
              rw [← hw5] at f0 f1 f2 f3 hbk ⊢
              clear hw5
              have cC0 := fun w => Check_any k ⟨sp, sn, sb, so⟩ w
              have cR := fun w => rScalar_any k ⟨sp, sn, sb, so⟩ w
              have hMk := hMr.below hbk
              generalize hmm : mayS k ⟨sp, sn, sb, so⟩ = mm at *
              obtain ⟨cv, hcv⟩ : ∃ cv : Int, cv = if mm = true then 0 else 1 := ⟨_, rfl⟩
              have cC : ∀ w, Calls Try.prog 16 #[.int .i64 k, .agg #[.bool sp, .int .i64 sn, .int .i64 sb, .int .i64 so]] w fun e w' => e = .returned (.int .i64 cv) ∧ Below w.heap.size w w' := by rw [hcv]; exact cC0
              have hcm : (cv == 0) = mm := by subst hcv; cases mm <;> rfl
              have hmx : (mm != mm) = false := by cases mm <;> rfl
              have HMM := Lib.hid hmm
              unfold scV at cR
              dsimp only at cR
              clear cC0 hcv hmm
              go_wp2_with fail
              have q0 := fun p : BelowBy w5 => p.cell f0
              have q1 := fun p : BelowBy w5 => p.cell f1
              have q2 := fun p : BelowBy w5 => p.cell f2
              have q3 := fun p : BelowBy w5 => p.cell f3
              refine wp_region_quiet_below (by kernel_rfl) (by kernel_rfl) ?_
              repeat (go_big_quiet_step ((first | (go_at_call 16; (with_reducible exact Calls.below_of (cC _))) | (go_at_call 15; (with_reducible exact Calls.below_same (cNum _ _))) | (go_at_call 17; (with_reducible exact Calls.below_of (cR _))))))
              refine wpQuiet_nil ?_
              intro w6 hw'
              obtain ⟨⟨wz, hb6⟩, hw''⟩ := hw'
              have hb6 : Below w5.heap.size w5 w6 := by rw [hw'']; exact hb6
              clear hw''
              have g0 := cell_below f0 hb6
              have g1 := cell_below f1 hb6
              have g2 := cell_below f2 hb6
              have g3 := cell_below f3 hb6
              have hM6 := hMk.below hb6
              have hbk6 := hbk.trans (hb6.mono hbk.size)
              clear q0 q1 q2 q3 f0 f1 f2 f3 hb6 hbk hMk cC hcm
              go_wp2_with fail
              go_loopw [7] (fun v wr => RelN m w6 v wr) (fun v _ => m - (intOf v).toNat)
              case atStart => exact ⟨0, by omega, rfl, Below.refl _ _⟩
              case round =>
                obtain ⟨q, hq, rfl, hbq⟩ := hrel
                by_cases hqm : q < m
                · have hMq := (hM6.below hbq).2.2 q hqm
                  generalize fa.getD q (false, 0) = mac at *
                  obtain ⟨big, p⟩ := mac
                  obtain ⟨m0, m1⟩ := hMq
                  dsimp only at m0 m1
                  have hq3 : (q : Int) < (m : Int) := by omega
                  have h0 := cell_below g0 hbq
                  have h1 := cell_below g1 hbq
                  have h2 := cell_below g2 hbq
                  have h3 := cell_below g3 hbq
                  obtain ⟨w7, hw7⟩ : ∃ w7, w7 = wr := ⟨_, rfl⟩
                  rw [← hw7] at m0 m1 h0 h1 h2 h3 hbq ⊢
                  clear hw7
                  have cA := fun w => Abi_any big p w
                  go_wp2_with fail
                  go_cut [8, 9] from 63 to 75 (fun v8 v9 wx => PutOut big p k ⟨sp, sn, sb, so⟩ v8 v9 w7 wx)
                  case first =>
                    by_cases hok : mayA p ∧ mayS k ⟨sp, sn, sb, so⟩ = true
                    · have hput := fun w => Put_any big p k hok.1 ⟨sp, sn, sb, so⟩ hok.2 w
                      have HOK := Lib.hid hok
                      unfold scV at hput
                      dsimp only at hput
                      clear hok
                      go_region_with ((go_at_call 18; (with_reducible refine (hput _).mono ?_); rintro e wp ⟨B, rfl, hge, hB, hbp⟩))
                      all_goals
                        go_wp2
                        go_meet
                        case rel => exact Or.inl ⟨HOK.out.1, HOK.out.2, _, rfl, rfl, hge, hB, (Below.refl _ _).drew.trans hbp⟩
                    · have hput := fun w => Put_no big p k ⟨sp, sn, sb, so⟩ hok w
                      have HOK := Lib.hid hok
                      unfold scV at hput
                      dsimp only at hput
                      clear hok
                      go_region_with ((go_at_call 18; (with_reducible refine (hput _).mono ?_); rintro e wp ⟨rfl, hbp⟩))
                      all_goals
                        go_wp2
                        go_meet
                        case rel => exact Or.inr ⟨HOK.out, rfl, rfl, (Below.refl _ _).drew.trans hbp⟩
                  case rest =>
                    rename World => w8
                    rcases hcut with ⟨hpA, hmS, B, rfl, rfl, hgeB, dL, hb8⟩ | ⟨hno, rfl, rfl, hb8⟩
                    · have hrput := fun w => rPut_any big p k hpA ⟨sp, sn, sb, so⟩ hmS w
                      have hpl := putL_len big (sizN p k) ⟨sp, sn, sb, so⟩
                      have hn := siz_cases hpA (mayS_kind hmS)
                      have hmt : mm = true := by rw [← HMM.out]; exact hmS
                      subst hmt
                      have hpp : (p == 2 || p == 4) = true := by rcases hpA with rfl | rfl <;> rfl
                      rw [hpp] at cA
                      unfold scV at hrput
                      dsimp only at hrput
                      generalize putL big (sizN p k) ⟨sp, sn, sb, so⟩ = xs at *
                      generalize sizN p k = n at *
                      have hn4 : n ≤ 4 := by omega
                      have HPL := Lib.hid hpl
                      have n0 := cell_below m0 hb8
                      have n1 := cell_below m1 hb8
                      have i0 := cell_below h0 hb8
                      have i1 := cell_below h1 hb8
                      have i2 := cell_below h2 hb8
                      have i3 := cell_below h3 hb8
                      have hb78 := hbq.trans (hb8.mono hbq.size)
                      have hBW : w6.heap.size ≤ B := by have := hbq.size; omega
                      clear hpp hn hpl m0 m1 h0 h1 h2 h3 hb8 hbq
                      go_wp2_with fail
                      refine (cA _).mono ?_
                      rintro e w9 ⟨rfl, hb9⟩
                      replace n0 := cell_below n0 hb9
                      replace n1 := cell_below n1 hb9
                      replace i0 := cell_below i0 hb9
                      replace i1 := cell_below i1 hb9
                      replace i2 := cell_below i2 hb9
                      replace i3 := cell_below i3 hb9
                      replace dL := At.below' hb9 dL
                      replace hb78 := hb78.trans (hb9.mono hb78.size)
                      clear hb9 cA
                      go_wp2_with fail
                      refine (cR _).mono ?_
                      rintro e wA ⟨rfl, hb9⟩
                      replace n0 := cell_below n0 hb9
                      replace n1 := cell_below n1 hb9
                      replace i0 := cell_below i0 hb9
                      replace i1 := cell_below i1 hb9
                      replace i2 := cell_below i2 hb9
                      replace i3 := cell_below i3 hb9
                      replace dL := At.below' hb9 dL
                      replace hb78 := hb78.trans (hb9.mono hb78.size)
                      have DL := Lib.hid dL
                      clear hb9 dL
                      go_upto_if 88 with (fail)
                      go_cut [10, 11] from 88 to 98 (fun v10 v11 wx => ∃ B2, v10 = .int .i64 0 ∧ v11 = .slice (some ⟨B2, 0, none⟩) n n ∧ At wx B2 (byC xs) 45 ∧ Below wA.heap.size wA wx)
                      case first =>
                        go_wp2_with fail
                        go_region_with ((go_at_call 20; (with_reducible refine (hrput _).mono ?_); rintro e wp ⟨B2, rfl, hge2, hB2, hbp⟩))
                        all_goals
                          go_wp2
                          go_meet
                          case rel => exact ⟨_, rfl, rfl, hB2, (Below.refl _ _).drew.trans hbp⟩
                      case rest =>
                        rename World => wB
                        obtain ⟨B2, rfl, rfl, dW, hbB⟩ := hcut
                        replace DL := Lib.hid (At.below' hbB DL.out)
                        replace hb78 := hb78.trans (hbB.mono hb78.size)
                        have heq : eqLY xs xs = true := eqLY_iff.2 rfl
                        have hEq := EqBytes_any (some ⟨B, 0, none⟩) n n xs (some ⟨B2, 0, none⟩) n n xs wB (bys_of_at DL.out HPL.out (by omega)) (bys_of_at dW HPL.out (by omega))
                        rw [heq] at hEq
                        clear hbB n0 n1 i0 i1 i2 i3 hrput heq
                        go_wp2_with fail
                        refine (cNum _ _).mono ?_
                        rintro e wn ⟨rfl, rfl⟩
                        go_wp2_with fail
                        refine hEq.mono ?_
                        rintro e wC ⟨rfl, hbC⟩
                        replace DL := Lib.hid (At.below' hbC DL.out)
                        replace hb78 := hb78.trans (hbC.mono hb78.size)
                        clear hEq hbC
                        go_wp2_with fail
                        refine (spoil_any B n n xs _ (BRow.of_at DL.out) HPL.out (by omega)).mono ?_
                        rintro e wD ⟨rfl, hbD⟩
                        have hbE := hb78.trans (hbD.mono hBW)
                        clear hbD hb78
                        go_wp2
                        go_roundw
                        case rel => exact ⟨q + 1, by omega, by go_num, hbE⟩
                        case measure => (simp [intOf]; try omega)
                    · have n0 := cell_below m0 hb8
                      have n1 := cell_below m1 hb8
                      have i0 := cell_below h0 hb8
                      have i1 := cell_below h1 hb8
                      have i2 := cell_below h2 hb8
                      have i3 := cell_below h3 hb8
                      have hb78 := hbq.trans (hb8.mono hbq.size)
                      clear m0 m1 h0 h1 h2 h3 hb8 hbq
                      have hEq := fun w => EqBytes_any none 0 0 [] none 0 0 [] w (nil_bys w) (nil_bys w)
                      have heq : eqLY [] [] = true := rfl
                      rw [heq] at hEq
                      have hSp := fun w => spoil_0 0 none w
                      by_cases hpA : mayA p
                      · have hmf : mm = false := by
                          cases hq : mm
                          · rfl
                          · exact absurd ⟨hpA, by rw [HMM.out, hq]⟩ hno
                        subst hmf
                        have hpp : (p == 2 || p == 4) = true := by rcases hpA with rfl | rfl <;> rfl
                        rw [hpp] at cA
                        clear hpp hno hpA
                        go_wp2_with fail
                        refine (cA _).mono ?_
                        rintro e w9 ⟨rfl, hb9⟩
                        replace i0 := cell_below i0 hb9
                        replace i1 := cell_below i1 hb9
                        replace i2 := cell_below i2 hb9
                        replace i3 := cell_below i3 hb9
                        replace hb78 := hb78.trans (hb9.mono hb78.size)
                        clear hb9 cA n0 n1
                        go_wp2_with fail
                        refine (cR _).mono ?_
                        rintro e wA ⟨rfl, hb9⟩
                        replace hb78 := hb78.trans (hb9.mono hb78.size)
                        clear hb9 i0 i1 i2 i3
                        go_wp2_with fail
                        refine (cNum _ _).mono ?_
                        rintro e wn ⟨rfl, rfl⟩
                        go_wp2_with fail
                        refine (hEq _).mono ?_
                        rintro e wC ⟨rfl, hbC⟩
                        replace hb78 := hb78.trans (hbC.mono hb78.size)
                        clear hEq hbC
                        go_wp2_with fail
                        refine (hSp _).mono ?_
                        rintro e wD ⟨rfl, rfl⟩
                        go_wp2
                        go_roundw
                        case rel => exact ⟨q + 1, by omega, by go_num, hb78⟩
                        case measure => (simp [intOf]; try omega)
                      · have hpp : (p == 2 || p == 4) = false := by
                          rw [Bool.or_eq_false_iff, beq_eq_false_iff_ne, beq_eq_false_iff_ne]
                          exact ⟨fun h => hpA (Or.inl h), fun h => hpA (Or.inr h)⟩
                        rw [hpp] at cA
                        clear hpp hno hpA
                        go_wp2_with fail
                        refine (cA _).mono ?_
                        rintro e w9 ⟨rfl, hb9⟩
                        replace hb78 := hb78.trans (hb9.mono hb78.size)
                        clear hb9 cA n0 n1 i0 i1 i2 i3
                        go_wp2_with fail
                        refine (cNum _ _).mono ?_
                        rintro e wn ⟨rfl, rfl⟩
                        go_wp2_with fail
                        refine (hEq _).mono ?_
                        rintro e wC ⟨rfl, hbC⟩
                        replace hb78 := hb78.trans (hbC.mono hb78.size)
                        clear hEq hbC
                        go_wp2_with fail
                        refine (hSp _).mono ?_
                        rintro e wD ⟨rfl, rfl⟩
                        go_wp2
                        go_roundw
                        case rel => exact ⟨q + 1, by omega, by go_num, hb78⟩
                        case measure => (simp [intOf]; try omega)
                · have hb9 := hbk6.trans (hbq.mono hbk6.size)
                  clear hbq hbk6
                  go_wp2
                  go_roundw
                  case rel => exact ⟨k + 1, by omega, by omega, by go_num, hb9⟩
                  case measure => (simp [intOf]; try omega)
            · have hb9 := hbr.trans (hbk.mono hbr.size)
              clear hbk hbr
              go_wp2
              go_roundw
              case rel => exact ⟨i + 1, by omega, by go_num, hb9⟩
              case measure => (simp [intOf]; try omega)
        · have hbF := hb0.trans (hbr.mono hb0.size)
          have dKr := At.below' hbr dK
          obtain ⟨w4, hw4⟩ : ∃ w4, w4 = wr := ⟨_, rfl⟩
          rw [← hw4] at hbF dKr ⊢
          have cB0 := fun (x : BY) w => Byte_any x w
          have cQ0 := fun (x : BY) w => rByte_any x w
          clear hw4 hbr dK hS hM
          have hcase : ¬ i < ms ∨ (i < ms ∧ ¬ i < 16) := by
            by_cases h1 : i < ms
            · exact Or.inr ⟨h1, fun h2 => hlt ⟨h1, h2⟩⟩
            · exact Or.inl h1
          clear hlt
          rcases hcase with hc1 | ⟨hc1, hc2⟩
          all_goals
            first
              | (have t16 : decide ((i : Int) < 16) = false := by (simp; omega))
              | skip
            first
              | (have tms : (i : Int) < (ms : Int) := by omega)
              | (have tms : decide ((i : Int) < (ms : Int)) = false := by (simp; omega))
            go_wp2_with fail
            go_loopw [12] (fun v wr => RelN lb w4 v wr) (fun v _ => lb - (intOf v).toNat)
            case atStart => exact ⟨0, by omega, rfl, Below.refl _ _⟩
            case round =>
              obtain ⟨l, hl, rfl, hbl⟩ := hrel
              have dKl := At.below' hbl dKr
              have k2 : wr.cell? ⟨w.heap.size, 2, none⟩ = some (.slice pb lb cb) := dKl.cell 2 rfl
              by_cases hl2 : l < lb ∧ l < 20
              · obtain ⟨hlb, hl20⟩ := hl2
                have hl3 : (l : Int) < (lb : Int) := by omega
                have hl4 : (l : Int) < 20 := by omega
                obtain ⟨bb, off, rfl, hbb, hcc⟩ := HBS.out.2.2.2 (by omega)
                have hcl := (hcc l hlb).below (hbF.trans (hbl.mono hbF.size))
                generalize bs.getD l default = x at *
                have cB1 := fun w => cB0 x w
                have cQ := fun w => cQ0 x w
                obtain ⟨xs, xn, xb, xo, xi⟩ := x
                obtain ⟨p0, p1, p2, p3, p4⟩ := hcl
                dsimp only at p0 p1 p2 p3 p4
                generalize mayY ⟨xs, xn, xb, xo, xi⟩ = mm at *
                obtain ⟨cv, hcv⟩ : ∃ cv : Int, cv = if mm = true then 0 else 1 := ⟨_, rfl⟩
                rw [← hcv] at cB1
                have hcm : (cv == 0) = mm := by subst hcv; cases mm <;> rfl
                have hmx : (mm != mm) = false := by cases mm <;> rfl
                unfold byV at cB1 cQ
                dsimp only at cB1 cQ
                clear hcv hcc
                go_wp2_with fail
                have qk := fun p : BelowBy wr => p.cell k2
                have q0 := fun p : BelowBy wr => p.cell p0
                have q1 := fun p : BelowBy wr => p.cell p1
                have q2 := fun p : BelowBy wr => p.cell p2
                have q3 := fun p : BelowBy wr => p.cell p3
                have q4 := fun p : BelowBy wr => p.cell p4
                refine wp_region_quiet_below (by kernel_rfl) (by kernel_rfl) ?_
                repeat (go_big_quiet_step ((first | (go_at_call 23; (with_reducible exact Calls.below_of (cB1 _))) | (go_at_call 15; (with_reducible exact Calls.below_same (cNum _ _))) | (go_at_call 24; (with_reducible exact Calls.below_of (cQ _))))))
                refine wpQuiet_nil ?_
                intro w6 hw'
                obtain ⟨⟨wz, hb6⟩, hw''⟩ := hw'
                have hb6 : Below wr.heap.size wr w6 := by rw [hw'']; exact hb6
                have hb9 := hbl.trans (hb6.mono hbl.size)
                clear hw'' q0 q1 q2 q3 q4 qk p0 p1 p2 p3 p4 k2 hb6 hbl
                go_wp2
                go_roundw
                case rel => exact ⟨l + 1, by omega, by go_num, hb9⟩
                case measure => (simp [intOf]; try omega)
              · have hb9 := hbF.trans (hbl.mono hbF.size)
                have hcase : ¬ l < lb ∨ (l < lb ∧ ¬ l < 20) := by
                  by_cases h1 : l < lb
                  · exact Or.inr ⟨h1, fun h2 => hl2 ⟨h1, h2⟩⟩
                  · exact Or.inl h1
                clear hl2 hbl
                rcases hcase with hc1 | ⟨hc1, hc2⟩
                all_goals
                  first
                    | (have t20 : decide ((l : Int) < 20) = false := by (simp; omega))
                    | skip
                  first
                    | (have tlb : (l : Int) < (lb : Int) := by omega)
                    | (have tlb : decide ((l : Int) < (lb : Int)) = false := by (simp; omega))
                  go_wp2_with fail
                  refine (cW _).mono ?_
                  rintro e w7 ⟨rfl, hb7⟩
                  go_wp2
                  go_ret
                  exact ⟨rfl, hb9.trans (hb7.mono hb9.size)⟩
  · clear hle
    go_wp2
    go_ret
    exact ⟨rfl, hb0⟩
end Go.Proofs.Ytfnebncelglbpaa
