/- ValTells: its walk. -/
import Derived.Test.YtjcapecimihjgaaVWake
namespace Go.Proofs.Ytjcapecimihjgaa
open Go.ChangeShapes Go.WideShapes Go.ChangeAt Go.RowKit Go.Joins Go.Deep
set_option linter.unusedVariables false


theorem none_least {M : Nat → Prop} {is : Bool} {r : Int} (h : is = true ↔ ∀ z, ¬ M z) (hr : LeastM M 0 r) : is = decide (r < 0) := by
  rw [Bool.eq_iff_iff, h, decide_eq_true_iff]
  rcases hr with ⟨rfl, h1⟩ | ⟨m, rfl, h1, h2, h3⟩
  · exact ⟨fun _ => by omega, fun _ z => h1 z (Nat.zero_le _)⟩
  · exact ⟨fun hh => absurd h2 (hh m), fun hh => by omega⟩
def SRes (M : Nat → Prop) (is : Bool) (n : Int) : Prop := (is = true ∧ ∃ m : Nat, n = m ∧ ∀ z, M z ↔ z = m) ∨ (is = false ∧ n = 0 ∧ ∀ m : Nat, ¬ ∀ z, M z ↔ z = m)
def SinglePost2 (k : Nat) (no : Bool) (l h f b : Nat) (w : World) (e : Ending) (w' : World) : Prop := ∃ is n, SRes (MemV k no l h f b) is n ∧ e = .returned (.tuple #[.bool is, .int .i64 n, .int .i64 0]) ∧ Below w.heap.size w w'
theorem single_res (k : Nat) (no : Bool) (l h f b : Nat) (ok : ValOk k no l h f b) (hm : mayB k no l h f b = true) (w : World) :
    Calls Try.prog 11 #[valV k no l h f b] w (SinglePost2 k no l h f b w) := by
  refine (Single_yes k no l h f b ok hm w).mono ?_
  rintro e w' (⟨m, h1, he, hb⟩ | ⟨h1, he, hb⟩)
  · exact ⟨true, m, Or.inl ⟨rfl, m, rfl, h1⟩, he, hb⟩
  · exact ⟨false, 0, Or.inr ⟨rfl, rfl, h1⟩, he, hb⟩
theorem only_no {M : Nat → Prop} {is : Bool} {n x : Int} (h : SRes M is n) (hx : OnlyRes M x false) : is = false ∧ n = 0 := by
  rcases h with ⟨rfl, m, rfl, h1⟩ | ⟨rfl, rfl, h1⟩
  · rcases hx with ⟨h2, _⟩ | ⟨_, h2⟩
    · cases h2
    · exact absurd h1 (h2 m)
  · exact ⟨rfl, rfl⟩
theorem only_yes {M : Nat → Prop} {is : Bool} {n x : Int} (h : SRes M is n) (hx : OnlyRes M x true) : is = true ∧ n = x := by
  rcases hx with ⟨_, m, rfl, h2⟩ | ⟨h2, _⟩
  · rcases h with ⟨rfl, m', rfl, h1⟩ | ⟨rfl, rfl, h1⟩
    · have := (h1 m).1 ((h2 m).2 rfl)
      exact ⟨rfl, by omega⟩
    · exact absurd h2 (h1 m)
  · cases h2
def NRes (M : Nat → Prop) (n : Nat) (x ev : Int) : Prop := (∃ m : Nat, n ≤ m ∧ M m ∧ (∀ z, n ≤ z → M z → m ≤ z) ∧ x = m ∧ ev = 0) ∨ ((∀ z, n ≤ z → ¬ M z) ∧ x = 0 ∧ ev = 3)
def NextPost2 (k : Nat) (no : Bool) (l h f b n : Nat) (w : World) (e : Ending) (w' : World) : Prop := ∃ x ev, NRes (MemV k no l h f b) n x ev ∧ e = .returned (.tuple #[.int .i64 x, .int .i64 ev]) ∧ Below w.heap.size w w'
theorem next_res (k : Nat) (no : Bool) (l h f b n : Nat) (ok : ValOk k no l h f b) (hm : mayB k no l h f b = true) (hn : n < 2 ^ k) (w : World) :
    Calls Try.prog 17 #[valV k no l h f b, .int .i64 n] w (NextPost2 k no l h f b n w) := by
  refine (Next_yes k no l h f b n ok hm hn w).mono ?_
  rintro e w' ⟨⟨m, h1, h2, h3, he⟩ | ⟨h1, he⟩, hb⟩
  · exact ⟨m, 0, Or.inl ⟨m, h1, h2, h3, rfl, rfl⟩, he, hb⟩
  · exact ⟨0, 3, Or.inr ⟨h1, rfl, rfl⟩, he, hb⟩
theorem next_same {M : Nat → Prop} {n : Nat} {x ev r : Int} (h : NRes M n x ev) (hr : LeastM M n r) : (x = 0 ∧ ev = 3 ∧ r = -1) ∨ ∃ m : Nat, x = m ∧ ev = 0 ∧ r = m := by
  rcases h with ⟨m, h1, h2, h3, rfl, rfl⟩ | ⟨h1, rfl, rfl⟩
  · rcases hr with ⟨rfl, g1⟩ | ⟨m', rfl, g1, g2, g3⟩
    · exact absurd h2 (g1 m h1)
    · have := h3 m' g1 g2
      have := g3 m h1 h2
      exact Or.inr ⟨m, rfl, rfl, by omega⟩
  · rcases hr with ⟨rfl, g1⟩ | ⟨m', rfl, g1, g2, g3⟩
    · exact Or.inl ⟨rfl, rfl, rfl⟩
    · exact absurd g2 (h1 m' g1)
def RHasPost (k : Nat) (no : Bool) (l h f b n : Nat) (w : World) (e : Ending) (w' : World) : Prop := ∃ is : Bool, (is = true ↔ MemV k no l h f b n) ∧ e = .returned (.bool is) ∧ Below w.heap.size w w'
theorem rHas_v (k : Nat) (no : Bool) (l h f b n : Nat) (ok : ValOk k no l h f b) (hn : n < 2 ^ k) (w : World) :
    Calls Try.prog 19 #[valV k no l h f b, .int .i64 n] w (RHasPost k no l h f b n w) := by
  cases no
  · refine (rHas_any k l h f b n ok.setOk (by have := ok.pat.hk.pow; omega) w).mono ?_
    rintro e w' ⟨he, hb⟩
    exact ⟨_, by rw [memB_iff ok.setOk hn]; unfold MemV; simp, he, hb⟩
  · refine (rHas_no k l h f b n w).mono ?_
    rintro e w' ⟨he, hb⟩
    exact ⟨false, by unfold MemV; simp, he, hb⟩
theorem below_boxR (w : World) (o : Obj) : Below w.heap.size w (w.alloc o) := (Below.refl _ _).alloc (Nat.le_refl _) _
theorem keep7_below {w w' : World} {p0 p1 p2 p3 p4 p5 p6 : Addr} {v0 v1 v2 v3 v4 v5 v6 : Value} (h : w.cell? p0 = some v0 ∧ w.cell? p1 = some v1 ∧ w.cell? p2 = some v2 ∧ w.cell? p3 = some v3 ∧ w.cell? p4 = some v4 ∧ w.cell? p5 = some v5 ∧ w.cell? p6 = some v6) (hb : Below w.heap.size w w') : w'.cell? p0 = some v0 ∧ w'.cell? p1 = some v1 ∧ w'.cell? p2 = some v2 ∧ w'.cell? p3 = some v3 ∧ w'.cell? p4 = some v4 ∧ w'.cell? p5 = some v5 ∧ w'.cell? p6 = some v6 := ⟨cell_below (h.1) hb, cell_below (h.2.1) hb, cell_below (h.2.2.1) hb, cell_below (h.2.2.2.1) hb, cell_below (h.2.2.2.2.1) hb, cell_below (h.2.2.2.2.2.1) hb, cell_below (h.2.2.2.2.2.2) hb⟩

def RelT (lv : Nat) (w2 : World) (v : Value) (wr : World) : Prop := ∃ j : Nat, j ≤ lv ∧ v = .int .i64 j ∧ Below w2.heap.size w2 wr
set_option maxRecDepth 100000 in
set_option maxHeartbeats 6400000 in
theorem tells_loop (pv : Option Addr) (lv cv : Nat) (vs : List VI) (pn : Option Addr) (ln cn : Nat) (zs : List Int) (w : World) (hv : IsVals w pv lv vs) (hn : IsInts w pn ln zs) (hcn : pn = none → cn = 0) :
    Calls Try.prog 3 #[.agg #[.slice pv lv cv, .slice pn ln cn]] w fun e w' => e = .returned (.bool true) ∧ Below w.heap.size w w' := by
  have d0 := At.new w #[.slice pv lv cv, .slice pn ln cn] 25
  have hb0 : Below w.heap.size w (w.alloc (.cells #[.slice pv lv cv, .slice pn ln cn] 25)) := (Below.refl _ _).alloc (Nat.le_refl _) _
  have cW := fun w => wakes_any w
  go_enter Try.func3, Try.ntmps3
  go_wp2_with fail
  refine (heavy_any pv lv cv pn ln cn _).mono ?_
  rintro e w1 ⟨hvy, rfl, hle, hb1⟩
  replace d0 := At.below' hb1 d0
  replace hb0 := hb0.trans (hb1.mono hb0.size)
  clear hb1
  cases hvy
  · obtain ⟨hlv, hln⟩ := hle rfl
    have c1 : w1.cell? ⟨w.heap.size, 1, none⟩ = some (.slice pn ln cn) := d0.cell 1 rfl
    have hyn := ((hn.below hb0).below (below_boxR w1 (.cells #[.int .i64 0, .int .i64 1, .int .i64 127, .int .i64 128, .int .i64 255, .int .i64 256, .int .i64 (-1), .int .i64 2147483648, .int .i64 4294967295] 3))).yields hcn
    have hown2 := ownsRow_lit w1 w1.heap.size 3 1 9 #[.int .i64 0, .int .i64 1, .int .i64 127, .int .i64 128, .int .i64 255, .int .i64 256, .int .i64 (-1), .int .i64 2147483648, .int .i64 4294967295] (Nat.le_refl _) rfl (by decide)
    obtain ⟨j0, gi, gz0, gz1, gz2⟩ := info_parts Try.infoInt
    have hN1 : w.heap.size < w1.heap.size := d0.lt
    go_wp2_with (first | (at_builtin; refine wpList_append_any rfl _ _ 23 rfl w1.heap.size 3 j0 (.int .i64 0) 1 8 Try.underlying23 gi gz0 gz1 gz2 rfl (by decide) _ 9 _ rfl hown2 (fun h => by cases h) _ _ _ _ rfl hyn ?_ ?_ ?_ ?_))
    · unfold maxLen; omega
    · omega
    · simp
    · intro v2 w2 hown3 hgrow3 hne3
      have hbel : Below w1.heap.size w1 w2 := (((Below.refl _ _).alloc (Nat.le_refl _) _).grown hgrow3 (by simp) (fun k hk => by simp [Value.ownBlock] at hk; omega))
      have hown4 : w2.ownsRow w1.heap.size 3 1 v2 (9 + ln) ((0 :: 1 :: 127 :: 128 :: 255 :: 256 :: -1 :: 2147483648 :: 4294967295 :: zs).map (Value.int .i64)) := hown3
      obtain ⟨g, cap, rfl, hxl, hx⟩ := ints_ownR hown4 hne3
      have d2 := At.below' hbel d0
      have hb2 := hb0.trans (hbel.mono hb0.size)
      obtain ⟨m, hm9⟩ : ∃ m, m = 9 + ln := ⟨_, rfl⟩
      have hns2 : ∀ q, q < m → ∃ n, w2.cell? ⟨g, q, none⟩ = some (.int .i64 n) := fun q hq => ⟨_, hx q (by rw [hxl]; omega)⟩
      have hm16 : m ≤ 109 := by omega
      have HM := Lib.hid hm9
      rw [← hm9] at *
      have c0 : w2.cell? ⟨w.heap.size, 0, none⟩ = some (.slice pv lv cv) := d2.cell 0 rfl
      clear hown2 hown3 hown4 hgrow3 hne3 hyn hx hxl c1 d0 hb0 hbel hm9 gi gz0 gz1 gz2
      go_wp2_with fail
      go_loopw [4] (fun v wr => RelT lv w2 v wr) (fun v _ => lv - (intOf v).toNat)
      case atStart => exact ⟨0, by omega, rfl, Below.refl _ _⟩
      case round =>
        obtain ⟨j, hj, rfl, hbr⟩ := hrel
        have c0r : wr.cell? ⟨w.heap.size, 0, none⟩ = some (.slice pv lv cv) := (d2.below hbr d2.lt).cell 0 rfl
        clear c0
        by_cases hjl : j < lv ∧ j < 10
        · obtain ⟨hj1, hj2⟩ := hjl
          obtain ⟨hvl, hvc⟩ := hv
          obtain ⟨bb, off, rfl, hbb, hcells⟩ := hvc (by omega)
          have hjs : j < vs.length := by omega
          have hbx : Below w.heap.size w wr := hb2.trans (hbr.mono hb2.size)
          have hcj := (hcells j hjs).below hbx
          obtain ⟨v, hvj⟩ : ∃ v, v = vs[j] := ⟨_, rfl⟩
          rw [← hvj] at hcj
          obtain ⟨p0, p1, p2, p3, p4, p5⟩ := hcj
          have hj3 : (j : Int) < (lv : Int) := by omega
          have hj4 : (j : Int) < 10 := by omega
          have dV := At.new wr #[.int .i64 v.k, .bool v.no, .int .i64 v.l, .int .i64 v.h, .int .i64 v.f, .int .i64 v.b] 28
          have hbV : Below w2.heap.size w2 (wr.alloc (.cells #[.int .i64 v.k, .bool v.no, .int .i64 v.l, .int .i64 v.h, .int .i64 v.f, .int .i64 v.b] 28)) := hbr.alloc hbr.size _
          clear hvc hcells hvj hjs hbx
          cases hm : mayB v.k v.no v.l v.h v.f v.b
          · have cV := fun w => rVal_any v.k v.no v.l v.h v.f v.b w
            rw [hm] at cV
            have cE := fun w => Empty_no v.k v.no v.l v.h v.f v.b hm w
            have cS := fun w => Single_no v.k v.no v.l v.h v.f v.b hm w
            have cC := fun w => Check_no v.k v.no v.l v.h v.f v.b hm w
            go_wp2_with fail
            refine (cV _).mono ?_
            rintro e wA ⟨rfl, hbc⟩
            replace hbV := hbV.trans (hbc.mono hbV.size)
            replace dV := At.below' hbc dV
            clear hbc p0 p1 p2 p3 p4 p5
            have q0 : wA.cell? ⟨wr.heap.size, 0, none⟩ = some (.int .i64 v.k) := dV.cell 0 rfl
            have q1 : wA.cell? ⟨wr.heap.size, 1, none⟩ = some (.bool v.no) := dV.cell 1 rfl
            have q2 : wA.cell? ⟨wr.heap.size, 2, none⟩ = some (.int .i64 v.l) := dV.cell 2 rfl
            have q3 : wA.cell? ⟨wr.heap.size, 3, none⟩ = some (.int .i64 v.h) := dV.cell 3 rfl
            have q4 : wA.cell? ⟨wr.heap.size, 4, none⟩ = some (.int .i64 v.f) := dV.cell 4 rfl
            have q5 : wA.cell? ⟨wr.heap.size, 5, none⟩ = some (.int .i64 v.b) := dV.cell 5 rfl
            go_wp2_with fail
            refine (cE _).mono ?_
            rintro e wC ⟨rfl, hbc⟩
            replace hbV := hbV.trans (hbc.mono hbV.size)
            replace dV := At.below' hbc dV
            clear hbc
            have q0 : wC.cell? ⟨wr.heap.size, 0, none⟩ = some (.int .i64 v.k) := dV.cell 0 rfl
            have q1 : wC.cell? ⟨wr.heap.size, 1, none⟩ = some (.bool v.no) := dV.cell 1 rfl
            have q2 : wC.cell? ⟨wr.heap.size, 2, none⟩ = some (.int .i64 v.l) := dV.cell 2 rfl
            have q3 : wC.cell? ⟨wr.heap.size, 3, none⟩ = some (.int .i64 v.h) := dV.cell 3 rfl
            have q4 : wC.cell? ⟨wr.heap.size, 4, none⟩ = some (.int .i64 v.f) := dV.cell 4 rfl
            have q5 : wC.cell? ⟨wr.heap.size, 5, none⟩ = some (.int .i64 v.b) := dV.cell 5 rfl
            clear cV cE
            go_wp2_with fail
            refine (cS _).mono ?_
            rintro e wD ⟨rfl, hbc⟩
            replace hbV := hbV.trans (hbc.mono hbV.size)
            replace dV := At.below' hbc dV
            clear hbc
            have q0 : wD.cell? ⟨wr.heap.size, 0, none⟩ = some (.int .i64 v.k) := dV.cell 0 rfl
            have q1 : wD.cell? ⟨wr.heap.size, 1, none⟩ = some (.bool v.no) := dV.cell 1 rfl
            have q2 : wD.cell? ⟨wr.heap.size, 2, none⟩ = some (.int .i64 v.l) := dV.cell 2 rfl
            have q3 : wD.cell? ⟨wr.heap.size, 3, none⟩ = some (.int .i64 v.h) := dV.cell 3 rfl
            have q4 : wD.cell? ⟨wr.heap.size, 4, none⟩ = some (.int .i64 v.f) := dV.cell 4 rfl
            have q5 : wD.cell? ⟨wr.heap.size, 5, none⟩ = some (.int .i64 v.b) := dV.cell 5 rfl
            clear cS
            go_wp2_with fail
            refine (cC _).mono ?_
            rintro e wB ⟨rfl, hbc⟩
            replace hbV := hbV.trans (hbc.mono hbV.size)
            replace dV := At.below' hbc dV
            clear hbc cC
            obtain ⟨Bv, hBv⟩ : ∃ Bv, Bv = wr.heap.size := ⟨_, rfl⟩
            rw [← hBv] at dV ⊢
            have hbB := hbV
            have hns : ∀ q, q < m → ∃ n, wB.cell? ⟨g, q, none⟩ = some (.int .i64 n) := fun q hq => by
              obtain ⟨n, hn'⟩ := hns2 q hq
              exact ⟨n, (hbB.cell (p := ⟨g, q, none⟩) (World.block_lt_of_cell? w2 _ hn')).trans hn'⟩
            clear hbV hBv q0 q1 q2 q3 q4 q5
            go_wp2_with ((go_at_call 14; refine (num_any _ _).mono ?_; rintro e w' ⟨rfl, rfl⟩))
            go_loopw [18] (fun v wr => ∃ q : Nat, q ≤ m ∧ v = .int .i64 q ∧ Below wB.heap.size wB wr) (fun v _ => m - (intOf v).toNat)
            case atStart => exact ⟨0, by omega, rfl, Below.refl _ _⟩
            case round =>
              obtain ⟨q, hq, rfl, hbq⟩ := hrel
              by_cases hqm : q < m ∧ q < 16
              · obtain ⟨hq1, hq2⟩ := hqm
                obtain ⟨n, hcn0⟩ := hns q hq1
                have hS7 : wr.cell? ⟨Bv, 0, none⟩ = some (.int .i64 v.k) ∧ wr.cell? ⟨Bv, 1, none⟩ = some (.bool v.no) ∧ wr.cell? ⟨Bv, 2, none⟩ = some (.int .i64 v.l) ∧ wr.cell? ⟨Bv, 3, none⟩ = some (.int .i64 v.h) ∧ wr.cell? ⟨Bv, 4, none⟩ = some (.int .i64 v.f) ∧ wr.cell? ⟨Bv, 5, none⟩ = some (.int .i64 v.b) ∧ wr.cell? ⟨g, q, none⟩ = some (.int .i64 n) := ⟨(dV.below hbq dV.lt).cell 0 rfl, (dV.below hbq dV.lt).cell 1 rfl, (dV.below hbq dV.lt).cell 2 rfl, (dV.below hbq dV.lt).cell 3 rfl, (dV.below hbq dV.lt).cell 4 rfl, (dV.below hbq dV.lt).cell 5 rfl, (hbq.cell (p := ⟨g, q, none⟩) (World.block_lt_of_cell? wB _ hcn0)).trans hcn0⟩
                have hq3 : (q : Int) < (m : Int) := by omega
                have hq4 : (q : Int) < 16 := by omega
                have hq5 : (0 : Int) ≤ (q : Int) := by omega
                have hbqs := hbq.size
                clear hcn0
                have cH := fun w => Has_no v.k v.no v.l v.h v.f v.b n hm w
                have cN := fun w => Next_no v.k v.no v.l v.h v.f v.b n hm w
                go_wp2_with fail
                go_region_held3 (fun w' => w'.cell? ⟨Bv, 0, none⟩ = some (.int .i64 v.k) ∧ w'.cell? ⟨Bv, 1, none⟩ = some (.bool v.no) ∧ w'.cell? ⟨Bv, 2, none⟩ = some (.int .i64 v.l) ∧ w'.cell? ⟨Bv, 3, none⟩ = some (.int .i64 v.h) ∧ w'.cell? ⟨Bv, 4, none⟩ = some (.int .i64 v.f) ∧ w'.cell? ⟨Bv, 5, none⟩ = some (.int .i64 v.b) ∧ w'.cell? ⟨g, q, none⟩ = some (.int .i64 n))
                  (first
                    | exact hS7
                    | exact keep7_below (by assumption) hbc)
                  ((go_at_call 16; (with_reducible refine (cH _).mono ?_); rintro e w5 ⟨rfl, hbc⟩))
                have hbq2 : Below wB.heap.size wB w5 := below_step hbc hbq rfl rfl rfl rfl hbqs
                replace hS7 : w5.cell? ⟨Bv, 0, none⟩ = some (.int .i64 v.k) ∧ w5.cell? ⟨Bv, 1, none⟩ = some (.bool v.no) ∧ w5.cell? ⟨Bv, 2, none⟩ = some (.int .i64 v.l) ∧ w5.cell? ⟨Bv, 3, none⟩ = some (.int .i64 v.h) ∧ w5.cell? ⟨Bv, 4, none⟩ = some (.int .i64 v.f) ∧ w5.cell? ⟨Bv, 5, none⟩ = some (.int .i64 v.b) ∧ w5.cell? ⟨g, q, none⟩ = some (.int .i64 n) := by assumption
                have hbqs2 := hbq2.size
                clear hbc hbq
                go_wp2_with fail
                go_region_held3 (fun w' => w'.cell? ⟨Bv, 0, none⟩ = some (.int .i64 v.k) ∧ w'.cell? ⟨Bv, 1, none⟩ = some (.bool v.no) ∧ w'.cell? ⟨Bv, 2, none⟩ = some (.int .i64 v.l) ∧ w'.cell? ⟨Bv, 3, none⟩ = some (.int .i64 v.h) ∧ w'.cell? ⟨Bv, 4, none⟩ = some (.int .i64 v.f) ∧ w'.cell? ⟨Bv, 5, none⟩ = some (.int .i64 v.b) ∧ w'.cell? ⟨g, q, none⟩ = some (.int .i64 n))
                  (first
                    | exact hS7
                    | exact keep7_below (by assumption) hbc)
                  ((go_at_call 17; (with_reducible refine (cN _).mono ?_); rintro e w6 ⟨rfl, hbc⟩))
                have hbq3 : Below wB.heap.size wB w6 := below_step hbc hbq2 rfl rfl rfl rfl hbqs2
                replace hS7 : w6.cell? ⟨Bv, 0, none⟩ = some (.int .i64 v.k) ∧ w6.cell? ⟨Bv, 1, none⟩ = some (.bool v.no) ∧ w6.cell? ⟨Bv, 2, none⟩ = some (.int .i64 v.l) ∧ w6.cell? ⟨Bv, 3, none⟩ = some (.int .i64 v.h) ∧ w6.cell? ⟨Bv, 4, none⟩ = some (.int .i64 v.f) ∧ w6.cell? ⟨Bv, 5, none⟩ = some (.int .i64 v.b) ∧ w6.cell? ⟨g, q, none⟩ = some (.int .i64 n) := by assumption
                obtain ⟨_, _, _, _, _, _, cq⟩ := hS7
                clear hbc hbq2 cH cN
                go_wp2_with fail
                go_quiet (fail)
                go_wp2_with ((go_at_call 14; refine (num_any _ _).mono ?_; rintro e w' ⟨rfl, rfl⟩))
                go_roundw
                case rel => exact ⟨q + 1, by omega, by go_num, hbq3.trans (Joins.below_draws _ _ _)⟩
                case measure => simp [intOf]; omega
              · have hbO : Below w2.heap.size w2 wr := hbB.trans (hbq.mono hbB.size)
                clear hns dV hbq
                by_cases hq1 : q < m
                · have hq3 : (q : Int) < (m : Int) := by omega
                  have hq4 : decide ((q : Int) < 16) = false := by simp; omega
                  go_wp2_with fail
                  go_roundw
                  case rel => exact ⟨j + 1, by omega, by go_num, hbO⟩
                  case measure => simp [intOf]; omega
                · have hq3 : decide ((q : Int) < (m : Int)) = false := by simp; omega
                  go_wp2_with fail
                  go_roundw
                  case rel => exact ⟨j + 1, by omega, by go_num, hbO⟩
                  case measure => simp [intOf]; omega
          · obtain ⟨vk, vno, vl, vh, vf, vb⟩ := v
            simp only at hm p0 p1 p2 p3 p4 p5 dV hbV
            obtain ⟨K, L, H, F, B, rfl, rfl, rfl, rfl, rfl, ok, hz⟩ := may_nat hm
            clear hz
            have cV := fun w => rVal_any K vno L H F B w
            rw [hm] at cV
            have cE := fun w => Empty_ok K vno L H F B ok hm w
            have cS := fun w => single_res K vno L H F B ok hm w
            have c0N := fun w => rNext_v K vno L H F B 0 ok (by omega) w
            have cO := fun w => rOnly_v K vno L H F B ok w
            have cC := fun w => Check_yes K vno L H F B hm w
            go_wp2_with fail
            refine (cV _).mono ?_
            rintro e wA ⟨rfl, hbc⟩
            replace hbV := hbV.trans (hbc.mono hbV.size)
            replace dV := At.below' hbc dV
            clear hbc p0 p1 p2 p3 p4 p5 cV
            have q0 : wA.cell? ⟨wr.heap.size, 0, none⟩ = some (.int .i64 K) := dV.cell 0 rfl
            have q1 : wA.cell? ⟨wr.heap.size, 1, none⟩ = some (.bool vno) := dV.cell 1 rfl
            have q2 : wA.cell? ⟨wr.heap.size, 2, none⟩ = some (.int .i64 L) := dV.cell 2 rfl
            have q3 : wA.cell? ⟨wr.heap.size, 3, none⟩ = some (.int .i64 H) := dV.cell 3 rfl
            have q4 : wA.cell? ⟨wr.heap.size, 4, none⟩ = some (.int .i64 F) := dV.cell 4 rfl
            have q5 : wA.cell? ⟨wr.heap.size, 5, none⟩ = some (.int .i64 B) := dV.cell 5 rfl
            go_wp2_with fail
            refine (cE _).mono ?_
            rintro e wC ⟨ise, hise, rfl, hbc⟩
            replace hbV := hbV.trans (hbc.mono hbV.size)
            replace dV := At.below' hbc dV
            clear hbc
            have q0 : wC.cell? ⟨wr.heap.size, 0, none⟩ = some (.int .i64 K) := dV.cell 0 rfl
            have q1 : wC.cell? ⟨wr.heap.size, 1, none⟩ = some (.bool vno) := dV.cell 1 rfl
            have q2 : wC.cell? ⟨wr.heap.size, 2, none⟩ = some (.int .i64 L) := dV.cell 2 rfl
            have q3 : wC.cell? ⟨wr.heap.size, 3, none⟩ = some (.int .i64 H) := dV.cell 3 rfl
            have q4 : wC.cell? ⟨wr.heap.size, 4, none⟩ = some (.int .i64 F) := dV.cell 4 rfl
            have q5 : wC.cell? ⟨wr.heap.size, 5, none⟩ = some (.int .i64 B) := dV.cell 5 rfl
            clear cE
            go_wp2_with fail
            refine (cS _).mono ?_
            rintro e wD ⟨iss, ns, hss, rfl, hbc⟩
            replace hbV := hbV.trans (hbc.mono hbV.size)
            replace dV := At.below' hbc dV
            clear hbc
            have q0 : wD.cell? ⟨wr.heap.size, 0, none⟩ = some (.int .i64 K) := dV.cell 0 rfl
            have q1 : wD.cell? ⟨wr.heap.size, 1, none⟩ = some (.bool vno) := dV.cell 1 rfl
            have q2 : wD.cell? ⟨wr.heap.size, 2, none⟩ = some (.int .i64 L) := dV.cell 2 rfl
            have q3 : wD.cell? ⟨wr.heap.size, 3, none⟩ = some (.int .i64 H) := dV.cell 3 rfl
            have q4 : wD.cell? ⟨wr.heap.size, 4, none⟩ = some (.int .i64 F) := dV.cell 4 rfl
            have q5 : wD.cell? ⟨wr.heap.size, 5, none⟩ = some (.int .i64 B) := dV.cell 5 rfl
            clear cS
            go_wp2_with fail
            refine (c0N _).mono ?_
            rintro e wE ⟨r0, hr0, rfl, hbc⟩
            replace hbV := hbV.trans (hbc.mono hbV.size)
            replace dV := At.below' hbc dV
            clear hbc
            have q0 : wE.cell? ⟨wr.heap.size, 0, none⟩ = some (.int .i64 K) := dV.cell 0 rfl
            have q1 : wE.cell? ⟨wr.heap.size, 1, none⟩ = some (.bool vno) := dV.cell 1 rfl
            have q2 : wE.cell? ⟨wr.heap.size, 2, none⟩ = some (.int .i64 L) := dV.cell 2 rfl
            have q3 : wE.cell? ⟨wr.heap.size, 3, none⟩ = some (.int .i64 H) := dV.cell 3 rfl
            have q4 : wE.cell? ⟨wr.heap.size, 4, none⟩ = some (.int .i64 F) := dV.cell 4 rfl
            have q5 : wE.cell? ⟨wr.heap.size, 5, none⟩ = some (.int .i64 B) := dV.cell 5 rfl
            clear c0N
            obtain rfl : ise = decide (r0 < 0) := none_least hise hr0
            go_wp2_with fail
            refine (cO _).mono ?_
            rintro e wF ⟨x, iso, hxo, rfl, hbc⟩
            replace hbV := hbV.trans (hbc.mono hbV.size)
            replace dV := At.below' hbc dV
            clear hbc
            have q0 : wF.cell? ⟨wr.heap.size, 0, none⟩ = some (.int .i64 K) := dV.cell 0 rfl
            have q1 : wF.cell? ⟨wr.heap.size, 1, none⟩ = some (.bool vno) := dV.cell 1 rfl
            have q2 : wF.cell? ⟨wr.heap.size, 2, none⟩ = some (.int .i64 L) := dV.cell 2 rfl
            have q3 : wF.cell? ⟨wr.heap.size, 3, none⟩ = some (.int .i64 H) := dV.cell 3 rfl
            have q4 : wF.cell? ⟨wr.heap.size, 4, none⟩ = some (.int .i64 F) := dV.cell 4 rfl
            have q5 : wF.cell? ⟨wr.heap.size, 5, none⟩ = some (.int .i64 B) := dV.cell 5 rfl
            clear cO
            cases iso
            · obtain ⟨rfl, rfl⟩ : iss = false ∧ ns = 0 := only_no hss hxo
              clear hise hr0 hss hxo
              go_wp2_with fail
              refine (cC _).mono ?_
              rintro e wB ⟨rfl, hbc⟩
              replace hbV := hbV.trans (hbc.mono hbV.size)
              replace dV := At.below' hbc dV
              clear hbc cC
              obtain ⟨Bv, hBv⟩ : ∃ Bv, Bv = wr.heap.size := ⟨_, rfl⟩
              rw [← hBv] at dV ⊢
              have hbB := hbV
              have hns : ∀ q, q < m → ∃ n, wB.cell? ⟨g, q, none⟩ = some (.int .i64 n) := fun q hq => by
                obtain ⟨n, hn'⟩ := hns2 q hq
                exact ⟨n, (hbB.cell (p := ⟨g, q, none⟩) (World.block_lt_of_cell? w2 _ hn')).trans hn'⟩
              clear hbV hBv q0 q1 q2 q3 q4 q5
              go_wp2_with ((go_at_call 14; refine (num_any _ _).mono ?_; rintro e w' ⟨rfl, rfl⟩))
              go_loopw [18] (fun v wr => ∃ q : Nat, q ≤ m ∧ v = .int .i64 q ∧ Below wB.heap.size wB wr) (fun v _ => m - (intOf v).toNat)
              case atStart => exact ⟨0, by omega, rfl, Below.refl _ _⟩
              case round =>
                obtain ⟨q, hq, rfl, hbq⟩ := hrel
                by_cases hqm : q < m ∧ q < 16
                · obtain ⟨hq1, hq2⟩ := hqm
                  obtain ⟨n, hcn0⟩ := hns q hq1
                  have hS7 : wr.cell? ⟨Bv, 0, none⟩ = some (.int .i64 K) ∧ wr.cell? ⟨Bv, 1, none⟩ = some (.bool vno) ∧ wr.cell? ⟨Bv, 2, none⟩ = some (.int .i64 L) ∧ wr.cell? ⟨Bv, 3, none⟩ = some (.int .i64 H) ∧ wr.cell? ⟨Bv, 4, none⟩ = some (.int .i64 F) ∧ wr.cell? ⟨Bv, 5, none⟩ = some (.int .i64 B) ∧ wr.cell? ⟨g, q, none⟩ = some (.int .i64 n) := ⟨(dV.below hbq dV.lt).cell 0 rfl, (dV.below hbq dV.lt).cell 1 rfl, (dV.below hbq dV.lt).cell 2 rfl, (dV.below hbq dV.lt).cell 3 rfl, (dV.below hbq dV.lt).cell 4 rfl, (dV.below hbq dV.lt).cell 5 rfl, (hbq.cell (p := ⟨g, q, none⟩) (World.block_lt_of_cell? wB _ hcn0)).trans hcn0⟩
                  have hq3 : (q : Int) < (m : Int) := by omega
                  have hq4 : (q : Int) < 16 := by omega
                  have hq5 : (0 : Int) ≤ (q : Int) := by omega
                  have hbqs := hbq.size
                  clear hcn0 hns dV
                  by_cases hN : isN n K
                  · obtain ⟨nn, rfl, hnn⟩ := nat_isN hN
                    have cH := fun w => Has_yes K vno L H F B nn ok hm hnn w
                    have cN := fun w => next_res K vno L H F B nn ok hm hnn w
                    have cU : ∀ w, Calls Try.prog 18 #[.int .i64 nn, .int .i64 K] w fun e w' => e = .returned (.bool true) ∧ w = w' := fun w => rNumber_yes nn K ok.pat.hk.isW hN w
                    have cRH := fun w => rHas_v K vno L H F B nn ok hnn w
                    have cRN := fun w => rNext_v K vno L H F B nn ok (by have := ok.pat.hk.pow; omega) w
                    go_wp2_with fail
                    go_region_held3 (fun w' => w'.cell? ⟨Bv, 0, none⟩ = some (.int .i64 K) ∧ w'.cell? ⟨Bv, 1, none⟩ = some (.bool vno) ∧ w'.cell? ⟨Bv, 2, none⟩ = some (.int .i64 L) ∧ w'.cell? ⟨Bv, 3, none⟩ = some (.int .i64 H) ∧ w'.cell? ⟨Bv, 4, none⟩ = some (.int .i64 F) ∧ w'.cell? ⟨Bv, 5, none⟩ = some (.int .i64 B) ∧ w'.cell? ⟨g, q, none⟩ = some (.int .i64 nn))
                      (first
                        | exact hS7
                        | exact keep7_below (by assumption) hbc)
                      ((go_at_call 16; (with_reducible refine (cH _).mono ?_); rintro e w5 ⟨isv, hisv, rfl, hbc⟩))
                    have hbq2 : Below wB.heap.size wB w5 := below_step hbc hbq rfl rfl rfl rfl hbqs
                    replace hS7 : w5.cell? ⟨Bv, 0, none⟩ = some (.int .i64 K) ∧ w5.cell? ⟨Bv, 1, none⟩ = some (.bool vno) ∧ w5.cell? ⟨Bv, 2, none⟩ = some (.int .i64 L) ∧ w5.cell? ⟨Bv, 3, none⟩ = some (.int .i64 H) ∧ w5.cell? ⟨Bv, 4, none⟩ = some (.int .i64 F) ∧ w5.cell? ⟨Bv, 5, none⟩ = some (.int .i64 B) ∧ w5.cell? ⟨g, q, none⟩ = some (.int .i64 nn) := by assumption
                    have hbqs2 := hbq2.size
                    clear hbc hbq hbqs
                    clear cH
                    go_wp2_with fail
                    go_region_held3 (fun w' => w'.cell? ⟨Bv, 0, none⟩ = some (.int .i64 K) ∧ w'.cell? ⟨Bv, 1, none⟩ = some (.bool vno) ∧ w'.cell? ⟨Bv, 2, none⟩ = some (.int .i64 L) ∧ w'.cell? ⟨Bv, 3, none⟩ = some (.int .i64 H) ∧ w'.cell? ⟨Bv, 4, none⟩ = some (.int .i64 F) ∧ w'.cell? ⟨Bv, 5, none⟩ = some (.int .i64 B) ∧ w'.cell? ⟨g, q, none⟩ = some (.int .i64 nn))
                      (first
                        | exact hS7
                        | exact keep7_below (by assumption) hbc)
                      ((go_at_call 17; (with_reducible refine (cN _).mono ?_); rintro e w6 ⟨xn, en, hxn, rfl, hbc⟩))
                    have hbq3 : Below wB.heap.size wB w6 := below_step hbc hbq2 rfl rfl rfl rfl hbqs2
                    replace hS7 : w6.cell? ⟨Bv, 0, none⟩ = some (.int .i64 K) ∧ w6.cell? ⟨Bv, 1, none⟩ = some (.bool vno) ∧ w6.cell? ⟨Bv, 2, none⟩ = some (.int .i64 L) ∧ w6.cell? ⟨Bv, 3, none⟩ = some (.int .i64 H) ∧ w6.cell? ⟨Bv, 4, none⟩ = some (.int .i64 F) ∧ w6.cell? ⟨Bv, 5, none⟩ = some (.int .i64 B) ∧ w6.cell? ⟨g, q, none⟩ = some (.int .i64 nn) := by assumption
                    have hbqs3 := hbq3.size
                    clear hbc hbq2 hbqs2
                    clear cN
                    go_wp2_with fail
                    go_region_held3 (fun w' => w'.cell? ⟨Bv, 0, none⟩ = some (.int .i64 K) ∧ w'.cell? ⟨Bv, 1, none⟩ = some (.bool vno) ∧ w'.cell? ⟨Bv, 2, none⟩ = some (.int .i64 L) ∧ w'.cell? ⟨Bv, 3, none⟩ = some (.int .i64 H) ∧ w'.cell? ⟨Bv, 4, none⟩ = some (.int .i64 F) ∧ w'.cell? ⟨Bv, 5, none⟩ = some (.int .i64 B) ∧ w'.cell? ⟨g, q, none⟩ = some (.int .i64 nn))
                      (exact hS7)
                      ((go_at_call 18; (with_reducible refine (cU _).mono ?_); rintro e w7 ⟨rfl, rfl⟩))
                    clear cU
                    go_wp2_with fail
                    go_region_held3 (fun w' => w'.cell? ⟨Bv, 0, none⟩ = some (.int .i64 K) ∧ w'.cell? ⟨Bv, 1, none⟩ = some (.bool vno) ∧ w'.cell? ⟨Bv, 2, none⟩ = some (.int .i64 L) ∧ w'.cell? ⟨Bv, 3, none⟩ = some (.int .i64 H) ∧ w'.cell? ⟨Bv, 4, none⟩ = some (.int .i64 F) ∧ w'.cell? ⟨Bv, 5, none⟩ = some (.int .i64 B) ∧ w'.cell? ⟨g, q, none⟩ = some (.int .i64 nn))
                      (first
                        | exact hS7
                        | exact keep7_below (by assumption) hbc)
                      ((go_at_call 19; (with_reducible refine (cRH _).mono ?_); rintro e w8 ⟨isr, hisr, rfl, hbc⟩))
                    have hbq4 : Below wB.heap.size wB w8 := below_step hbc hbq3 rfl rfl rfl rfl hbqs3
                    replace hS7 : w8.cell? ⟨Bv, 0, none⟩ = some (.int .i64 K) ∧ w8.cell? ⟨Bv, 1, none⟩ = some (.bool vno) ∧ w8.cell? ⟨Bv, 2, none⟩ = some (.int .i64 L) ∧ w8.cell? ⟨Bv, 3, none⟩ = some (.int .i64 H) ∧ w8.cell? ⟨Bv, 4, none⟩ = some (.int .i64 F) ∧ w8.cell? ⟨Bv, 5, none⟩ = some (.int .i64 B) ∧ w8.cell? ⟨g, q, none⟩ = some (.int .i64 nn) := by assumption
                    have hbqs4 := hbq4.size
                    clear hbc hbq3 hbqs3
                    clear cRH
                    obtain rfl : isv = isr := Bool.eq_iff_iff.2 (hisv.trans hisr.symm)
                    go_wp2_with fail
                    go_region_held3 (fun w' => w'.cell? ⟨Bv, 0, none⟩ = some (.int .i64 K) ∧ w'.cell? ⟨Bv, 1, none⟩ = some (.bool vno) ∧ w'.cell? ⟨Bv, 2, none⟩ = some (.int .i64 L) ∧ w'.cell? ⟨Bv, 3, none⟩ = some (.int .i64 H) ∧ w'.cell? ⟨Bv, 4, none⟩ = some (.int .i64 F) ∧ w'.cell? ⟨Bv, 5, none⟩ = some (.int .i64 B) ∧ w'.cell? ⟨g, q, none⟩ = some (.int .i64 nn))
                      (first
                        | exact hS7
                        | exact keep7_below (by assumption) hbc)
                      ((go_at_call 12; (with_reducible refine (cRN _).mono ?_); rintro e w9 ⟨r, hr, rfl, hbc⟩))
                    have hbq5 : Below wB.heap.size wB w9 := below_step hbc hbq4 rfl rfl rfl rfl hbqs4
                    replace hS7 : w9.cell? ⟨Bv, 0, none⟩ = some (.int .i64 K) ∧ w9.cell? ⟨Bv, 1, none⟩ = some (.bool vno) ∧ w9.cell? ⟨Bv, 2, none⟩ = some (.int .i64 L) ∧ w9.cell? ⟨Bv, 3, none⟩ = some (.int .i64 H) ∧ w9.cell? ⟨Bv, 4, none⟩ = some (.int .i64 F) ∧ w9.cell? ⟨Bv, 5, none⟩ = some (.int .i64 B) ∧ w9.cell? ⟨g, q, none⟩ = some (.int .i64 nn) := by assumption
                    have hbqs5 := hbq5.size
                    clear hbc hbq4 hbqs4
                    clear cRN hS7
                    rcases next_same hxn hr with ⟨rfl, rfl, rfl⟩ | ⟨mm, rfl, rfl, rfl⟩
                    all_goals
                      clear hxn hr hisv hisr
                      go_wp2_with ((go_at_call 14; refine (num_any _ _).mono ?_; rintro e w' ⟨rfl, rfl⟩))
                      go_roundw
                      case rel => exact ⟨q + 1, by omega, by go_num, hbq5⟩
                      case measure => simp [intOf]; omega
                  · have cH := fun w => Has_out K vno L H F B n hm hN w
                    have cN := fun w => Next_out K vno L H F B n hm hN w
                    have cU : ∀ w, Calls Try.prog 18 #[.int .i64 n, .int .i64 K] w fun e w' => e = .returned (.bool false) ∧ w = w' := fun w => rNumber_no n K ok.pat.hk.isW hN w
                    go_wp2_with fail
                    go_region_held3 (fun w' => w'.cell? ⟨Bv, 0, none⟩ = some (.int .i64 K) ∧ w'.cell? ⟨Bv, 1, none⟩ = some (.bool vno) ∧ w'.cell? ⟨Bv, 2, none⟩ = some (.int .i64 L) ∧ w'.cell? ⟨Bv, 3, none⟩ = some (.int .i64 H) ∧ w'.cell? ⟨Bv, 4, none⟩ = some (.int .i64 F) ∧ w'.cell? ⟨Bv, 5, none⟩ = some (.int .i64 B) ∧ w'.cell? ⟨g, q, none⟩ = some (.int .i64 n))
                      (first
                        | exact hS7
                        | exact keep7_below (by assumption) hbc)
                      ((go_at_call 16; (with_reducible refine (cH _).mono ?_); rintro e w5 ⟨rfl, hbc⟩))
                    have hbq2 : Below wB.heap.size wB w5 := below_step hbc hbq rfl rfl rfl rfl hbqs
                    replace hS7 : w5.cell? ⟨Bv, 0, none⟩ = some (.int .i64 K) ∧ w5.cell? ⟨Bv, 1, none⟩ = some (.bool vno) ∧ w5.cell? ⟨Bv, 2, none⟩ = some (.int .i64 L) ∧ w5.cell? ⟨Bv, 3, none⟩ = some (.int .i64 H) ∧ w5.cell? ⟨Bv, 4, none⟩ = some (.int .i64 F) ∧ w5.cell? ⟨Bv, 5, none⟩ = some (.int .i64 B) ∧ w5.cell? ⟨g, q, none⟩ = some (.int .i64 n) := by assumption
                    have hbqs2 := hbq2.size
                    clear hbc hbq hbqs
                    go_wp2_with fail
                    go_region_held3 (fun w' => w'.cell? ⟨Bv, 0, none⟩ = some (.int .i64 K) ∧ w'.cell? ⟨Bv, 1, none⟩ = some (.bool vno) ∧ w'.cell? ⟨Bv, 2, none⟩ = some (.int .i64 L) ∧ w'.cell? ⟨Bv, 3, none⟩ = some (.int .i64 H) ∧ w'.cell? ⟨Bv, 4, none⟩ = some (.int .i64 F) ∧ w'.cell? ⟨Bv, 5, none⟩ = some (.int .i64 B) ∧ w'.cell? ⟨g, q, none⟩ = some (.int .i64 n))
                      (first
                        | exact hS7
                        | exact keep7_below (by assumption) hbc)
                      ((go_at_call 17; (with_reducible refine (cN _).mono ?_); rintro e w6 ⟨rfl, hbc⟩))
                    have hbq3 : Below wB.heap.size wB w6 := below_step hbc hbq2 rfl rfl rfl rfl hbqs2
                    replace hS7 : w6.cell? ⟨Bv, 0, none⟩ = some (.int .i64 K) ∧ w6.cell? ⟨Bv, 1, none⟩ = some (.bool vno) ∧ w6.cell? ⟨Bv, 2, none⟩ = some (.int .i64 L) ∧ w6.cell? ⟨Bv, 3, none⟩ = some (.int .i64 H) ∧ w6.cell? ⟨Bv, 4, none⟩ = some (.int .i64 F) ∧ w6.cell? ⟨Bv, 5, none⟩ = some (.int .i64 B) ∧ w6.cell? ⟨g, q, none⟩ = some (.int .i64 n) := by assumption
                    have hbqs3 := hbq3.size
                    clear hbc hbq2 hbqs2
                    go_wp2_with fail
                    go_region_held3 (fun w' => w'.cell? ⟨Bv, 0, none⟩ = some (.int .i64 K) ∧ w'.cell? ⟨Bv, 1, none⟩ = some (.bool vno) ∧ w'.cell? ⟨Bv, 2, none⟩ = some (.int .i64 L) ∧ w'.cell? ⟨Bv, 3, none⟩ = some (.int .i64 H) ∧ w'.cell? ⟨Bv, 4, none⟩ = some (.int .i64 F) ∧ w'.cell? ⟨Bv, 5, none⟩ = some (.int .i64 B) ∧ w'.cell? ⟨g, q, none⟩ = some (.int .i64 n))
                      (exact hS7)
                      ((go_at_call 18; (with_reducible refine (cU _).mono ?_); rintro e w7 ⟨rfl, rfl⟩))
                    clear hS7 cH cN cU
                    go_wp2_with ((go_at_call 14; refine (num_any _ _).mono ?_; rintro e w' ⟨rfl, rfl⟩))
                    go_roundw
                    case rel => exact ⟨q + 1, by omega, by go_num, hbq3.trans (Joins.below_draws _ _ _)⟩
                    case measure => simp [intOf]; omega
                · have hbO : Below w2.heap.size w2 wr := hbB.trans (hbq.mono hbB.size)
                  clear hns dV hbq
                  by_cases hq1 : q < m
                  · have hq3 : (q : Int) < (m : Int) := by omega
                    have hq4 : decide ((q : Int) < 16) = false := by simp; omega
                    go_wp2_with fail
                    go_roundw
                    case rel => exact ⟨j + 1, by omega, by go_num, hbO⟩
                    case measure => simp [intOf]; omega
                  · have hq3 : decide ((q : Int) < (m : Int)) = false := by simp; omega
                    go_wp2_with fail
                    go_roundw
                    case rel => exact ⟨j + 1, by omega, by go_num, hbO⟩
                    case measure => simp [intOf]; omega
            · obtain ⟨rfl, rfl⟩ : iss = true ∧ ns = x := only_yes hss hxo
              clear hise hr0 hss hxo
              go_wp2_with fail
              refine (cC _).mono ?_
              rintro e wB ⟨rfl, hbc⟩
              replace hbV := hbV.trans (hbc.mono hbV.size)
              replace dV := At.below' hbc dV
              clear hbc cC
              obtain ⟨Bv, hBv⟩ : ∃ Bv, Bv = wr.heap.size := ⟨_, rfl⟩
              rw [← hBv] at dV ⊢
              have hbB := hbV
              have hns : ∀ q, q < m → ∃ n, wB.cell? ⟨g, q, none⟩ = some (.int .i64 n) := fun q hq => by
                obtain ⟨n, hn'⟩ := hns2 q hq
                exact ⟨n, (hbB.cell (p := ⟨g, q, none⟩) (World.block_lt_of_cell? w2 _ hn')).trans hn'⟩
              clear hbV hBv q0 q1 q2 q3 q4 q5
              go_wp2_with ((go_at_call 14; refine (num_any _ _).mono ?_; rintro e w' ⟨rfl, rfl⟩))
              go_loopw [18] (fun v wr => ∃ q : Nat, q ≤ m ∧ v = .int .i64 q ∧ Below wB.heap.size wB wr) (fun v _ => m - (intOf v).toNat)
              case atStart => exact ⟨0, by omega, rfl, Below.refl _ _⟩
              case round =>
                obtain ⟨q, hq, rfl, hbq⟩ := hrel
                by_cases hqm : q < m ∧ q < 16
                · obtain ⟨hq1, hq2⟩ := hqm
                  obtain ⟨n, hcn0⟩ := hns q hq1
                  have hS7 : wr.cell? ⟨Bv, 0, none⟩ = some (.int .i64 K) ∧ wr.cell? ⟨Bv, 1, none⟩ = some (.bool vno) ∧ wr.cell? ⟨Bv, 2, none⟩ = some (.int .i64 L) ∧ wr.cell? ⟨Bv, 3, none⟩ = some (.int .i64 H) ∧ wr.cell? ⟨Bv, 4, none⟩ = some (.int .i64 F) ∧ wr.cell? ⟨Bv, 5, none⟩ = some (.int .i64 B) ∧ wr.cell? ⟨g, q, none⟩ = some (.int .i64 n) := ⟨(dV.below hbq dV.lt).cell 0 rfl, (dV.below hbq dV.lt).cell 1 rfl, (dV.below hbq dV.lt).cell 2 rfl, (dV.below hbq dV.lt).cell 3 rfl, (dV.below hbq dV.lt).cell 4 rfl, (dV.below hbq dV.lt).cell 5 rfl, (hbq.cell (p := ⟨g, q, none⟩) (World.block_lt_of_cell? wB _ hcn0)).trans hcn0⟩
                  have hq3 : (q : Int) < (m : Int) := by omega
                  have hq4 : (q : Int) < 16 := by omega
                  have hq5 : (0 : Int) ≤ (q : Int) := by omega
                  have hbqs := hbq.size
                  clear hcn0 hns dV
                  by_cases hN : isN n K
                  · obtain ⟨nn, rfl, hnn⟩ := nat_isN hN
                    have cH := fun w => Has_yes K vno L H F B nn ok hm hnn w
                    have cN := fun w => next_res K vno L H F B nn ok hm hnn w
                    have cU : ∀ w, Calls Try.prog 18 #[.int .i64 nn, .int .i64 K] w fun e w' => e = .returned (.bool true) ∧ w = w' := fun w => rNumber_yes nn K ok.pat.hk.isW hN w
                    have cRH := fun w => rHas_v K vno L H F B nn ok hnn w
                    have cRN := fun w => rNext_v K vno L H F B nn ok (by have := ok.pat.hk.pow; omega) w
                    go_wp2_with fail
                    go_region_held3 (fun w' => w'.cell? ⟨Bv, 0, none⟩ = some (.int .i64 K) ∧ w'.cell? ⟨Bv, 1, none⟩ = some (.bool vno) ∧ w'.cell? ⟨Bv, 2, none⟩ = some (.int .i64 L) ∧ w'.cell? ⟨Bv, 3, none⟩ = some (.int .i64 H) ∧ w'.cell? ⟨Bv, 4, none⟩ = some (.int .i64 F) ∧ w'.cell? ⟨Bv, 5, none⟩ = some (.int .i64 B) ∧ w'.cell? ⟨g, q, none⟩ = some (.int .i64 nn))
                      (first
                        | exact hS7
                        | exact keep7_below (by assumption) hbc)
                      ((go_at_call 16; (with_reducible refine (cH _).mono ?_); rintro e w5 ⟨isv, hisv, rfl, hbc⟩))
                    have hbq2 : Below wB.heap.size wB w5 := below_step hbc hbq rfl rfl rfl rfl hbqs
                    replace hS7 : w5.cell? ⟨Bv, 0, none⟩ = some (.int .i64 K) ∧ w5.cell? ⟨Bv, 1, none⟩ = some (.bool vno) ∧ w5.cell? ⟨Bv, 2, none⟩ = some (.int .i64 L) ∧ w5.cell? ⟨Bv, 3, none⟩ = some (.int .i64 H) ∧ w5.cell? ⟨Bv, 4, none⟩ = some (.int .i64 F) ∧ w5.cell? ⟨Bv, 5, none⟩ = some (.int .i64 B) ∧ w5.cell? ⟨g, q, none⟩ = some (.int .i64 nn) := by assumption
                    have hbqs2 := hbq2.size
                    clear hbc hbq hbqs
                    clear cH
                    go_wp2_with fail
                    go_region_held3 (fun w' => w'.cell? ⟨Bv, 0, none⟩ = some (.int .i64 K) ∧ w'.cell? ⟨Bv, 1, none⟩ = some (.bool vno) ∧ w'.cell? ⟨Bv, 2, none⟩ = some (.int .i64 L) ∧ w'.cell? ⟨Bv, 3, none⟩ = some (.int .i64 H) ∧ w'.cell? ⟨Bv, 4, none⟩ = some (.int .i64 F) ∧ w'.cell? ⟨Bv, 5, none⟩ = some (.int .i64 B) ∧ w'.cell? ⟨g, q, none⟩ = some (.int .i64 nn))
                      (first
                        | exact hS7
                        | exact keep7_below (by assumption) hbc)
                      ((go_at_call 17; (with_reducible refine (cN _).mono ?_); rintro e w6 ⟨xn, en, hxn, rfl, hbc⟩))
                    have hbq3 : Below wB.heap.size wB w6 := below_step hbc hbq2 rfl rfl rfl rfl hbqs2
                    replace hS7 : w6.cell? ⟨Bv, 0, none⟩ = some (.int .i64 K) ∧ w6.cell? ⟨Bv, 1, none⟩ = some (.bool vno) ∧ w6.cell? ⟨Bv, 2, none⟩ = some (.int .i64 L) ∧ w6.cell? ⟨Bv, 3, none⟩ = some (.int .i64 H) ∧ w6.cell? ⟨Bv, 4, none⟩ = some (.int .i64 F) ∧ w6.cell? ⟨Bv, 5, none⟩ = some (.int .i64 B) ∧ w6.cell? ⟨g, q, none⟩ = some (.int .i64 nn) := by assumption
                    have hbqs3 := hbq3.size
                    clear hbc hbq2 hbqs2
                    clear cN
                    go_wp2_with fail
                    go_region_held3 (fun w' => w'.cell? ⟨Bv, 0, none⟩ = some (.int .i64 K) ∧ w'.cell? ⟨Bv, 1, none⟩ = some (.bool vno) ∧ w'.cell? ⟨Bv, 2, none⟩ = some (.int .i64 L) ∧ w'.cell? ⟨Bv, 3, none⟩ = some (.int .i64 H) ∧ w'.cell? ⟨Bv, 4, none⟩ = some (.int .i64 F) ∧ w'.cell? ⟨Bv, 5, none⟩ = some (.int .i64 B) ∧ w'.cell? ⟨g, q, none⟩ = some (.int .i64 nn))
                      (exact hS7)
                      ((go_at_call 18; (with_reducible refine (cU _).mono ?_); rintro e w7 ⟨rfl, rfl⟩))
                    clear cU
                    go_wp2_with fail
                    go_region_held3 (fun w' => w'.cell? ⟨Bv, 0, none⟩ = some (.int .i64 K) ∧ w'.cell? ⟨Bv, 1, none⟩ = some (.bool vno) ∧ w'.cell? ⟨Bv, 2, none⟩ = some (.int .i64 L) ∧ w'.cell? ⟨Bv, 3, none⟩ = some (.int .i64 H) ∧ w'.cell? ⟨Bv, 4, none⟩ = some (.int .i64 F) ∧ w'.cell? ⟨Bv, 5, none⟩ = some (.int .i64 B) ∧ w'.cell? ⟨g, q, none⟩ = some (.int .i64 nn))
                      (first
                        | exact hS7
                        | exact keep7_below (by assumption) hbc)
                      ((go_at_call 19; (with_reducible refine (cRH _).mono ?_); rintro e w8 ⟨isr, hisr, rfl, hbc⟩))
                    have hbq4 : Below wB.heap.size wB w8 := below_step hbc hbq3 rfl rfl rfl rfl hbqs3
                    replace hS7 : w8.cell? ⟨Bv, 0, none⟩ = some (.int .i64 K) ∧ w8.cell? ⟨Bv, 1, none⟩ = some (.bool vno) ∧ w8.cell? ⟨Bv, 2, none⟩ = some (.int .i64 L) ∧ w8.cell? ⟨Bv, 3, none⟩ = some (.int .i64 H) ∧ w8.cell? ⟨Bv, 4, none⟩ = some (.int .i64 F) ∧ w8.cell? ⟨Bv, 5, none⟩ = some (.int .i64 B) ∧ w8.cell? ⟨g, q, none⟩ = some (.int .i64 nn) := by assumption
                    have hbqs4 := hbq4.size
                    clear hbc hbq3 hbqs3
                    clear cRH
                    obtain rfl : isv = isr := Bool.eq_iff_iff.2 (hisv.trans hisr.symm)
                    go_wp2_with fail
                    go_region_held3 (fun w' => w'.cell? ⟨Bv, 0, none⟩ = some (.int .i64 K) ∧ w'.cell? ⟨Bv, 1, none⟩ = some (.bool vno) ∧ w'.cell? ⟨Bv, 2, none⟩ = some (.int .i64 L) ∧ w'.cell? ⟨Bv, 3, none⟩ = some (.int .i64 H) ∧ w'.cell? ⟨Bv, 4, none⟩ = some (.int .i64 F) ∧ w'.cell? ⟨Bv, 5, none⟩ = some (.int .i64 B) ∧ w'.cell? ⟨g, q, none⟩ = some (.int .i64 nn))
                      (first
                        | exact hS7
                        | exact keep7_below (by assumption) hbc)
                      ((go_at_call 12; (with_reducible refine (cRN _).mono ?_); rintro e w9 ⟨r, hr, rfl, hbc⟩))
                    have hbq5 : Below wB.heap.size wB w9 := below_step hbc hbq4 rfl rfl rfl rfl hbqs4
                    replace hS7 : w9.cell? ⟨Bv, 0, none⟩ = some (.int .i64 K) ∧ w9.cell? ⟨Bv, 1, none⟩ = some (.bool vno) ∧ w9.cell? ⟨Bv, 2, none⟩ = some (.int .i64 L) ∧ w9.cell? ⟨Bv, 3, none⟩ = some (.int .i64 H) ∧ w9.cell? ⟨Bv, 4, none⟩ = some (.int .i64 F) ∧ w9.cell? ⟨Bv, 5, none⟩ = some (.int .i64 B) ∧ w9.cell? ⟨g, q, none⟩ = some (.int .i64 nn) := by assumption
                    have hbqs5 := hbq5.size
                    clear hbc hbq4 hbqs4
                    clear cRN hS7
                    rcases next_same hxn hr with ⟨rfl, rfl, rfl⟩ | ⟨mm, rfl, rfl, rfl⟩
                    all_goals
                      clear hxn hr hisv hisr
                      go_wp2_with ((go_at_call 14; refine (num_any _ _).mono ?_; rintro e w' ⟨rfl, rfl⟩))
                      go_roundw
                      case rel => exact ⟨q + 1, by omega, by go_num, hbq5⟩
                      case measure => simp [intOf]; omega
                  · have cH := fun w => Has_out K vno L H F B n hm hN w
                    have cN := fun w => Next_out K vno L H F B n hm hN w
                    have cU : ∀ w, Calls Try.prog 18 #[.int .i64 n, .int .i64 K] w fun e w' => e = .returned (.bool false) ∧ w = w' := fun w => rNumber_no n K ok.pat.hk.isW hN w
                    go_wp2_with fail
                    go_region_held3 (fun w' => w'.cell? ⟨Bv, 0, none⟩ = some (.int .i64 K) ∧ w'.cell? ⟨Bv, 1, none⟩ = some (.bool vno) ∧ w'.cell? ⟨Bv, 2, none⟩ = some (.int .i64 L) ∧ w'.cell? ⟨Bv, 3, none⟩ = some (.int .i64 H) ∧ w'.cell? ⟨Bv, 4, none⟩ = some (.int .i64 F) ∧ w'.cell? ⟨Bv, 5, none⟩ = some (.int .i64 B) ∧ w'.cell? ⟨g, q, none⟩ = some (.int .i64 n))
                      (first
                        | exact hS7
                        | exact keep7_below (by assumption) hbc)
                      ((go_at_call 16; (with_reducible refine (cH _).mono ?_); rintro e w5 ⟨rfl, hbc⟩))
                    have hbq2 : Below wB.heap.size wB w5 := below_step hbc hbq rfl rfl rfl rfl hbqs
                    replace hS7 : w5.cell? ⟨Bv, 0, none⟩ = some (.int .i64 K) ∧ w5.cell? ⟨Bv, 1, none⟩ = some (.bool vno) ∧ w5.cell? ⟨Bv, 2, none⟩ = some (.int .i64 L) ∧ w5.cell? ⟨Bv, 3, none⟩ = some (.int .i64 H) ∧ w5.cell? ⟨Bv, 4, none⟩ = some (.int .i64 F) ∧ w5.cell? ⟨Bv, 5, none⟩ = some (.int .i64 B) ∧ w5.cell? ⟨g, q, none⟩ = some (.int .i64 n) := by assumption
                    have hbqs2 := hbq2.size
                    clear hbc hbq hbqs
                    go_wp2_with fail
                    go_region_held3 (fun w' => w'.cell? ⟨Bv, 0, none⟩ = some (.int .i64 K) ∧ w'.cell? ⟨Bv, 1, none⟩ = some (.bool vno) ∧ w'.cell? ⟨Bv, 2, none⟩ = some (.int .i64 L) ∧ w'.cell? ⟨Bv, 3, none⟩ = some (.int .i64 H) ∧ w'.cell? ⟨Bv, 4, none⟩ = some (.int .i64 F) ∧ w'.cell? ⟨Bv, 5, none⟩ = some (.int .i64 B) ∧ w'.cell? ⟨g, q, none⟩ = some (.int .i64 n))
                      (first
                        | exact hS7
                        | exact keep7_below (by assumption) hbc)
                      ((go_at_call 17; (with_reducible refine (cN _).mono ?_); rintro e w6 ⟨rfl, hbc⟩))
                    have hbq3 : Below wB.heap.size wB w6 := below_step hbc hbq2 rfl rfl rfl rfl hbqs2
                    replace hS7 : w6.cell? ⟨Bv, 0, none⟩ = some (.int .i64 K) ∧ w6.cell? ⟨Bv, 1, none⟩ = some (.bool vno) ∧ w6.cell? ⟨Bv, 2, none⟩ = some (.int .i64 L) ∧ w6.cell? ⟨Bv, 3, none⟩ = some (.int .i64 H) ∧ w6.cell? ⟨Bv, 4, none⟩ = some (.int .i64 F) ∧ w6.cell? ⟨Bv, 5, none⟩ = some (.int .i64 B) ∧ w6.cell? ⟨g, q, none⟩ = some (.int .i64 n) := by assumption
                    have hbqs3 := hbq3.size
                    clear hbc hbq2 hbqs2
                    go_wp2_with fail
                    go_region_held3 (fun w' => w'.cell? ⟨Bv, 0, none⟩ = some (.int .i64 K) ∧ w'.cell? ⟨Bv, 1, none⟩ = some (.bool vno) ∧ w'.cell? ⟨Bv, 2, none⟩ = some (.int .i64 L) ∧ w'.cell? ⟨Bv, 3, none⟩ = some (.int .i64 H) ∧ w'.cell? ⟨Bv, 4, none⟩ = some (.int .i64 F) ∧ w'.cell? ⟨Bv, 5, none⟩ = some (.int .i64 B) ∧ w'.cell? ⟨g, q, none⟩ = some (.int .i64 n))
                      (exact hS7)
                      ((go_at_call 18; (with_reducible refine (cU _).mono ?_); rintro e w7 ⟨rfl, rfl⟩))
                    clear hS7 cH cN cU
                    go_wp2_with ((go_at_call 14; refine (num_any _ _).mono ?_; rintro e w' ⟨rfl, rfl⟩))
                    go_roundw
                    case rel => exact ⟨q + 1, by omega, by go_num, hbq3.trans (Joins.below_draws _ _ _)⟩
                    case measure => simp [intOf]; omega
                · have hbO : Below w2.heap.size w2 wr := hbB.trans (hbq.mono hbB.size)
                  clear hns dV hbq
                  by_cases hq1 : q < m
                  · have hq3 : (q : Int) < (m : Int) := by omega
                    have hq4 : decide ((q : Int) < 16) = false := by simp; omega
                    go_wp2_with fail
                    go_roundw
                    case rel => exact ⟨j + 1, by omega, by go_num, hbO⟩
                    case measure => simp [intOf]; omega
                  · have hq3 : decide ((q : Int) < (m : Int)) = false := by simp; omega
                    go_wp2_with fail
                    go_roundw
                    case rel => exact ⟨j + 1, by omega, by go_num, hbO⟩
                    case measure => simp [intOf]; omega
        · have hbO : Below w.heap.size w wr := hb2.trans (hbr.mono hb2.size)
          by_cases hj1 : j < lv
          · have hj3 : (j : Int) < (lv : Int) := by omega
            have hj4 : decide ((j : Int) < 10) = false := by simp; omega
            go_wp2_with fail
            refine (cW _).mono ?_
            rintro e wZ ⟨rfl, hbZ⟩
            go_wp2_with fail
            go_ret
            exact ⟨rfl, hbO.trans (hbZ.mono hbO.size)⟩
          · have hj3 : decide ((j : Int) < (lv : Int)) = false := by simp; omega
            go_wp2_with fail
            refine (cW _).mono ?_
            rintro e wZ ⟨rfl, hbZ⟩
            go_wp2_with fail
            go_ret
            exact ⟨rfl, hbO.trans (hbZ.mono hbO.size)⟩
  · clear hle d0
    go_wp2_with fail
    go_ret
    exact ⟨rfl, hb0⟩
end Go.Proofs.Ytjcapecimihjgaa
