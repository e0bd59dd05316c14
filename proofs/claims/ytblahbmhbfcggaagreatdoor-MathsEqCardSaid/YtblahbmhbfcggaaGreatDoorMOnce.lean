/- Package maths: the pieces of a set with one member, 8 bits. -/
import Derived.Test.YtblahbmhbfcggaaGreatDoorFTwo
import Derived.Test.YtblahbmhbfcggaaGreatDoorVOnce
import Derived.Test.YtblahbmhbfcggaaGreatDoorVRef
import Derived.Deep.AppendLies
namespace Go.Proofs.YtblahbmhbfcggaaGreatDoor
open Go.ChangeShapes Go.WideShapes Go.ChangeAt Go.RowKit Go.Joins Go.Deep
set_option linter.unusedVariables false

theorem and_top8 (n : Nat) (hn : n < 256) : bits .and .i64 (n : Int) 255 = (n : Int) := by
  have h := and_mask (n : Int) 8 (by decide)
  have e : bits .and .i64 (n : Int) 255 = (n : Int) % 256 := h
  rw [e]
  omega
/-- an operand {n} of 8 bits, in memory -/
def Op1 (w : World) (sb n : Nat) (dn st : Int) (sv : Value) : Prop := At w sb (opC 1 8 false 8 false n n 0 n dn st sv) 75
set_option maxRecDepth 100000 in
set_option maxHeartbeats 1600000 in
theorem top8 (w : World) : Calls Tryz.prog 96 #[.agg #[.int .i64 1, .int .i64 8, .bool false]] w fun e w' => e = .returned (.int .i64 255) ∧ Below w.heap.size w w' := by
  go_enter Tryz.func96, Tryz.ntmps96
  go_wp2_with fail
  go_ret
  exact ⟨rfl, (Below.refl _ _).alloc (Nat.le_refl _) _⟩
set_option maxRecDepth 100000 in
set_option maxHeartbeats 1600000 in
theorem number8 (n : Nat) (hn : n < 256) (w : World) : Calls Tryz.prog 103 #[.agg #[.int .i64 1, .int .i64 8, .bool false], .int .i64 n] w fun e w' => e = .returned (.int .i64 n) ∧ Below w.heap.size w w' := by
  have cT := fun w => top8 w
  have en := and_top8 n hn
  go_enter Tryz.func103, Tryz.ntmps103
  go_wp2_with fail
  refine (cT _).mono ?_
  rintro e w1 ⟨rfl, hb1⟩
  have hb0 := ((Below.refl w.heap.size w).alloc (Nat.le_refl _) (.cells #[.int .i64 1, .int .i64 8, .bool false] 60))
  have hb := hb0.trans (hb1.mono hb0.size)
  clear hb0 hb1 cT
  go_wp2_with fail
  go_ret
  exact ⟨rfl, hb⟩
set_option maxRecDepth 100000 in
set_option maxHeartbeats 1600000 in
theorem view8 (n : Nat) (w : World) : Calls Tryz.prog 165 #[.agg #[.int .i64 1, .int .i64 8, .bool false], .int .i64 n] w fun e w' => e = .returned (.int .i64 n) ∧ Below w.heap.size w w' := by
  go_enter Tryz.func165, Tryz.ntmps165
  go_wp2_with fail
  go_ret
  exact ⟨rfl, (Below.refl _ _).alloc (Nat.le_refl _) _⟩
theorem next1_at (n : Nat) (hn : n < 255) (w : World) : Calls Tryz.prog 133 #[valV 8 false n n 0 n, .int .i64 0] w fun e w' => e = .returned (.tuple #[.int .i64 n, .int .i64 0]) ∧ Below w.heap.size w w' := by
  have ok : ValOk 8 false n n 0 n := one_ok (Or.inl rfl) (by omega)
  refine (Next_yes 8 false n n 0 n 0 ok (ok_may ok (fun h => by cases h)) (by decide) w).mono ?_
  rintro e w' ⟨⟨m, _, hm, _, rfl⟩ | ⟨h, _⟩, hb⟩
  · obtain rfl := (mem1 (by omega : n < 2 ^ 8)).1 hm
    exact ⟨rfl, hb⟩
  · exact absurd ((mem1 (by omega : n < 2 ^ 8)).2 rfl) (h n (Nat.zero_le _))
theorem next1_end (n : Nat) (hn : n < 255) (w : World) : Calls Tryz.prog 133 #[valV 8 false n n 0 n, .int .i64 ((n : Int) + 1)] w fun e w' => e = .returned (.tuple #[.int .i64 0, .int .i64 3]) ∧ Below w.heap.size w w' := by
  have ok : ValOk 8 false n n 0 n := one_ok (Or.inl rfl) (by omega)
  have hh := Next_yes 8 false n n 0 n (n + 1) ok (ok_may ok (fun h => by cases h)) (by omega) w
  have e1 : ((n + 1 : Nat) : Int) = (n : Int) + 1 := by omega
  rw [e1] at hh
  refine hh.mono ?_
  rintro e w' ⟨⟨m, h1, hm, _, rfl⟩ | ⟨h, rfl⟩, hb⟩
  · obtain rfl := (mem1 (by omega : n < 2 ^ 8)).1 hm
    omega
  · exact ⟨rfl, hb⟩
/-- a row of the call's own that holds n, or nothing yet -/
def RowN (n base : Nat) (zs : List Nat) (sv : Value) (w : World) : Prop := w.ownsRow base 3 1 sv zs.length (zs.map fun (m : Nat) => Value.int .i64 m) ∧ (zs = [] → sv = .slice none 0 0) ∧ (zs = [] ∨ zs = [n])
def Mem1 (n : Nat) (w : World) (e : Ending) (w' : World) : Prop := ∃ g cap, e = .returned (.slice (some ⟨g, 0, none⟩) 1 cap) ∧ w'.cell? ⟨g, 0, none⟩ = some (.int .i64 n) ∧ w.heap.size ≤ g ∧ Below w.heap.size w w'
theorem info_i : (Tryz.prog.info? 3).map (fun i => (i.zero, i.size, i.bytes)) = some (some (.int .i64 0), 1, 8) := by kernel_rfl
set_option maxRecDepth 100000 in
set_option maxHeartbeats 1600000 in
theorem members_1 (sb n : Nat) (hn : n < 255) (dn st : Int) (sv : Value) (w : World) (hA : Op1 w sb n dn st sv) :
    Calls Tryz.prog 95 #[.pointer (some ⟨sb, 0, none⟩), .int .i64 0, .int .i64 255, .int .i64 5] w (Mem1 n w) := by
  have cN := fun w => next1_at n hn w
  have cE := fun w => next1_end n hn w
  unfold Op1 opC at hA
  obtain ⟨i0, hi0, hz0, hz1, hz2⟩ := info_parts info_i
  go_enter Tryz.func95, Tryz.ntmps95
  go_wp2_with fail
  go_loopw [1, 9] (fun v1 v9 wr => Below w.heap.size w wr ∧ ((v1 = .int .i64 0 ∧ v9 = .slice none 0 0) ∨ (v1 = .int .i64 ((n : Int) + 1) ∧ ∃ g cap, v9 = .slice (some ⟨g, 0, none⟩) 1 cap ∧ wr.cell? ⟨g, 0, none⟩ = some (.int .i64 n) ∧ w.heap.size ≤ g))) (fun v1 _ _ => 300 - (intOf v1).toNat)
  case atStart => exact ⟨Below.refl _ _, Or.inl ⟨rfl, rfl⟩⟩
  case round =>
    obtain ⟨hb, hcase⟩ := hrel
    have hA2 := At.below' hb hA
    have p0 : wr.cell? ⟨sb, 3, none⟩ = some (.int .i64 8) := hA2.cell 3 rfl
    have p1 : wr.cell? ⟨sb, 4, none⟩ = some (.bool false) := hA2.cell 4 rfl
    have p2 : wr.cell? ⟨sb, 5, none⟩ = some (.int .i64 n) := hA2.cell 5 rfl
    have p3 : wr.cell? ⟨sb, 6, none⟩ = some (.int .i64 n) := hA2.cell 6 rfl
    have p4 : wr.cell? ⟨sb, 7, none⟩ = some (.int .i64 0) := hA2.cell 7 rfl
    have p5 : wr.cell? ⟨sb, 8, none⟩ = some (.int .i64 n) := hA2.cell 8 rfl
    rcases hcase with ⟨rfl, rfl⟩ | ⟨rfl, g, cap, rfl, hg, hgb⟩
    · clear cE
      go_wp2_with fail
      refine (cN _).mono ?_
      rintro e w1 ⟨rfl, hb1⟩
      have hb2 := hb.trans (hb1.mono hb.size)
      have hn3 : decide ((255 : Int) < (n : Int)) = false := by simp; omega
      have hown : (w1.alloc (.cells #[.int .i64 n] 3)).ownsRow w.heap.size 3 1 (.slice none 0 0) 0 [] := ⟨rfl, Or.inl ⟨rfl, rfl⟩⟩
      have hbs : w.heap.size ≤ w1.heap.size := hb2.size
      clear hb hb1 hA2 p0 p1 p2 p3 p4 p5
      go_wp2_with ((at_builtin; refine wpList_append_lies _ rfl _ _ 23 rfl w.heap.size 3 i0 (.int .i64 0) 1 8 Tryz.underlying23 hi0 hz0 hz1 hz2 rfl (by decide) (.slice none 0 0) 0 [] rfl hown ⟨w1.heap.size, 0, none⟩ 1 1 [.int .i64 n] rfl rfl (World.news_of_block (cs := #[.int .i64 n]) (t := 3) (fr := (0, 0)) (heap_alloc_new w1 _)) (by simp [Value.oneCell']) (by omega) (by decide) (by omega) (by simp; omega) (w1.heap.size + 1) (by simp) ?_; intro g2 cap2 w3 hown3 hgrow hat hlt3))
      have hbW : Below w.heap.size w w3 := (hb2.alloc hbs _).grown hgrow (by simp; omega) (fun k hk => by simp [Value.ownBlock] at hk)
      obtain ⟨gg, cc, hvv, hgb, hgl, _, hcx⟩ := ownsRow_cells hown3 (fun h => by cases h)
      have hgg : gg = g2 := by simp at hvv; exact hvv.1.symm
      subst hgg
      have hc0 : w3.cell? ⟨gg, 0, none⟩ = some (.int .i64 n) := hcx 0 _ rfl
      clear hown3 hgrow hat hlt3 hown hcx hvv hi0 hz0 hz1 hz2 cN
      go_wp2_with fail
      go_roundw
      case rel => exact ⟨hbW, Or.inr ⟨rfl, gg, cap2, rfl, hc0, hgb⟩⟩
      case measure => simp [intOf]; omega
    · clear cN
      have hlt1 : decide ((n : Int) + 1 ≤ 255) = true := by simp; omega
      go_wp2_with fail
      refine (cE _).mono ?_
      rintro e w1 ⟨rfl, hb1⟩
      have hb2 := hb.trans (hb1.mono hb.size)
      have hg2 := cell_below hg hb1
      clear hb hb1 hA2 p0 p1 p2 p3 p4 p5 cE hg
      go_wp2_with fail
      go_ret
      exact ⟨g, cap, rfl, hg2, hgb, hb2⟩
end Go.Proofs.YtblahbmhbfcggaaGreatDoor

/- Package maths: a piece that is one number. -/
namespace Go.Proofs.YtblahbmhbfcggaaGreatDoor
open Go.ChangeShapes Go.WideShapes Go.ChangeAt Go.RowKit Go.Joins Go.Deep
set_option linter.unusedVariables false

set_option maxRecDepth 100000 in
set_option maxHeartbeats 1600000 in
theorem except8 (n : Nat) (hn : n < 255) (w : World) : Calls Tryz.prog 71 #[.int .i64 n, .int .i64 0] w fun e w' => e = .returned (.agg #[.int .i64 0, .int .i64 n]) ∧ Below w.heap.size w w' := by
  have e1 : bits .andNot .i64 (n : Int) 0 = (n : Int) := by
    have := bits_andNot (x := n) (y := 0) (by omega)
    have e2 : nandn n 0 = n := Nat.eq_of_testBit_eq fun i => by rw [nandn_bit]; simp
    rw [e2] at this
    exact this
  have hb0 : Below w.heap.size w (w.alloc (.cells #[.int .i64 0, .int .i64 n] 110)) := (Below.refl _ _).alloc (Nat.le_refl _) _
  go_enter Tryz.func71, Tryz.ntmps71
  go_wp2_with fail
  exact bodyPost_ret (v := .agg #[.int .i64 0, .int .i64 n]) (by simp [results, Tryz.results71, go_sem]) rfl ⟨rfl, hb0⟩
abbrev pcV (n : Nat) : Value := .agg #[.int .i64 n, .int .i64 n, .int .i64 0, .int .i64 n]
set_option maxRecDepth 100000 in
set_option maxHeartbeats 1600000 in
theorem piece_1 (sb n : Nat) (hn : n < 255) (dn st : Int) (sv : Value) (w : World) (hA : Op1 w sb n dn st sv) :
    Calls Tryz.prog 135 #[.pointer (some ⟨sb, 0, none⟩), .int .i64 n, .int .i64 n] w fun e w' => e = .returned (pcV n) ∧ Below w.heap.size w w' := by
  have cV := fun w => view8 n w
  have cX := fun w => except8 n hn w
  have cL : ∀ w, Calls Tryz.prog 164 #[.int .u64 (IntKind.u64.wrap 0)] w fun e w' => e = .returned (.int .i64 0) ∧ w = w' := fun w => by
    have h := Len_any 0 (by omega) w
    rw [blen_zero] at h
    exact h
  have ex : bits .xor .i64 (n : Int) (n : Int) = 0 := by
    have := bits_xor (x := n) (y := n) (by omega) (by omega)
    rw [Nat.xor_self] at this
    exact this
  have ea : bits .and .i64 0 0 = 0 := rfl
  unfold Op1 opC at hA
  have dZ := At.new w #[.int .i64 0, .int .i64 0, .int .i64 0, .int .i64 0] 112
  have hA1 := At.alloc hA (.cells #[.int .i64 0, .int .i64 0, .int .i64 0, .int .i64 0] 112)
  have hb0 := (Below.refl w.heap.size w).alloc (Nat.le_refl _) (.cells #[.int .i64 0, .int .i64 0, .int .i64 0, .int .i64 0] 112)
  clear hA
  go_enter Tryz.func135, Tryz.ntmps135
  go_upto_region 1 with (fail)
  generalize w.alloc (.cells #[.int .i64 0, .int .i64 0, .int .i64 0, .int .i64 0] 112) = w1 at *
  have p4 : w1.cell? ⟨sb, 7, none⟩ = some (.int .i64 0) := hA1.cell 7 rfl
  go_quiet ((go_at_call 164; exact Calls.quiet_of_same (Al.calls_flip (cL _))))
  have hA2 := At.drewN hA1 nq
  have dZ2 := At.drewN dZ nq
  have hb2 := hb0.trans ((Joins.below_draws w1.heap.size w1 nq).mono hb0.size)
  generalize w1.drewN nq = w2 at *
  clear p4 hA1 dZ hb0 cL ex ea
  have n0 : w2.cell? ⟨sb, 0, none⟩ = some (.int .i64 1) := hA2.cell 0 rfl
  have n1 : w2.cell? ⟨sb, 1, none⟩ = some (.int .i64 8) := hA2.cell 1 rfl
  have n2 : w2.cell? ⟨sb, 2, none⟩ = some (.bool false) := hA2.cell 2 rfl
  go_wp2_with fail
  refine (cV _).mono ?_
  rintro e w3 ⟨rfl, hb3⟩
  have hA3 := At.below' hb3 hA2
  have dZ3 := At.below' hb3 dZ2
  replace hb2 := hb2.trans (hb3.mono hb2.size)
  clear n0 n1 n2 hA2 dZ2 hb3
  have n0 : w3.cell? ⟨sb, 0, none⟩ = some (.int .i64 1) := hA3.cell 0 rfl
  have n1 : w3.cell? ⟨sb, 1, none⟩ = some (.int .i64 8) := hA3.cell 1 rfl
  have n2 : w3.cell? ⟨sb, 2, none⟩ = some (.bool false) := hA3.cell 2 rfl
  go_wp2_with fail
  refine (cV _).mono ?_
  rintro e w4 ⟨rfl, hb3⟩
  have dZ4 := At.below' hb3 dZ3
  replace hb2 := hb2.trans (hb3.mono hb2.size)
  clear n0 n1 n2 hA3 dZ3 hb3 cV
  go_wp2_with fail
  refine (cX _).mono ?_
  rintro e w5 ⟨rfl, hb3⟩
  have dZ5 := At.below' hb3 dZ4
  replace hb2 := hb2.trans (hb3.mono hb2.size)
  clear dZ4 hb3 cX
  have c0 : w5.cell? ⟨w.heap.size, 0, none⟩ = some (.int .i64 0) := dZ5.cell 0 rfl
  have f0 : w5.frozen? ⟨w.heap.size, 0, none⟩ = false := At.free dZ5 0
  have s0 : At (w5.setCell ⟨w.heap.size, 0, none⟩ (.int .i64 n)) w.heap.size #[.int .i64 n, .int .i64 0, .int .i64 0, .int .i64 0] 112 := At.set dZ5 0 (.int .i64 n) (by simp)
  have c1 : (w5.setCell ⟨w.heap.size, 0, none⟩ (.int .i64 n)).cell? ⟨w.heap.size, 1, none⟩ = some (.int .i64 0) := s0.cell 1 rfl
  have f1 : (w5.setCell ⟨w.heap.size, 0, none⟩ (.int .i64 n)).frozen? ⟨w.heap.size, 1, none⟩ = false := At.free s0 1
  have s1 : At ((w5.setCell ⟨w.heap.size, 0, none⟩ (.int .i64 n)).setCell ⟨w.heap.size, 1, none⟩ (.int .i64 n)) w.heap.size #[.int .i64 n, .int .i64 n, .int .i64 0, .int .i64 0] 112 := At.set s0 1 (.int .i64 n) (by simp)
  have c2 : ((w5.setCell ⟨w.heap.size, 0, none⟩ (.int .i64 n)).setCell ⟨w.heap.size, 1, none⟩ (.int .i64 n)).cell? ⟨w.heap.size, 2, none⟩ = some (.int .i64 0) := s1.cell 2 rfl
  have f2 : ((w5.setCell ⟨w.heap.size, 0, none⟩ (.int .i64 n)).setCell ⟨w.heap.size, 1, none⟩ (.int .i64 n)).frozen? ⟨w.heap.size, 2, none⟩ = false := At.free s1 2
  have s2 : At (((w5.setCell ⟨w.heap.size, 0, none⟩ (.int .i64 n)).setCell ⟨w.heap.size, 1, none⟩ (.int .i64 n)).setCell ⟨w.heap.size, 2, none⟩ (.int .i64 0)) w.heap.size #[.int .i64 n, .int .i64 n, .int .i64 0, .int .i64 0] 112 := At.set s1 2 (.int .i64 0) (by simp)
  have c3 : (((w5.setCell ⟨w.heap.size, 0, none⟩ (.int .i64 n)).setCell ⟨w.heap.size, 1, none⟩ (.int .i64 n)).setCell ⟨w.heap.size, 2, none⟩ (.int .i64 0)).cell? ⟨w.heap.size, 3, none⟩ = some (.int .i64 0) := s2.cell 3 rfl
  have f3 : (((w5.setCell ⟨w.heap.size, 0, none⟩ (.int .i64 n)).setCell ⟨w.heap.size, 1, none⟩ (.int .i64 n)).setCell ⟨w.heap.size, 2, none⟩ (.int .i64 0)).frozen? ⟨w.heap.size, 3, none⟩ = false := At.free s2 3
  have s3 : At ((((w5.setCell ⟨w.heap.size, 0, none⟩ (.int .i64 n)).setCell ⟨w.heap.size, 1, none⟩ (.int .i64 n)).setCell ⟨w.heap.size, 2, none⟩ (.int .i64 0)).setCell ⟨w.heap.size, 3, none⟩ (.int .i64 n)) w.heap.size #[.int .i64 n, .int .i64 n, .int .i64 0, .int .i64 n] 112 := At.set s2 3 (.int .i64 n) (by simp)
  have hbF := ((((hb2.setCell (p := ⟨w.heap.size, 0, none⟩) (Nat.le_refl _) (.int .i64 n)).setCell (p := ⟨w.heap.size, 1, none⟩) (Nat.le_refl _) (.int .i64 n)).setCell (p := ⟨w.heap.size, 2, none⟩) (Nat.le_refl _) (.int .i64 0)).setCell (p := ⟨w.heap.size, 3, none⟩) (Nat.le_refl _) (.int .i64 n))
  have g0 : ((((w5.setCell ⟨w.heap.size, 0, none⟩ (.int .i64 n)).setCell ⟨w.heap.size, 1, none⟩ (.int .i64 n)).setCell ⟨w.heap.size, 2, none⟩ (.int .i64 0)).setCell ⟨w.heap.size, 3, none⟩ (.int .i64 n)).cell? ⟨w.heap.size, 0, none⟩ = some (.int .i64 n) := s3.cell 0 rfl
  have g1 : ((((w5.setCell ⟨w.heap.size, 0, none⟩ (.int .i64 n)).setCell ⟨w.heap.size, 1, none⟩ (.int .i64 n)).setCell ⟨w.heap.size, 2, none⟩ (.int .i64 0)).setCell ⟨w.heap.size, 3, none⟩ (.int .i64 n)).cell? ⟨w.heap.size, 1, none⟩ = some (.int .i64 n) := s3.cell 1 rfl
  have g2 : ((((w5.setCell ⟨w.heap.size, 0, none⟩ (.int .i64 n)).setCell ⟨w.heap.size, 1, none⟩ (.int .i64 n)).setCell ⟨w.heap.size, 2, none⟩ (.int .i64 0)).setCell ⟨w.heap.size, 3, none⟩ (.int .i64 n)).cell? ⟨w.heap.size, 2, none⟩ = some (.int .i64 0) := s3.cell 2 rfl
  have g3 : ((((w5.setCell ⟨w.heap.size, 0, none⟩ (.int .i64 n)).setCell ⟨w.heap.size, 1, none⟩ (.int .i64 n)).setCell ⟨w.heap.size, 2, none⟩ (.int .i64 0)).setCell ⟨w.heap.size, 3, none⟩ (.int .i64 n)).cell? ⟨w.heap.size, 3, none⟩ = some (.int .i64 n) := s3.cell 3 rfl
  clear dZ5 s0 s1 s2 s3 hb2
  go_wp2_with fail
  exact bodyPost_ret (v := pcV n) (by simp [results, Tryz.results135, go_sem, g0, g1, g2, g3]) rfl ⟨rfl, hbF⟩
end Go.Proofs.YtblahbmhbfcggaaGreatDoor

/- Package maths: pieces of a set with one member: made once. -/
namespace Go.Proofs.YtblahbmhbfcggaaGreatDoor
open Go.ChangeShapes Go.WideShapes Go.ChangeAt Go.RowKit Go.Joins Go.Deep
set_option linter.unusedVariables false

/-- the one piece of {n}, in memory -/
def PieceAt (w : World) (g n : Nat) : Prop := w.cell? ⟨g, 0, none⟩ = some (.int .i64 n) ∧ w.cell? ⟨g, 1, none⟩ = some (.int .i64 n) ∧ w.cell? ⟨g, 2, none⟩ = some (.int .i64 0) ∧ w.cell? ⟨g, 3, none⟩ = some (.int .i64 n)
theorem PieceAt.below {w w' : World} {g n : Nat} (h : PieceAt w g n) (hb : Below w.heap.size w w') : PieceAt w' g n := ⟨cell_below h.1 hb, cell_below h.2.1 hb, cell_below h.2.2.1 hb, cell_below h.2.2.2 hb⟩
theorem PieceAt.keeps {w w' : World} {g n b : Nat} (h : PieceAt w g n) (hk : Keeps b w w') (hg : g ≠ b) : PieceAt w' g n := by
  have one : ∀ j x, w.cell? ⟨g, j, none⟩ = some x → w'.cell? ⟨g, j, none⟩ = some x := fun j x hx => (World.cell?_of_block (hk.block g (World.block_lt_of_cell? w _ hx) hg)).trans hx
  exact ⟨one _ _ h.1, one _ _ h.2.1, one _ _ h.2.2.1, one _ _ h.2.2.2⟩
theorem info_p : (Tryz.prog.info? 112).map (fun i => (i.zero, i.size, i.bytes)) = some (some (.agg #[.int .i64 0, .int .i64 0, .int .i64 0, .int .i64 0]), 4, 32) := by kernel_rfl
def Row1 (n : Nat) (w : World) (e : Ending) (w' : World) : Prop := ∃ g cap, e = .returned (.slice (some ⟨g, 0, none⟩) 1 cap) ∧ PieceAt w' g n ∧ w.heap.size ≤ g ∧ Below w.heap.size w w'
set_option maxRecDepth 100000 in
set_option maxHeartbeats 1600000 in
theorem oneByOne_1 (sb n : Nat) (hn : n < 255) (dn st : Int) (sv : Value) (q cq : Nat) (w : World) (hA : Op1 w sb n dn st sv) (hq : w.cell? ⟨q, 0, none⟩ = some (.int .i64 n)) :
    Calls Tryz.prog 98 #[.pointer (some ⟨sb, 0, none⟩), .slice (some ⟨q, 0, none⟩) 1 cq] w (Row1 n w) := by
  have cP := fun w h => piece_1 sb n hn dn st sv w h
  obtain ⟨i0, hi0, hz0, hz1, hz2⟩ := info_parts info_p
  go_enter Tryz.func98, Tryz.ntmps98
  go_wp2_with fail
  go_loopw [5, 10] (fun v5 v10 wr => Below w.heap.size w wr ∧ ((v10 = .int .i64 0 ∧ v5 = .slice none 0 0) ∨ (v10 = .int .i64 1 ∧ ∃ g cap, v5 = .slice (some ⟨g, 0, none⟩) 1 cap ∧ PieceAt wr g n ∧ w.heap.size ≤ g))) (fun _ v10 _ => 2 - (intOf v10).toNat)
  case atStart => exact ⟨Below.refl _ _, Or.inl ⟨rfl, rfl⟩⟩
  case round =>
    obtain ⟨hb, hcase⟩ := hrel
    have hA2 : Op1 wr sb n dn st sv := At.below' hb hA
    have hq2 := cell_below hq hb
    rcases hcase with ⟨rfl, rfl⟩ | ⟨rfl, g, cap, rfl, hg, hgb⟩
    · go_wp2_with fail
      refine (cP _ hA2).mono ?_
      rintro e w1 ⟨rfl, hb1⟩
      have hb2 := hb.trans (hb1.mono hb.size)
      have hown : (w1.alloc (.cells #[.int .i64 n, .int .i64 n, .int .i64 0, .int .i64 n] 112)).ownsRow w.heap.size 112 4 (.slice none 0 0) 0 [] := ⟨rfl, Or.inl ⟨rfl, rfl⟩⟩
      have hbs : w.heap.size ≤ w1.heap.size := hb2.size
      clear hb hb1 hA2 hq2 hq
      go_wp2_with ((at_builtin; refine wpList_append_lies _ rfl _ _ 73 rfl w.heap.size 112 i0 (.agg #[.int .i64 0, .int .i64 0, .int .i64 0, .int .i64 0]) 4 32 Tryz.underlying73 hi0 hz0 hz1 hz2 rfl (by decide) (.slice none 0 0) 0 [] rfl hown ⟨w1.heap.size, 0, none⟩ 1 1 [.int .i64 n, .int .i64 n, .int .i64 0, .int .i64 n] rfl rfl (World.news_of_block (cs := #[.int .i64 n, .int .i64 n, .int .i64 0, .int .i64 n]) (t := 112) (fr := (0, 0)) (heap_alloc_new w1 _)) (by simp [Value.oneCell']) (by omega) (by decide) (by omega) (by simp; omega) (w1.heap.size + 1) (by simp) ?_; intro g2 cap2 w3 hown3 hgrow hat hlt3))
      have hbW : Below w.heap.size w w3 := (hb2.alloc hbs _).grown hgrow (by simp; omega) (fun k hk => by simp [Value.ownBlock] at hk)
      obtain ⟨gg, cc, hvv, hgb, hgl, _, hcx⟩ := ownsRow_cells hown3 (fun h => by cases h)
      have hgg : gg = g2 := by simp at hvv; exact hvv.1.symm
      subst hgg
      have hc0 : PieceAt w3 gg n := ⟨hcx 0 _ rfl, hcx 1 _ rfl, hcx 2 _ rfl, hcx 3 _ rfl⟩
      clear hown3 hgrow hat hlt3 hown hcx hvv hi0 hz0 hz1 hz2 cP
      go_wp2_with fail
      go_roundw
      case rel => exact ⟨hbW, Or.inr ⟨rfl, gg, cap2, rfl, hc0, hgb⟩⟩
      case measure => simp [intOf]
    · clear cP
      go_wp2_with fail
      go_ret
      exact ⟨g, cap, rfl, hg, hgb, hb⟩
def MakeP (sb n : Nat) (dn st : Int) (w : World) (e : Ending) (w' : World) : Prop := ∃ g cap, e = .returned (.tuple #[]) ∧ Op1 w' sb n dn st (.slice (some ⟨g, 0, none⟩) 1 cap) ∧ PieceAt w' g n ∧ w.heap.size ≤ g ∧ Keeps sb w w'
set_option maxRecDepth 100000 in
set_option maxHeartbeats 1600000 in
theorem make_1 (sb n : Nat) (hn : n < 255) (dn st : Int) (w : World) (hA : Op1 w sb n dn st (.slice none 0 0)) :
    Calls Tryz.prog 100 #[.pointer (some ⟨sb, 0, none⟩)] w (MakeP sb n dn st w) := by
  have cT := fun w => top8 w
  have cM := fun w h => members_1 sb n hn dn st (.slice none 0 0) w h
  have hsb : sb < w.heap.size := At.lt hA
  have n0 : w.cell? ⟨sb, 0, none⟩ = some (.int .i64 1) := (show At w sb _ _ from hA).cell 0 rfl
  have n1 : w.cell? ⟨sb, 1, none⟩ = some (.int .i64 8) := (show At w sb _ _ from hA).cell 1 rfl
  have n2 : w.cell? ⟨sb, 2, none⟩ = some (.bool false) := (show At w sb _ _ from hA).cell 2 rfl
  go_enter Tryz.func100, Tryz.ntmps100
  go_wp2_with fail
  refine (cT _).mono ?_
  rintro e w1 ⟨rfl, hb1⟩
  have hA1 : Op1 w1 sb n dn st (.slice none 0 0) := At.below' hb1 hA
  clear n0 n1 n2 cT hA
  go_wp2_with fail
  refine (cM _ hA1).mono ?_
  rintro e w2 ⟨q, cq, rfl, hq, hqs, hb2⟩
  have hA2 : Op1 w2 sb n dn st (.slice none 0 0) := At.below' hb2 hA1
  have hbE := hb1.trans (hb2.mono hb1.size)
  have cO := fun w h h2 => oneByOne_1 sb n hn dn st (.slice none 0 0) q cq w h h2
  clear hb1 hb2 hA1 cM
  go_wp2_with fail
  refine (cO _ hA2 hq).mono ?_
  rintro e w3 ⟨g, cap, rfl, hg, hgs, hb3⟩
  have hA3 : Op1 w3 sb n dn st (.slice none 0 0) := At.below' hb3 hA2
  have hbF := hbE.trans (hb3.mono hbE.size)
  have hgb : w.heap.size ≤ g := Nat.le_trans hbE.size hgs
  clear hbE hb3 hA2 cO hq
  unfold Op1 opC at hA3
  have c12 : w3.cell? ⟨sb, 12, none⟩ = some (.slice none 0 0) := hA3.cell 12 rfl
  have f12 : w3.frozen? ⟨sb, 12, none⟩ = false := At.free hA3 12
  have hA4 := At.set hA3 12 (.slice (some ⟨g, 0, none⟩) 1 cap) (by simp)
  have hk4 : Keeps sb w (w3.setCell ⟨sb, 12, none⟩ (.slice (some ⟨g, 0, none⟩) 1 cap)) := (Keeps.of_below hbF).setCell 12 _
  have hg4 : PieceAt (w3.setCell ⟨sb, 12, none⟩ (.slice (some ⟨g, 0, none⟩) 1 cap)) g n := hg.keeps ((Keeps.refl sb w3).setCell 12 _) (by omega)
  clear hA3 hbF hg
  go_wp2_with fail
  first | go_end0 | (simp only [Exit.inBlock, Exit.then]; refine bodyPost_ret (results_none rfl _ _ _) rfl ?_) | refine bodyPost_ret (results_none rfl _ _ _) rfl ?_
  exact ⟨g, cap, rfl, hA4, hg4, hgb, hk4⟩
end Go.Proofs.YtblahbmhbfcggaaGreatDoor

/- Package maths: pieces, asked for the first time. -/
namespace Go.Proofs.YtblahbmhbfcggaaGreatDoor
open Go.ChangeShapes Go.WideShapes Go.ChangeAt Go.RowKit Go.Joins Go.Deep
set_option linter.unusedVariables false

def DoP (sb n : Nat) (w : World) (e : Ending) (w' : World) : Prop := ∃ g cap, e = .returned (.tuple #[]) ∧ Op1 w' sb n 1 0 (.slice (some ⟨g, 0, none⟩) 1 cap) ∧ PieceAt w' g n ∧ w.heap.size ≤ g ∧ Keeps sb w w'
set_option maxRecDepth 100000 in
set_option maxHeartbeats 3200000 in
theorem slow_p (sb n : Nat) (hn : n < 255) (w : World) (hA : Op1 w sb n 0 0 (.slice none 0 0)) :
    Calls Tryz.prog 137 #[.pointer (some ⟨sb, 9, none⟩), .func (.func 100) #[.pointer (some ⟨sb, 0, none⟩)] #[]] w (DoP sb n w) := by
  unfold Op1 at hA
  have hlt := At.lt hA
  have k1 : At (w.setCell ⟨sb, 10, none⟩ (.int .i32 1)) sb (opC 1 8 false 8 false n n 0 n 0 1 (.slice none 0 0)) 75 := At.set hA 10 (.int .i32 1) (by simp [opC])
  have hK1 : Keeps sb w (w.setCell ⟨sb, 10, none⟩ (.int .i32 1)) := (Keeps.refl sb w).setCell 10 _
  have hl := run_call_load (P := Tryz.prog) Tryz.func166 (by kernel_rfl) (by kernel_rfl) (by kernel_rfl) .u32 (by kernel_rfl) (w := w.setCell ⟨sb, 10, none⟩ (.int .i32 1)) (a := ⟨sb, 9, none⟩) (x := 0) (k1.cell 9 rfl)
  have hnot : ∀ (x : Bool) (w : World), (Op.unary .not (.bool x)).run Tryz.prog w = .ok (.bool (!x)) w := fun _ _ => rfl
  have c7 : w.cell? ⟨sb, 10, none⟩ = some (.int .i32 0) := At.cell hA 10 rfl
  have f7 := At.free hA 10
  have cM := make_1 sb n hn 0 1 _ k1
  go_enter_defers Tryz.func137, Tryz.ntmps137
  go_wp2_with (first | (go_at_call 167; refine (lock_free ⟨sb, 10, none⟩ _ (by go_simp) (by go_simp)).mono ?_; rintro e w' ⟨rfl, rfl⟩) | (go_at_call 136; go_in) | (go_at_call 100; refine cM.mono ?_; rintro e w' ⟨g, cap, rfl, m1, mL, mb, m2⟩))
  unfold Op1 at m1
  refine leaves_cons (f := 169) (args := #[.pointer (some ⟨sb, 9, none⟩), .bool true]) (by simp) (by simp [go_sem]) ?_
  refine (store_deferred ⟨sb, 9, none⟩ (.int .u32 0) .returning _ (m1.cell 9 rfl) (m1.free 9)).mono ?_
  rintro e u' w'' ⟨rfl, rfl, rfl⟩
  have n1 : At (w'.drew.setCell ⟨sb, 9, none⟩ (.int .u32 1)) sb (opC 1 8 false 8 false n n 0 n 1 1 (.slice (some ⟨g, 0, none⟩) 1 cap)) 75 := m1.drew.set 9 (.int .u32 1) (by simp [opC])
  have n2 : Keeps sb w (w'.drew.setCell ⟨sb, 9, none⟩ (.int .u32 1)) := ((hK1.trans m2).drew).setCell 9 _
  have n3 : Keeps sb w' (w'.drew.setCell ⟨sb, 9, none⟩ (.int .u32 1)) := (Keeps.refl sb w').drew.setCell 9 _
  generalize w'.drew.setCell ⟨sb, 9, none⟩ (.int .u32 1) = w2 at n1 n2 n3 ⊢
  refine leaves_cons (f := 168) (args := #[.pointer (some ⟨sb, 10, none⟩)]) (by simp [settle]) (by simp [go_sem]) ?_
  refine (unlock_deferred ⟨sb, 10, none⟩ _ _ (n1.cell 10 rfl) (n1.free 10)).mono ?_
  rintro e u' w'' ⟨rfl, rfl, rfl⟩
  have o1 : At (w2.setCell ⟨sb, 10, none⟩ (.int .i32 0)) sb (opC 1 8 false 8 false n n 0 n 1 0 (.slice (some ⟨g, 0, none⟩) 1 cap)) 75 := n1.set 10 (.int .i32 0) (by simp [opC])
  have o2 : Keeps sb w (w2.setCell ⟨sb, 10, none⟩ (.int .i32 0)) := n2.setCell 10 _
  have o3 : Keeps sb w' (w2.setCell ⟨sb, 10, none⟩ (.int .i32 0)) := n3.setCell 10 _
  generalize w2.setCell ⟨sb, 10, none⟩ (.int .i32 0) = w3 at o1 o2 o3 ⊢
  have hsz : (w.setCell ⟨sb, 10, none⟩ (.int .i32 1)).heap.size = w.heap.size := setCell_size _ _ _
  rw [hsz] at mb
  have fin : DoP sb n w (.returned (.tuple #[])) w3 := ⟨g, cap, rfl, o1, mL.keeps o3 (by omega), mb, o2⟩
  simpa [Leaves, settle, results, Tryz.results137] using fin
set_option maxRecDepth 100000 in
set_option maxHeartbeats 1600000 in
theorem do_p (sb n : Nat) (hn : n < 255) (w : World) (hA : Op1 w sb n 0 0 (.slice none 0 0)) :
    Calls Tryz.prog 99 #[.pointer (some ⟨sb, 9, none⟩), .func (.func 100) #[.pointer (some ⟨sb, 0, none⟩)] #[]] w (DoP sb n w) := by
  have hl := run_call_load (P := Tryz.prog) Tryz.func166 (by kernel_rfl) (by kernel_rfl) (by kernel_rfl) .u32 (by kernel_rfl) (w := w) (a := ⟨sb, 9, none⟩) (x := 0) (At.cell hA 9 rfl)
  have hnot : ∀ (x : Bool) (w : World), (Op.unary .not (.bool x)).run Tryz.prog w = .ok (.bool (!x)) w := fun _ _ => rfl
  go_enter Tryz.func99, Tryz.ntmps99
  go_wp2_with (first | (go_at_call 137; refine (slow_p sb n hn _ hA).mono ?_; rintro e w' ⟨g, cap, rfl, m1, mL, mb, m2⟩) | (go_at_call 136; go_in))
  go_end0
  exact ⟨g, cap, rfl, m1, mL, mb, m2⟩
/-- the pieces, asked for -/
def PiecesP (sb n : Nat) (w : World) (e : Ending) (w' : World) : Prop := ∃ g cap, e = .returned (.slice (some ⟨g, 0, none⟩) 1 cap) ∧ PieceAt w' g n ∧ w.heap.size ≤ g ∧ Keeps sb w w'
set_option maxRecDepth 100000 in
set_option maxHeartbeats 800000 in
theorem pieces_1 (sb n : Nat) (hn : n < 255) (w : World) (hA : Op1 w sb n 0 0 (.slice none 0 0)) :
    Calls Tryz.prog 64 #[.pointer (some ⟨sb, 0, none⟩)] w (PiecesP sb n w) := by
  have hmf : ∀ (fn : Fn) (first cap : Array Value) (w : World), (Instr.makeFunc fn first cap).run Tryz.prog w = .ok (.func fn first cap) w := fun _ _ _ _ => rfl
  go_enter Tryz.func64, Tryz.ntmps64
  go_wp2_with (go_at_call 99; refine (do_p sb n hn _ hA).mono ?_; rintro e w' ⟨g, cap, rfl, m1, mL, mb, m2⟩; have c12 : w'.cell? ⟨sb, 12, none⟩ = some (.slice (some ⟨g, 0, none⟩) 1 cap) := m1.cell 12 rfl)
  go_ret
  exact ⟨g, cap, rfl, mL, mb, m2⟩
end Go.Proofs.YtblahbmhbfcggaaGreatDoor
