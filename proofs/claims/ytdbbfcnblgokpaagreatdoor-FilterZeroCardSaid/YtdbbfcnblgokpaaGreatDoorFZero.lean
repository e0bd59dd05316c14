/- Package filter: Zero. -/
import Derived.Test.YtdbbfcnblgokpaaGreatDoorFilter
import Derived.Test.YtdbbfcnblgokpaaGreatDoorZeroD
namespace Go.Proofs.YtdbbfcnblgokpaaGreatDoor
open Go.ChangeShapes Go.WideShapes Go.ChangeAt Go.RowKit Go.Joins Go.Deep
set_option linter.unusedVariables false

theorem row_ok {K TT : Nat} (hK : isWn K) (hT : TT + 1 = 2 ^ K) : ValOk K false 1 TT TT 0 := ⟨⟨hK, by omega, Nat.two_pow_pos K, fun i _ => by simp⟩, by rcases hK with rfl | rfl | rfl <;> decide, by omega⟩
theorem row_mem {K TT z : Nat} (hK : isWn K) (hT : TT + 1 = 2 ^ K) : MemV K false 1 TT TT 0 z ↔ 1 ≤ z ∧ z < 2 ^ K := by
  have h1 : 1 ≤ TT := by rcases hK with rfl | rfl | rfl <;> omega
  constructor
  · rintro ⟨_, h2, _, hr⟩
    rw [if_pos h1] at hr
    exact ⟨hr.1, h2⟩
  · rintro ⟨h2, h3⟩
    refine ⟨rfl, h3, fun i hi => ?_, ?_⟩
    · by_cases h : i < K
      · have e : TT = 2 ^ K - 1 := by omega
        rw [e, Nat.testBit_two_pow_sub_one] at hi
        simp [h] at hi
      · simp only [Nat.zero_testBit]
        exact Nat.testBit_lt_two_pow (Nat.lt_of_lt_of_le h3 (Nat.pow_le_pow_right (by decide) (by omega)))
    · rw [if_pos h1]
      omega
theorem without_told {K TT : Nat} {no : Bool} {l h f b : Nat} {X : Nat → Prop} (okA : ValOk K no l h f b) (hT : TT + 1 = 2 ^ K) (x1 : ∀ z, MemV K no l h f b z → MemV K false 1 TT TT 0 z → X z) (x2 : ∀ z, X z → MemV K no l h f b z) (x3 : (∀ z, ¬ (MemV K no l h f b z ∧ MemV K false 1 TT TT 0 z)) → ∀ z, ¬ X z) : ZeroTold false (MemV K no l h f b) X := by
  have hK := okA.pat.hk
  refine ⟨(fun h => by cases h), fun _ => ⟨fun z hz hz0 => x1 z hz ((row_mem hK hT).2 ⟨by omega, hz.2.lt⟩), x2, fun hall => x3 fun z hz => ?_⟩⟩
  have h1 := hall z hz.1
  have h2 := ((row_mem hK hT).1 hz.2).1
  omega
def WPost (K : Nat) (A : Nat → Prop) (w : World) (e : Ending) (w' : World) : Prop := ∃ xno xl xh xf xb, e = .returned (valV K xno (xl : Nat) (xh : Nat) (xf : Nat) (xb : Nat)) ∧ ValOk K xno xl xh xf xb ∧ mayB K xno xl xh xf xb = true ∧ ZeroTold false A (MemV K xno xl xh xf xb) ∧ Below w.heap.size w w'
set_option maxRecDepth 100000 in
set_option maxHeartbeats 1600000 in
theorem without_0 (sb K : Nat) (no : Bool) (l h f b : Nat) (okA : ValOk K no l h f b) (hmA : mayB K no l h f b = true) (w : World) (hA : At w sb (fopC K no l h f b) 80) :
    Calls Tryz.prog 15 #[.pointer (some ⟨sb, 0, none⟩), .int .i64 0] w (WPost K (MemV K no l h f b) w) := by
  have hK := okA.pat.hk
  obtain ⟨TT, hT⟩ : ∃ TT, TT + 1 = 2 ^ K := ⟨2 ^ K - 1, by have := Nat.two_pow_pos K; omega⟩
  have okR := row_ok hK hT
  have hmR : mayB K false (1 : Nat) TT TT (0 : Nat) = true := ok_may okR (fun h => by cases h)
  have cR := fun w g => frow_1 sb K hK no l h f b TT hT w g
  have d4 := At.new w #[.int .i64 0, .bool false, .int .i64 0, .int .i64 0, .int .i64 0, .int .i64 0] 28
  have hb0 : Below w.heap.size w (w.alloc (.cells #[.int .i64 0, .bool false, .int .i64 0, .int .i64 0, .int .i64 0, .int .i64 0] 28)) := (Below.refl _ _).alloc (Nat.le_refl _) _
  have hA0 := At.alloc hA (.cells #[.int .i64 0, .bool false, .int .i64 0, .int .i64 0, .int .i64 0, .int .i64 0] 28)
  have hl := At.lt hA
  clear hA
  go_enter Tryz.func15, Tryz.ntmps15
  go_wp2_with fail
  refine (cR _ hA0).mono ?_
  rintro e w1 ⟨rfl, hb1⟩
  have hA1 := At.below' hb1 hA0
  replace d4 := At.below' hb1 d4
  replace hb0 := hb0.trans (hb1.mono hb0.size)
  clear hb1 hA0 cR
  have cM := fun w g => fmeet_any sb K no l h f b false 1 TT TT 0 okA okR hmA hmR w g
  go_wp2_with fail
  refine (cM _ hA1).mono ?_
  rintro e w2 ⟨xno, xl, xh, xf, xb, rfl, okX, hmX, x1, x2, x3, hb2⟩
  replace d4 := At.below' hb2 d4
  replace hb0 := hb0.trans (hb2.mono hb0.size)
  have fin := without_told okA hT x1 x2 x3
  have FIN := Lib.hid fin
  obtain ⟨BR, hBR⟩ : ∃ B, B = w.heap.size := ⟨_, rfl⟩
  have hR : w.heap.size ≤ BR := by omega
  rw [← hBR] at d4
  have tc0 : w2.cell? ⟨BR, 0, none⟩ = some (.int .i64 0) := d4.cell 0 rfl
  have tf0 : w2.frozen? ⟨BR, 0, none⟩ = false := At.free d4 0
  have ts0 : At (w2.setCell ⟨BR, 0, none⟩ (.int .i64 K)) BR #[.int .i64 K, .bool false, .int .i64 0, .int .i64 0, .int .i64 0, .int .i64 0] 28 := At.set d4 0 (.int .i64 K) (by simp)
  have tc1 : (w2.setCell ⟨BR, 0, none⟩ (.int .i64 K)).cell? ⟨BR, 1, none⟩ = some (.bool false) := ts0.cell 1 rfl
  have tf1 : (w2.setCell ⟨BR, 0, none⟩ (.int .i64 K)).frozen? ⟨BR, 1, none⟩ = false := At.free ts0 1
  have ts1 : At ((w2.setCell ⟨BR, 0, none⟩ (.int .i64 K)).setCell ⟨BR, 1, none⟩ (.bool xno)) BR #[.int .i64 K, .bool xno, .int .i64 0, .int .i64 0, .int .i64 0, .int .i64 0] 28 := At.set ts0 1 (.bool xno) (by simp)
  have tc2 : ((w2.setCell ⟨BR, 0, none⟩ (.int .i64 K)).setCell ⟨BR, 1, none⟩ (.bool xno)).cell? ⟨BR, 2, none⟩ = some (.int .i64 0) := ts1.cell 2 rfl
  have tf2 : ((w2.setCell ⟨BR, 0, none⟩ (.int .i64 K)).setCell ⟨BR, 1, none⟩ (.bool xno)).frozen? ⟨BR, 2, none⟩ = false := At.free ts1 2
  have ts2 : At (((w2.setCell ⟨BR, 0, none⟩ (.int .i64 K)).setCell ⟨BR, 1, none⟩ (.bool xno)).setCell ⟨BR, 2, none⟩ (.int .i64 xl)) BR #[.int .i64 K, .bool xno, .int .i64 xl, .int .i64 0, .int .i64 0, .int .i64 0] 28 := At.set ts1 2 (.int .i64 xl) (by simp)
  have tc3 : (((w2.setCell ⟨BR, 0, none⟩ (.int .i64 K)).setCell ⟨BR, 1, none⟩ (.bool xno)).setCell ⟨BR, 2, none⟩ (.int .i64 xl)).cell? ⟨BR, 3, none⟩ = some (.int .i64 0) := ts2.cell 3 rfl
  have tf3 : (((w2.setCell ⟨BR, 0, none⟩ (.int .i64 K)).setCell ⟨BR, 1, none⟩ (.bool xno)).setCell ⟨BR, 2, none⟩ (.int .i64 xl)).frozen? ⟨BR, 3, none⟩ = false := At.free ts2 3
  have ts3 : At ((((w2.setCell ⟨BR, 0, none⟩ (.int .i64 K)).setCell ⟨BR, 1, none⟩ (.bool xno)).setCell ⟨BR, 2, none⟩ (.int .i64 xl)).setCell ⟨BR, 3, none⟩ (.int .i64 xh)) BR #[.int .i64 K, .bool xno, .int .i64 xl, .int .i64 xh, .int .i64 0, .int .i64 0] 28 := At.set ts2 3 (.int .i64 xh) (by simp)
  have tc4 : ((((w2.setCell ⟨BR, 0, none⟩ (.int .i64 K)).setCell ⟨BR, 1, none⟩ (.bool xno)).setCell ⟨BR, 2, none⟩ (.int .i64 xl)).setCell ⟨BR, 3, none⟩ (.int .i64 xh)).cell? ⟨BR, 4, none⟩ = some (.int .i64 0) := ts3.cell 4 rfl
  have tf4 : ((((w2.setCell ⟨BR, 0, none⟩ (.int .i64 K)).setCell ⟨BR, 1, none⟩ (.bool xno)).setCell ⟨BR, 2, none⟩ (.int .i64 xl)).setCell ⟨BR, 3, none⟩ (.int .i64 xh)).frozen? ⟨BR, 4, none⟩ = false := At.free ts3 4
  have ts4 : At (((((w2.setCell ⟨BR, 0, none⟩ (.int .i64 K)).setCell ⟨BR, 1, none⟩ (.bool xno)).setCell ⟨BR, 2, none⟩ (.int .i64 xl)).setCell ⟨BR, 3, none⟩ (.int .i64 xh)).setCell ⟨BR, 4, none⟩ (.int .i64 xf)) BR #[.int .i64 K, .bool xno, .int .i64 xl, .int .i64 xh, .int .i64 xf, .int .i64 0] 28 := At.set ts3 4 (.int .i64 xf) (by simp)
  have tc5 : (((((w2.setCell ⟨BR, 0, none⟩ (.int .i64 K)).setCell ⟨BR, 1, none⟩ (.bool xno)).setCell ⟨BR, 2, none⟩ (.int .i64 xl)).setCell ⟨BR, 3, none⟩ (.int .i64 xh)).setCell ⟨BR, 4, none⟩ (.int .i64 xf)).cell? ⟨BR, 5, none⟩ = some (.int .i64 0) := ts4.cell 5 rfl
  have tf5 : (((((w2.setCell ⟨BR, 0, none⟩ (.int .i64 K)).setCell ⟨BR, 1, none⟩ (.bool xno)).setCell ⟨BR, 2, none⟩ (.int .i64 xl)).setCell ⟨BR, 3, none⟩ (.int .i64 xh)).setCell ⟨BR, 4, none⟩ (.int .i64 xf)).frozen? ⟨BR, 5, none⟩ = false := At.free ts4 5
  have ts5 : At ((((((w2.setCell ⟨BR, 0, none⟩ (.int .i64 K)).setCell ⟨BR, 1, none⟩ (.bool xno)).setCell ⟨BR, 2, none⟩ (.int .i64 xl)).setCell ⟨BR, 3, none⟩ (.int .i64 xh)).setCell ⟨BR, 4, none⟩ (.int .i64 xf)).setCell ⟨BR, 5, none⟩ (.int .i64 xb)) BR #[.int .i64 K, .bool xno, .int .i64 xl, .int .i64 xh, .int .i64 xf, .int .i64 xb] 28 := At.set ts4 5 (.int .i64 xb) (by simp)
  have hbH : Below w.heap.size w ((((((w2.setCell ⟨BR, 0, none⟩ (.int .i64 K)).setCell ⟨BR, 1, none⟩ (.bool xno)).setCell ⟨BR, 2, none⟩ (.int .i64 xl)).setCell ⟨BR, 3, none⟩ (.int .i64 xh)).setCell ⟨BR, 4, none⟩ (.int .i64 xf)).setCell ⟨BR, 5, none⟩ (.int .i64 xb)) := ((((((hb0.setCell (p := ⟨BR, 0, none⟩) (by show w.heap.size ≤ BR; omega) (.int .i64 K)).setCell (p := ⟨BR, 1, none⟩) (by show w.heap.size ≤ BR; omega) (.bool xno)).setCell (p := ⟨BR, 2, none⟩) (by show w.heap.size ≤ BR; omega) (.int .i64 xl)).setCell (p := ⟨BR, 3, none⟩) (by show w.heap.size ≤ BR; omega) (.int .i64 xh)).setCell (p := ⟨BR, 4, none⟩) (by show w.heap.size ≤ BR; omega) (.int .i64 xf)).setCell (p := ⟨BR, 5, none⟩) (by show w.heap.size ≤ BR; omega) (.int .i64 xb))
  have g0 : ((((((w2.setCell ⟨BR, 0, none⟩ (.int .i64 K)).setCell ⟨BR, 1, none⟩ (.bool xno)).setCell ⟨BR, 2, none⟩ (.int .i64 xl)).setCell ⟨BR, 3, none⟩ (.int .i64 xh)).setCell ⟨BR, 4, none⟩ (.int .i64 xf)).setCell ⟨BR, 5, none⟩ (.int .i64 xb)).cell? ⟨BR, 0, none⟩ = some (.int .i64 K) := ts5.cell 0 rfl
  have g1 : ((((((w2.setCell ⟨BR, 0, none⟩ (.int .i64 K)).setCell ⟨BR, 1, none⟩ (.bool xno)).setCell ⟨BR, 2, none⟩ (.int .i64 xl)).setCell ⟨BR, 3, none⟩ (.int .i64 xh)).setCell ⟨BR, 4, none⟩ (.int .i64 xf)).setCell ⟨BR, 5, none⟩ (.int .i64 xb)).cell? ⟨BR, 1, none⟩ = some (.bool xno) := ts5.cell 1 rfl
  have g2 : ((((((w2.setCell ⟨BR, 0, none⟩ (.int .i64 K)).setCell ⟨BR, 1, none⟩ (.bool xno)).setCell ⟨BR, 2, none⟩ (.int .i64 xl)).setCell ⟨BR, 3, none⟩ (.int .i64 xh)).setCell ⟨BR, 4, none⟩ (.int .i64 xf)).setCell ⟨BR, 5, none⟩ (.int .i64 xb)).cell? ⟨BR, 2, none⟩ = some (.int .i64 xl) := ts5.cell 2 rfl
  have g3 : ((((((w2.setCell ⟨BR, 0, none⟩ (.int .i64 K)).setCell ⟨BR, 1, none⟩ (.bool xno)).setCell ⟨BR, 2, none⟩ (.int .i64 xl)).setCell ⟨BR, 3, none⟩ (.int .i64 xh)).setCell ⟨BR, 4, none⟩ (.int .i64 xf)).setCell ⟨BR, 5, none⟩ (.int .i64 xb)).cell? ⟨BR, 3, none⟩ = some (.int .i64 xh) := ts5.cell 3 rfl
  have g4 : ((((((w2.setCell ⟨BR, 0, none⟩ (.int .i64 K)).setCell ⟨BR, 1, none⟩ (.bool xno)).setCell ⟨BR, 2, none⟩ (.int .i64 xl)).setCell ⟨BR, 3, none⟩ (.int .i64 xh)).setCell ⟨BR, 4, none⟩ (.int .i64 xf)).setCell ⟨BR, 5, none⟩ (.int .i64 xb)).cell? ⟨BR, 4, none⟩ = some (.int .i64 xf) := ts5.cell 4 rfl
  have g5 : ((((((w2.setCell ⟨BR, 0, none⟩ (.int .i64 K)).setCell ⟨BR, 1, none⟩ (.bool xno)).setCell ⟨BR, 2, none⟩ (.int .i64 xl)).setCell ⟨BR, 3, none⟩ (.int .i64 xh)).setCell ⟨BR, 4, none⟩ (.int .i64 xf)).setCell ⟨BR, 5, none⟩ (.int .i64 xb)).cell? ⟨BR, 5, none⟩ = some (.int .i64 xb) := ts5.cell 5 rfl
  clear ts0 ts1 ts2 ts3 ts4 ts5
  rw [← hBR]
  clear hb2 x1 x2 x3 fin cM hA1 hb0 d4 hBR
  go_wp2_with fail
  exact bodyPost_ret (v := valV K xno xl xh xf xb) (by simp [results, Tryz.results15, go_sem, g0, g1, g2, g3, g4, g5]) rfl ⟨xno, xl, xh, xf, xb, rfl, okX, hmX, FIN.out, hbH⟩
def ZeroPost (K : Nat) (y : Bool) (A : Nat → Prop) (w : World) (e : Ending) (w' : World) : Prop := ∃ xno xl xh xf xb, e = .returned (.tuple #[valV K xno (xl : Nat) (xh : Nat) (xf : Nat) (xb : Nat), .int .i64 0]) ∧ ValOk K xno xl xh xf xb ∧ mayB K xno xl xh xf xb = true ∧ ZeroTold y A (MemV K xno xl xh xf xb) ∧ Below w.heap.size w w'
set_option maxRecDepth 100000 in
set_option maxHeartbeats 1600000 in
theorem Zero_yes (K : Nat) (no : Bool) (l h f b : Nat) (okA : ValOk K no l h f b) (hmA : mayB K no l h f b = true) (y : Bool) (w : World) :
    Calls Tryz.prog 5 #[valV K no l h f b, .bool y] w (ZeroPost K y (MemV K no l h f b) w) := by
  have cH : ∀ w, Calls Tryz.prog 13 #[valV K no l h f b, .int .i64 0] w (HasOk K no l h f b 0 w) := fun w => Has_yes K no l h f b 0 okA hmA (Nat.two_pow_pos K) w
  have hWi : isW (K : Int) := okA.pat.hk.isW
  have cN := fun w => No_yes (K : Int) hWi w
  have cO : ∀ w, Calls Tryz.prog 16 #[.int .i64 K, .int .i64 0] w (MakePost (valV K false 0 0 0 0) 0 w) := fun w => One_yes (K : Int) 0 hWi ⟨by omega, by rcases okA.pat.hk with rfl | rfl | rfl <;> decide⟩ w
  have okN : ValOk K true 0 0 0 0 := none_ok2 okA.pat.hk
  have hmN : mayB K true (0 : Nat) (0 : Nat) (0 : Nat) (0 : Nat) = true := ok_may okN (fun _ => ⟨rfl, rfl, rfl, rfl⟩)
  have ok1 : ValOk K false 0 0 0 0 := one_ok okA.pat.hk (Nat.two_pow_pos K)
  have hm1 : mayB K false (0 : Nat) (0 : Nat) (0 : Nat) (0 : Nat) = true := ok_may ok1 (fun h => by cases h)
  have cW := fun sb w g => without_0 sb K no l h f b okA hmA w g
  clear hWi
  obtain ⟨dA, dR, hb0⟩ := two_boxes w #[.int .i64 K, .bool no, .int .i64 l, .int .i64 h, .int .i64 f, .int .i64 b] #[.int .i64 0, .bool false, .int .i64 0, .int .i64 0, .int .i64 0, .int .i64 0] 28
  obtain ⟨BR, hBR⟩ : ∃ B, B = w.heap.size + 1 := ⟨_, rfl⟩
  have hR : w.heap.size ≤ BR := by omega
  rw [← hBR] at dR
  have HBR := Lib.hid hBR
  go_enter Tryz.func5, Tryz.ntmps5
  go_upto_region 1 with (fail)
  rw [← HBR.out]
  clear hBR
  generalize ((w.alloc (.cells #[.int .i64 K, .bool no, .int .i64 l, .int .i64 h, .int .i64 f, .int .i64 b] 28)).alloc (.cells #[.int .i64 0, .bool false, .int .i64 0, .int .i64 0, .int .i64 0, .int .i64 0] 28)) = w0 at *
  have p0 : w0.cell? ⟨w.heap.size, 0, none⟩ = some (.int .i64 K) := dA.cell 0 rfl
  have p1 : w0.cell? ⟨w.heap.size, 1, none⟩ = some (.bool no) := dA.cell 1 rfl
  have p2 : w0.cell? ⟨w.heap.size, 2, none⟩ = some (.int .i64 l) := dA.cell 2 rfl
  have p3 : w0.cell? ⟨w.heap.size, 3, none⟩ = some (.int .i64 h) := dA.cell 3 rfl
  have p4 : w0.cell? ⟨w.heap.size, 4, none⟩ = some (.int .i64 f) := dA.cell 4 rfl
  have p5 : w0.cell? ⟨w.heap.size, 5, none⟩ = some (.int .i64 b) := dA.cell 5 rfl
  go_wp2_with fail
  refine (cH _).mono ?_
  rintro e w1 ⟨is, his, rfl, hb1⟩
  have HIS := Lib.hid his
  replace dA := At.below' hb1 dA
  replace dR := At.below' hb1 dR
  replace hb0 := hb0.trans (hb1.mono hb0.size)
  clear hb1
  clear his cH p0 p1 p2 p3 p4 p5
  cases y
  · have p0 : w1.cell? ⟨w.heap.size, 0, none⟩ = some (.int .i64 K) := dA.cell 0 rfl
    have p1 : w1.cell? ⟨w.heap.size, 1, none⟩ = some (.bool no) := dA.cell 1 rfl
    have p2 : w1.cell? ⟨w.heap.size, 2, none⟩ = some (.int .i64 l) := dA.cell 2 rfl
    have p3 : w1.cell? ⟨w.heap.size, 3, none⟩ = some (.int .i64 h) := dA.cell 3 rfl
    have p4 : w1.cell? ⟨w.heap.size, 4, none⟩ = some (.int .i64 f) := dA.cell 4 rfl
    have p5 : w1.cell? ⟨w.heap.size, 5, none⟩ = some (.int .i64 b) := dA.cell 5 rfl
    go_wp2_with fail
    refine (ftake_any _ _ _ _ _ _ _).mono ?_
    rintro e w2 ⟨sb, rfl, hS, hsb, hb2⟩
    replace dR := At.below' hb2 dR
    replace hb0 := hb0.trans (hb2.mono hb0.size)
    clear hb2
    go_wp2_with fail
    refine (cW sb _ hS).mono ?_
    rintro e w3 ⟨xno, xl, xh, xf, xb, rfl, okX, hmX, fin, hb3⟩
    have FIN := Lib.hid fin
    replace dR := At.below' hb3 dR
    replace hb0 := hb0.trans (hb3.mono hb0.size)
    clear hb3
    have tc0 : w3.cell? ⟨BR, 0, none⟩ = some (.int .i64 0) := dR.cell 0 rfl
    have tf0 : w3.frozen? ⟨BR, 0, none⟩ = false := At.free dR 0
    have ts0 : At (w3.setCell ⟨BR, 0, none⟩ (.int .i64 K)) BR #[.int .i64 K, .bool false, .int .i64 0, .int .i64 0, .int .i64 0, .int .i64 0] 28 := At.set dR 0 (.int .i64 K) (by simp)
    have tc1 : (w3.setCell ⟨BR, 0, none⟩ (.int .i64 K)).cell? ⟨BR, 1, none⟩ = some (.bool false) := ts0.cell 1 rfl
    have tf1 : (w3.setCell ⟨BR, 0, none⟩ (.int .i64 K)).frozen? ⟨BR, 1, none⟩ = false := At.free ts0 1
    have ts1 : At ((w3.setCell ⟨BR, 0, none⟩ (.int .i64 K)).setCell ⟨BR, 1, none⟩ (.bool xno)) BR #[.int .i64 K, .bool xno, .int .i64 0, .int .i64 0, .int .i64 0, .int .i64 0] 28 := At.set ts0 1 (.bool xno) (by simp)
    have tc2 : ((w3.setCell ⟨BR, 0, none⟩ (.int .i64 K)).setCell ⟨BR, 1, none⟩ (.bool xno)).cell? ⟨BR, 2, none⟩ = some (.int .i64 0) := ts1.cell 2 rfl
    have tf2 : ((w3.setCell ⟨BR, 0, none⟩ (.int .i64 K)).setCell ⟨BR, 1, none⟩ (.bool xno)).frozen? ⟨BR, 2, none⟩ = false := At.free ts1 2
    have ts2 : At (((w3.setCell ⟨BR, 0, none⟩ (.int .i64 K)).setCell ⟨BR, 1, none⟩ (.bool xno)).setCell ⟨BR, 2, none⟩ (.int .i64 xl)) BR #[.int .i64 K, .bool xno, .int .i64 xl, .int .i64 0, .int .i64 0, .int .i64 0] 28 := At.set ts1 2 (.int .i64 xl) (by simp)
    have tc3 : (((w3.setCell ⟨BR, 0, none⟩ (.int .i64 K)).setCell ⟨BR, 1, none⟩ (.bool xno)).setCell ⟨BR, 2, none⟩ (.int .i64 xl)).cell? ⟨BR, 3, none⟩ = some (.int .i64 0) := ts2.cell 3 rfl
    have tf3 : (((w3.setCell ⟨BR, 0, none⟩ (.int .i64 K)).setCell ⟨BR, 1, none⟩ (.bool xno)).setCell ⟨BR, 2, none⟩ (.int .i64 xl)).frozen? ⟨BR, 3, none⟩ = false := At.free ts2 3
    have ts3 : At ((((w3.setCell ⟨BR, 0, none⟩ (.int .i64 K)).setCell ⟨BR, 1, none⟩ (.bool xno)).setCell ⟨BR, 2, none⟩ (.int .i64 xl)).setCell ⟨BR, 3, none⟩ (.int .i64 xh)) BR #[.int .i64 K, .bool xno, .int .i64 xl, .int .i64 xh, .int .i64 0, .int .i64 0] 28 := At.set ts2 3 (.int .i64 xh) (by simp)
    have tc4 : ((((w3.setCell ⟨BR, 0, none⟩ (.int .i64 K)).setCell ⟨BR, 1, none⟩ (.bool xno)).setCell ⟨BR, 2, none⟩ (.int .i64 xl)).setCell ⟨BR, 3, none⟩ (.int .i64 xh)).cell? ⟨BR, 4, none⟩ = some (.int .i64 0) := ts3.cell 4 rfl
    have tf4 : ((((w3.setCell ⟨BR, 0, none⟩ (.int .i64 K)).setCell ⟨BR, 1, none⟩ (.bool xno)).setCell ⟨BR, 2, none⟩ (.int .i64 xl)).setCell ⟨BR, 3, none⟩ (.int .i64 xh)).frozen? ⟨BR, 4, none⟩ = false := At.free ts3 4
    have ts4 : At (((((w3.setCell ⟨BR, 0, none⟩ (.int .i64 K)).setCell ⟨BR, 1, none⟩ (.bool xno)).setCell ⟨BR, 2, none⟩ (.int .i64 xl)).setCell ⟨BR, 3, none⟩ (.int .i64 xh)).setCell ⟨BR, 4, none⟩ (.int .i64 xf)) BR #[.int .i64 K, .bool xno, .int .i64 xl, .int .i64 xh, .int .i64 xf, .int .i64 0] 28 := At.set ts3 4 (.int .i64 xf) (by simp)
    have tc5 : (((((w3.setCell ⟨BR, 0, none⟩ (.int .i64 K)).setCell ⟨BR, 1, none⟩ (.bool xno)).setCell ⟨BR, 2, none⟩ (.int .i64 xl)).setCell ⟨BR, 3, none⟩ (.int .i64 xh)).setCell ⟨BR, 4, none⟩ (.int .i64 xf)).cell? ⟨BR, 5, none⟩ = some (.int .i64 0) := ts4.cell 5 rfl
    have tf5 : (((((w3.setCell ⟨BR, 0, none⟩ (.int .i64 K)).setCell ⟨BR, 1, none⟩ (.bool xno)).setCell ⟨BR, 2, none⟩ (.int .i64 xl)).setCell ⟨BR, 3, none⟩ (.int .i64 xh)).setCell ⟨BR, 4, none⟩ (.int .i64 xf)).frozen? ⟨BR, 5, none⟩ = false := At.free ts4 5
    have ts5 : At ((((((w3.setCell ⟨BR, 0, none⟩ (.int .i64 K)).setCell ⟨BR, 1, none⟩ (.bool xno)).setCell ⟨BR, 2, none⟩ (.int .i64 xl)).setCell ⟨BR, 3, none⟩ (.int .i64 xh)).setCell ⟨BR, 4, none⟩ (.int .i64 xf)).setCell ⟨BR, 5, none⟩ (.int .i64 xb)) BR #[.int .i64 K, .bool xno, .int .i64 xl, .int .i64 xh, .int .i64 xf, .int .i64 xb] 28 := At.set ts4 5 (.int .i64 xb) (by simp)
    have hbH : Below w.heap.size w ((((((w3.setCell ⟨BR, 0, none⟩ (.int .i64 K)).setCell ⟨BR, 1, none⟩ (.bool xno)).setCell ⟨BR, 2, none⟩ (.int .i64 xl)).setCell ⟨BR, 3, none⟩ (.int .i64 xh)).setCell ⟨BR, 4, none⟩ (.int .i64 xf)).setCell ⟨BR, 5, none⟩ (.int .i64 xb)) := ((((((hb0.setCell (p := ⟨BR, 0, none⟩) (by show w.heap.size ≤ BR; omega) (.int .i64 K)).setCell (p := ⟨BR, 1, none⟩) (by show w.heap.size ≤ BR; omega) (.bool xno)).setCell (p := ⟨BR, 2, none⟩) (by show w.heap.size ≤ BR; omega) (.int .i64 xl)).setCell (p := ⟨BR, 3, none⟩) (by show w.heap.size ≤ BR; omega) (.int .i64 xh)).setCell (p := ⟨BR, 4, none⟩) (by show w.heap.size ≤ BR; omega) (.int .i64 xf)).setCell (p := ⟨BR, 5, none⟩) (by show w.heap.size ≤ BR; omega) (.int .i64 xb))
    have g0 : ((((((w3.setCell ⟨BR, 0, none⟩ (.int .i64 K)).setCell ⟨BR, 1, none⟩ (.bool xno)).setCell ⟨BR, 2, none⟩ (.int .i64 xl)).setCell ⟨BR, 3, none⟩ (.int .i64 xh)).setCell ⟨BR, 4, none⟩ (.int .i64 xf)).setCell ⟨BR, 5, none⟩ (.int .i64 xb)).cell? ⟨BR, 0, none⟩ = some (.int .i64 K) := ts5.cell 0 rfl
    have g1 : ((((((w3.setCell ⟨BR, 0, none⟩ (.int .i64 K)).setCell ⟨BR, 1, none⟩ (.bool xno)).setCell ⟨BR, 2, none⟩ (.int .i64 xl)).setCell ⟨BR, 3, none⟩ (.int .i64 xh)).setCell ⟨BR, 4, none⟩ (.int .i64 xf)).setCell ⟨BR, 5, none⟩ (.int .i64 xb)).cell? ⟨BR, 1, none⟩ = some (.bool xno) := ts5.cell 1 rfl
    have g2 : ((((((w3.setCell ⟨BR, 0, none⟩ (.int .i64 K)).setCell ⟨BR, 1, none⟩ (.bool xno)).setCell ⟨BR, 2, none⟩ (.int .i64 xl)).setCell ⟨BR, 3, none⟩ (.int .i64 xh)).setCell ⟨BR, 4, none⟩ (.int .i64 xf)).setCell ⟨BR, 5, none⟩ (.int .i64 xb)).cell? ⟨BR, 2, none⟩ = some (.int .i64 xl) := ts5.cell 2 rfl
    have g3 : ((((((w3.setCell ⟨BR, 0, none⟩ (.int .i64 K)).setCell ⟨BR, 1, none⟩ (.bool xno)).setCell ⟨BR, 2, none⟩ (.int .i64 xl)).setCell ⟨BR, 3, none⟩ (.int .i64 xh)).setCell ⟨BR, 4, none⟩ (.int .i64 xf)).setCell ⟨BR, 5, none⟩ (.int .i64 xb)).cell? ⟨BR, 3, none⟩ = some (.int .i64 xh) := ts5.cell 3 rfl
    have g4 : ((((((w3.setCell ⟨BR, 0, none⟩ (.int .i64 K)).setCell ⟨BR, 1, none⟩ (.bool xno)).setCell ⟨BR, 2, none⟩ (.int .i64 xl)).setCell ⟨BR, 3, none⟩ (.int .i64 xh)).setCell ⟨BR, 4, none⟩ (.int .i64 xf)).setCell ⟨BR, 5, none⟩ (.int .i64 xb)).cell? ⟨BR, 4, none⟩ = some (.int .i64 xf) := ts5.cell 4 rfl
    have g5 : ((((((w3.setCell ⟨BR, 0, none⟩ (.int .i64 K)).setCell ⟨BR, 1, none⟩ (.bool xno)).setCell ⟨BR, 2, none⟩ (.int .i64 xl)).setCell ⟨BR, 3, none⟩ (.int .i64 xh)).setCell ⟨BR, 4, none⟩ (.int .i64 xf)).setCell ⟨BR, 5, none⟩ (.int .i64 xb)).cell? ⟨BR, 5, none⟩ = some (.int .i64 xb) := ts5.cell 5 rfl
    clear ts0 ts1 ts2 ts3 ts4 ts5
    clear fin dA dR hb0 cN cO cW hS hsb p0 p1 p2 p3 p4 p5
    go_wp2_with fail
    exact bodyPost_ret (v := .tuple #[valV K xno xl xh xf xb, .int .i64 0]) (by simp [results, Tryz.results5, go_sem, g0, g1, g2, g3, g4, g5]) rfl ⟨xno, xl, xh, xf, xb, rfl, okX, hmX, FIN.out, hbH⟩
  · cases is
    · have hn0 : ¬ MemV K no l h f b 0 := fun h => by have := HIS.out.2 h; cases this
      have HN0 := Lib.hid hn0
      clear hn0 HIS
      have p0 : w1.cell? ⟨w.heap.size, 0, none⟩ = some (.int .i64 K) := dA.cell 0 rfl
      go_wp2_with fail
      refine (cN _).mono ?_
      rintro e w2 ⟨rfl, hb2⟩
      replace dR := At.below' hb2 dR
      replace hb0 := hb0.trans (hb2.mono hb0.size)
      clear hb2
      have fin : ZeroTold true (MemV K no l h f b) (MemV K true 0 0 0 0) := ⟨fun _ z => ⟨(fun hz => by cases hz.1), fun hz => absurd (by rw [← hz.1]; exact hz.2) HN0.out⟩, (fun h => by cases h)⟩
      have tc0 : w2.cell? ⟨BR, 0, none⟩ = some (.int .i64 0) := dR.cell 0 rfl
      have tf0 : w2.frozen? ⟨BR, 0, none⟩ = false := At.free dR 0
      have ts0 : At (w2.setCell ⟨BR, 0, none⟩ (.int .i64 K)) BR #[.int .i64 K, .bool false, .int .i64 0, .int .i64 0, .int .i64 0, .int .i64 0] 28 := At.set dR 0 (.int .i64 K) (by simp)
      have tc1 : (w2.setCell ⟨BR, 0, none⟩ (.int .i64 K)).cell? ⟨BR, 1, none⟩ = some (.bool false) := ts0.cell 1 rfl
      have tf1 : (w2.setCell ⟨BR, 0, none⟩ (.int .i64 K)).frozen? ⟨BR, 1, none⟩ = false := At.free ts0 1
      have ts1 : At ((w2.setCell ⟨BR, 0, none⟩ (.int .i64 K)).setCell ⟨BR, 1, none⟩ (.bool true)) BR #[.int .i64 K, .bool true, .int .i64 0, .int .i64 0, .int .i64 0, .int .i64 0] 28 := At.set ts0 1 (.bool true) (by simp)
      have tc2 : ((w2.setCell ⟨BR, 0, none⟩ (.int .i64 K)).setCell ⟨BR, 1, none⟩ (.bool true)).cell? ⟨BR, 2, none⟩ = some (.int .i64 0) := ts1.cell 2 rfl
      have tf2 : ((w2.setCell ⟨BR, 0, none⟩ (.int .i64 K)).setCell ⟨BR, 1, none⟩ (.bool true)).frozen? ⟨BR, 2, none⟩ = false := At.free ts1 2
      have ts2 : At (((w2.setCell ⟨BR, 0, none⟩ (.int .i64 K)).setCell ⟨BR, 1, none⟩ (.bool true)).setCell ⟨BR, 2, none⟩ (.int .i64 0)) BR #[.int .i64 K, .bool true, .int .i64 0, .int .i64 0, .int .i64 0, .int .i64 0] 28 := At.set ts1 2 (.int .i64 0) (by simp)
      have tc3 : (((w2.setCell ⟨BR, 0, none⟩ (.int .i64 K)).setCell ⟨BR, 1, none⟩ (.bool true)).setCell ⟨BR, 2, none⟩ (.int .i64 0)).cell? ⟨BR, 3, none⟩ = some (.int .i64 0) := ts2.cell 3 rfl
      have tf3 : (((w2.setCell ⟨BR, 0, none⟩ (.int .i64 K)).setCell ⟨BR, 1, none⟩ (.bool true)).setCell ⟨BR, 2, none⟩ (.int .i64 0)).frozen? ⟨BR, 3, none⟩ = false := At.free ts2 3
      have ts3 : At ((((w2.setCell ⟨BR, 0, none⟩ (.int .i64 K)).setCell ⟨BR, 1, none⟩ (.bool true)).setCell ⟨BR, 2, none⟩ (.int .i64 0)).setCell ⟨BR, 3, none⟩ (.int .i64 0)) BR #[.int .i64 K, .bool true, .int .i64 0, .int .i64 0, .int .i64 0, .int .i64 0] 28 := At.set ts2 3 (.int .i64 0) (by simp)
      have tc4 : ((((w2.setCell ⟨BR, 0, none⟩ (.int .i64 K)).setCell ⟨BR, 1, none⟩ (.bool true)).setCell ⟨BR, 2, none⟩ (.int .i64 0)).setCell ⟨BR, 3, none⟩ (.int .i64 0)).cell? ⟨BR, 4, none⟩ = some (.int .i64 0) := ts3.cell 4 rfl
      have tf4 : ((((w2.setCell ⟨BR, 0, none⟩ (.int .i64 K)).setCell ⟨BR, 1, none⟩ (.bool true)).setCell ⟨BR, 2, none⟩ (.int .i64 0)).setCell ⟨BR, 3, none⟩ (.int .i64 0)).frozen? ⟨BR, 4, none⟩ = false := At.free ts3 4
      have ts4 : At (((((w2.setCell ⟨BR, 0, none⟩ (.int .i64 K)).setCell ⟨BR, 1, none⟩ (.bool true)).setCell ⟨BR, 2, none⟩ (.int .i64 0)).setCell ⟨BR, 3, none⟩ (.int .i64 0)).setCell ⟨BR, 4, none⟩ (.int .i64 0)) BR #[.int .i64 K, .bool true, .int .i64 0, .int .i64 0, .int .i64 0, .int .i64 0] 28 := At.set ts3 4 (.int .i64 0) (by simp)
      have tc5 : (((((w2.setCell ⟨BR, 0, none⟩ (.int .i64 K)).setCell ⟨BR, 1, none⟩ (.bool true)).setCell ⟨BR, 2, none⟩ (.int .i64 0)).setCell ⟨BR, 3, none⟩ (.int .i64 0)).setCell ⟨BR, 4, none⟩ (.int .i64 0)).cell? ⟨BR, 5, none⟩ = some (.int .i64 0) := ts4.cell 5 rfl
      have tf5 : (((((w2.setCell ⟨BR, 0, none⟩ (.int .i64 K)).setCell ⟨BR, 1, none⟩ (.bool true)).setCell ⟨BR, 2, none⟩ (.int .i64 0)).setCell ⟨BR, 3, none⟩ (.int .i64 0)).setCell ⟨BR, 4, none⟩ (.int .i64 0)).frozen? ⟨BR, 5, none⟩ = false := At.free ts4 5
      have ts5 : At ((((((w2.setCell ⟨BR, 0, none⟩ (.int .i64 K)).setCell ⟨BR, 1, none⟩ (.bool true)).setCell ⟨BR, 2, none⟩ (.int .i64 0)).setCell ⟨BR, 3, none⟩ (.int .i64 0)).setCell ⟨BR, 4, none⟩ (.int .i64 0)).setCell ⟨BR, 5, none⟩ (.int .i64 0)) BR #[.int .i64 K, .bool true, .int .i64 0, .int .i64 0, .int .i64 0, .int .i64 0] 28 := At.set ts4 5 (.int .i64 0) (by simp)
      have hbH : Below w.heap.size w ((((((w2.setCell ⟨BR, 0, none⟩ (.int .i64 K)).setCell ⟨BR, 1, none⟩ (.bool true)).setCell ⟨BR, 2, none⟩ (.int .i64 0)).setCell ⟨BR, 3, none⟩ (.int .i64 0)).setCell ⟨BR, 4, none⟩ (.int .i64 0)).setCell ⟨BR, 5, none⟩ (.int .i64 0)) := ((((((hb0.setCell (p := ⟨BR, 0, none⟩) (by show w.heap.size ≤ BR; omega) (.int .i64 K)).setCell (p := ⟨BR, 1, none⟩) (by show w.heap.size ≤ BR; omega) (.bool true)).setCell (p := ⟨BR, 2, none⟩) (by show w.heap.size ≤ BR; omega) (.int .i64 0)).setCell (p := ⟨BR, 3, none⟩) (by show w.heap.size ≤ BR; omega) (.int .i64 0)).setCell (p := ⟨BR, 4, none⟩) (by show w.heap.size ≤ BR; omega) (.int .i64 0)).setCell (p := ⟨BR, 5, none⟩) (by show w.heap.size ≤ BR; omega) (.int .i64 0))
      have g0 : ((((((w2.setCell ⟨BR, 0, none⟩ (.int .i64 K)).setCell ⟨BR, 1, none⟩ (.bool true)).setCell ⟨BR, 2, none⟩ (.int .i64 0)).setCell ⟨BR, 3, none⟩ (.int .i64 0)).setCell ⟨BR, 4, none⟩ (.int .i64 0)).setCell ⟨BR, 5, none⟩ (.int .i64 0)).cell? ⟨BR, 0, none⟩ = some (.int .i64 K) := ts5.cell 0 rfl
      have g1 : ((((((w2.setCell ⟨BR, 0, none⟩ (.int .i64 K)).setCell ⟨BR, 1, none⟩ (.bool true)).setCell ⟨BR, 2, none⟩ (.int .i64 0)).setCell ⟨BR, 3, none⟩ (.int .i64 0)).setCell ⟨BR, 4, none⟩ (.int .i64 0)).setCell ⟨BR, 5, none⟩ (.int .i64 0)).cell? ⟨BR, 1, none⟩ = some (.bool true) := ts5.cell 1 rfl
      have g2 : ((((((w2.setCell ⟨BR, 0, none⟩ (.int .i64 K)).setCell ⟨BR, 1, none⟩ (.bool true)).setCell ⟨BR, 2, none⟩ (.int .i64 0)).setCell ⟨BR, 3, none⟩ (.int .i64 0)).setCell ⟨BR, 4, none⟩ (.int .i64 0)).setCell ⟨BR, 5, none⟩ (.int .i64 0)).cell? ⟨BR, 2, none⟩ = some (.int .i64 0) := ts5.cell 2 rfl
      have g3 : ((((((w2.setCell ⟨BR, 0, none⟩ (.int .i64 K)).setCell ⟨BR, 1, none⟩ (.bool true)).setCell ⟨BR, 2, none⟩ (.int .i64 0)).setCell ⟨BR, 3, none⟩ (.int .i64 0)).setCell ⟨BR, 4, none⟩ (.int .i64 0)).setCell ⟨BR, 5, none⟩ (.int .i64 0)).cell? ⟨BR, 3, none⟩ = some (.int .i64 0) := ts5.cell 3 rfl
      have g4 : ((((((w2.setCell ⟨BR, 0, none⟩ (.int .i64 K)).setCell ⟨BR, 1, none⟩ (.bool true)).setCell ⟨BR, 2, none⟩ (.int .i64 0)).setCell ⟨BR, 3, none⟩ (.int .i64 0)).setCell ⟨BR, 4, none⟩ (.int .i64 0)).setCell ⟨BR, 5, none⟩ (.int .i64 0)).cell? ⟨BR, 4, none⟩ = some (.int .i64 0) := ts5.cell 4 rfl
      have g5 : ((((((w2.setCell ⟨BR, 0, none⟩ (.int .i64 K)).setCell ⟨BR, 1, none⟩ (.bool true)).setCell ⟨BR, 2, none⟩ (.int .i64 0)).setCell ⟨BR, 3, none⟩ (.int .i64 0)).setCell ⟨BR, 4, none⟩ (.int .i64 0)).setCell ⟨BR, 5, none⟩ (.int .i64 0)).cell? ⟨BR, 5, none⟩ = some (.int .i64 0) := ts5.cell 5 rfl
      clear ts0 ts1 ts2 ts3 ts4 ts5
      clear p0 dA dR hb0 cN cO cW
      go_wp2_with fail
      exact bodyPost_ret (v := .tuple #[valV K true 0 0 0 0, .int .i64 0]) (by simp [results, Tryz.results5, go_sem, g0, g1, g2, g3, g4, g5]) rfl ⟨true, 0, 0, 0, 0, rfl, okN, hmN, fin, hbH⟩
    · have hm0 : MemV K no l h f b 0 := HIS.out.1 rfl
      have HM0 := Lib.hid hm0
      clear hm0 HIS
      have p0 : w1.cell? ⟨w.heap.size, 0, none⟩ = some (.int .i64 K) := dA.cell 0 rfl
      go_wp2_with fail
      refine (cO _).mono ?_
      rintro e w2 ⟨rfl, hb2⟩
      replace dR := At.below' hb2 dR
      replace hb0 := hb0.trans (hb2.mono hb0.size)
      clear hb2
      have fin : ZeroTold true (MemV K no l h f b) (MemV K false 0 0 0 0) := ⟨fun _ z => by rw [mem1 (Nat.two_pow_pos K)]; exact ⟨fun hz => ⟨hz, by rw [hz]; exact HM0.out⟩, fun hz => hz.1⟩, (fun h => by cases h)⟩
      have tc0 : w2.cell? ⟨BR, 0, none⟩ = some (.int .i64 0) := dR.cell 0 rfl
      have tf0 : w2.frozen? ⟨BR, 0, none⟩ = false := At.free dR 0
      have ts0 : At (w2.setCell ⟨BR, 0, none⟩ (.int .i64 K)) BR #[.int .i64 K, .bool false, .int .i64 0, .int .i64 0, .int .i64 0, .int .i64 0] 28 := At.set dR 0 (.int .i64 K) (by simp)
      have tc1 : (w2.setCell ⟨BR, 0, none⟩ (.int .i64 K)).cell? ⟨BR, 1, none⟩ = some (.bool false) := ts0.cell 1 rfl
      have tf1 : (w2.setCell ⟨BR, 0, none⟩ (.int .i64 K)).frozen? ⟨BR, 1, none⟩ = false := At.free ts0 1
      have ts1 : At ((w2.setCell ⟨BR, 0, none⟩ (.int .i64 K)).setCell ⟨BR, 1, none⟩ (.bool false)) BR #[.int .i64 K, .bool false, .int .i64 0, .int .i64 0, .int .i64 0, .int .i64 0] 28 := At.set ts0 1 (.bool false) (by simp)
      have tc2 : ((w2.setCell ⟨BR, 0, none⟩ (.int .i64 K)).setCell ⟨BR, 1, none⟩ (.bool false)).cell? ⟨BR, 2, none⟩ = some (.int .i64 0) := ts1.cell 2 rfl
      have tf2 : ((w2.setCell ⟨BR, 0, none⟩ (.int .i64 K)).setCell ⟨BR, 1, none⟩ (.bool false)).frozen? ⟨BR, 2, none⟩ = false := At.free ts1 2
      have ts2 : At (((w2.setCell ⟨BR, 0, none⟩ (.int .i64 K)).setCell ⟨BR, 1, none⟩ (.bool false)).setCell ⟨BR, 2, none⟩ (.int .i64 0)) BR #[.int .i64 K, .bool false, .int .i64 0, .int .i64 0, .int .i64 0, .int .i64 0] 28 := At.set ts1 2 (.int .i64 0) (by simp)
      have tc3 : (((w2.setCell ⟨BR, 0, none⟩ (.int .i64 K)).setCell ⟨BR, 1, none⟩ (.bool false)).setCell ⟨BR, 2, none⟩ (.int .i64 0)).cell? ⟨BR, 3, none⟩ = some (.int .i64 0) := ts2.cell 3 rfl
      have tf3 : (((w2.setCell ⟨BR, 0, none⟩ (.int .i64 K)).setCell ⟨BR, 1, none⟩ (.bool false)).setCell ⟨BR, 2, none⟩ (.int .i64 0)).frozen? ⟨BR, 3, none⟩ = false := At.free ts2 3
      have ts3 : At ((((w2.setCell ⟨BR, 0, none⟩ (.int .i64 K)).setCell ⟨BR, 1, none⟩ (.bool false)).setCell ⟨BR, 2, none⟩ (.int .i64 0)).setCell ⟨BR, 3, none⟩ (.int .i64 0)) BR #[.int .i64 K, .bool false, .int .i64 0, .int .i64 0, .int .i64 0, .int .i64 0] 28 := At.set ts2 3 (.int .i64 0) (by simp)
      have tc4 : ((((w2.setCell ⟨BR, 0, none⟩ (.int .i64 K)).setCell ⟨BR, 1, none⟩ (.bool false)).setCell ⟨BR, 2, none⟩ (.int .i64 0)).setCell ⟨BR, 3, none⟩ (.int .i64 0)).cell? ⟨BR, 4, none⟩ = some (.int .i64 0) := ts3.cell 4 rfl
      have tf4 : ((((w2.setCell ⟨BR, 0, none⟩ (.int .i64 K)).setCell ⟨BR, 1, none⟩ (.bool false)).setCell ⟨BR, 2, none⟩ (.int .i64 0)).setCell ⟨BR, 3, none⟩ (.int .i64 0)).frozen? ⟨BR, 4, none⟩ = false := At.free ts3 4
      have ts4 : At (((((w2.setCell ⟨BR, 0, none⟩ (.int .i64 K)).setCell ⟨BR, 1, none⟩ (.bool false)).setCell ⟨BR, 2, none⟩ (.int .i64 0)).setCell ⟨BR, 3, none⟩ (.int .i64 0)).setCell ⟨BR, 4, none⟩ (.int .i64 0)) BR #[.int .i64 K, .bool false, .int .i64 0, .int .i64 0, .int .i64 0, .int .i64 0] 28 := At.set ts3 4 (.int .i64 0) (by simp)
      have tc5 : (((((w2.setCell ⟨BR, 0, none⟩ (.int .i64 K)).setCell ⟨BR, 1, none⟩ (.bool false)).setCell ⟨BR, 2, none⟩ (.int .i64 0)).setCell ⟨BR, 3, none⟩ (.int .i64 0)).setCell ⟨BR, 4, none⟩ (.int .i64 0)).cell? ⟨BR, 5, none⟩ = some (.int .i64 0) := ts4.cell 5 rfl
      have tf5 : (((((w2.setCell ⟨BR, 0, none⟩ (.int .i64 K)).setCell ⟨BR, 1, none⟩ (.bool false)).setCell ⟨BR, 2, none⟩ (.int .i64 0)).setCell ⟨BR, 3, none⟩ (.int .i64 0)).setCell ⟨BR, 4, none⟩ (.int .i64 0)).frozen? ⟨BR, 5, none⟩ = false := At.free ts4 5
      have ts5 : At ((((((w2.setCell ⟨BR, 0, none⟩ (.int .i64 K)).setCell ⟨BR, 1, none⟩ (.bool false)).setCell ⟨BR, 2, none⟩ (.int .i64 0)).setCell ⟨BR, 3, none⟩ (.int .i64 0)).setCell ⟨BR, 4, none⟩ (.int .i64 0)).setCell ⟨BR, 5, none⟩ (.int .i64 0)) BR #[.int .i64 K, .bool false, .int .i64 0, .int .i64 0, .int .i64 0, .int .i64 0] 28 := At.set ts4 5 (.int .i64 0) (by simp)
      have hbH : Below w.heap.size w ((((((w2.setCell ⟨BR, 0, none⟩ (.int .i64 K)).setCell ⟨BR, 1, none⟩ (.bool false)).setCell ⟨BR, 2, none⟩ (.int .i64 0)).setCell ⟨BR, 3, none⟩ (.int .i64 0)).setCell ⟨BR, 4, none⟩ (.int .i64 0)).setCell ⟨BR, 5, none⟩ (.int .i64 0)) := ((((((hb0.setCell (p := ⟨BR, 0, none⟩) (by show w.heap.size ≤ BR; omega) (.int .i64 K)).setCell (p := ⟨BR, 1, none⟩) (by show w.heap.size ≤ BR; omega) (.bool false)).setCell (p := ⟨BR, 2, none⟩) (by show w.heap.size ≤ BR; omega) (.int .i64 0)).setCell (p := ⟨BR, 3, none⟩) (by show w.heap.size ≤ BR; omega) (.int .i64 0)).setCell (p := ⟨BR, 4, none⟩) (by show w.heap.size ≤ BR; omega) (.int .i64 0)).setCell (p := ⟨BR, 5, none⟩) (by show w.heap.size ≤ BR; omega) (.int .i64 0))
      have g0 : ((((((w2.setCell ⟨BR, 0, none⟩ (.int .i64 K)).setCell ⟨BR, 1, none⟩ (.bool false)).setCell ⟨BR, 2, none⟩ (.int .i64 0)).setCell ⟨BR, 3, none⟩ (.int .i64 0)).setCell ⟨BR, 4, none⟩ (.int .i64 0)).setCell ⟨BR, 5, none⟩ (.int .i64 0)).cell? ⟨BR, 0, none⟩ = some (.int .i64 K) := ts5.cell 0 rfl
      have g1 : ((((((w2.setCell ⟨BR, 0, none⟩ (.int .i64 K)).setCell ⟨BR, 1, none⟩ (.bool false)).setCell ⟨BR, 2, none⟩ (.int .i64 0)).setCell ⟨BR, 3, none⟩ (.int .i64 0)).setCell ⟨BR, 4, none⟩ (.int .i64 0)).setCell ⟨BR, 5, none⟩ (.int .i64 0)).cell? ⟨BR, 1, none⟩ = some (.bool false) := ts5.cell 1 rfl
      have g2 : ((((((w2.setCell ⟨BR, 0, none⟩ (.int .i64 K)).setCell ⟨BR, 1, none⟩ (.bool false)).setCell ⟨BR, 2, none⟩ (.int .i64 0)).setCell ⟨BR, 3, none⟩ (.int .i64 0)).setCell ⟨BR, 4, none⟩ (.int .i64 0)).setCell ⟨BR, 5, none⟩ (.int .i64 0)).cell? ⟨BR, 2, none⟩ = some (.int .i64 0) := ts5.cell 2 rfl
      have g3 : ((((((w2.setCell ⟨BR, 0, none⟩ (.int .i64 K)).setCell ⟨BR, 1, none⟩ (.bool false)).setCell ⟨BR, 2, none⟩ (.int .i64 0)).setCell ⟨BR, 3, none⟩ (.int .i64 0)).setCell ⟨BR, 4, none⟩ (.int .i64 0)).setCell ⟨BR, 5, none⟩ (.int .i64 0)).cell? ⟨BR, 3, none⟩ = some (.int .i64 0) := ts5.cell 3 rfl
      have g4 : ((((((w2.setCell ⟨BR, 0, none⟩ (.int .i64 K)).setCell ⟨BR, 1, none⟩ (.bool false)).setCell ⟨BR, 2, none⟩ (.int .i64 0)).setCell ⟨BR, 3, none⟩ (.int .i64 0)).setCell ⟨BR, 4, none⟩ (.int .i64 0)).setCell ⟨BR, 5, none⟩ (.int .i64 0)).cell? ⟨BR, 4, none⟩ = some (.int .i64 0) := ts5.cell 4 rfl
      have g5 : ((((((w2.setCell ⟨BR, 0, none⟩ (.int .i64 K)).setCell ⟨BR, 1, none⟩ (.bool false)).setCell ⟨BR, 2, none⟩ (.int .i64 0)).setCell ⟨BR, 3, none⟩ (.int .i64 0)).setCell ⟨BR, 4, none⟩ (.int .i64 0)).setCell ⟨BR, 5, none⟩ (.int .i64 0)).cell? ⟨BR, 5, none⟩ = some (.int .i64 0) := ts5.cell 5 rfl
      clear ts0 ts1 ts2 ts3 ts4 ts5
      clear p0 dA dR hb0 cN cO cW
      go_wp2_with fail
      exact bodyPost_ret (v := .tuple #[valV K false 0 0 0 0, .int .i64 0]) (by simp [results, Tryz.results5, go_sem, g0, g1, g2, g3, g4, g5]) rfl ⟨false, 0, 0, 0, 0, rfl, ok1, hm1, fin, hbH⟩
set_option maxRecDepth 100000 in
set_option maxHeartbeats 1600000 in
theorem Zero_no (k : Int) (no : Bool) (l h f b : Int) (hm : mayB k no l h f b = false) (y : Bool) (w : World) :
    Calls Tryz.prog 5 #[valV k no l h f b, .bool y] w (MakePost (valV 0 false 0 0 0 0) 1 w) := by
  have cH := fun w => Has_no k no l h f b 0 hm w
  obtain ⟨dA, dR, hb0⟩ := two_boxes w #[.int .i64 k, .bool no, .int .i64 l, .int .i64 h, .int .i64 f, .int .i64 b] #[.int .i64 0, .bool false, .int .i64 0, .int .i64 0, .int .i64 0, .int .i64 0] 28
  obtain ⟨BR, hBR⟩ : ∃ B, B = w.heap.size + 1 := ⟨_, rfl⟩
  have hR : w.heap.size ≤ BR := by omega
  rw [← hBR] at dR
  have HBR := Lib.hid hBR
  clear hm
  go_enter Tryz.func5, Tryz.ntmps5
  go_upto_region 1 with (fail)
  rw [← HBR.out]
  clear hBR
  generalize ((w.alloc (.cells #[.int .i64 k, .bool no, .int .i64 l, .int .i64 h, .int .i64 f, .int .i64 b] 28)).alloc (.cells #[.int .i64 0, .bool false, .int .i64 0, .int .i64 0, .int .i64 0, .int .i64 0] 28)) = w0 at *
  have p0 : w0.cell? ⟨w.heap.size, 0, none⟩ = some (.int .i64 k) := dA.cell 0 rfl
  have p1 : w0.cell? ⟨w.heap.size, 1, none⟩ = some (.bool no) := dA.cell 1 rfl
  have p2 : w0.cell? ⟨w.heap.size, 2, none⟩ = some (.int .i64 l) := dA.cell 2 rfl
  have p3 : w0.cell? ⟨w.heap.size, 3, none⟩ = some (.int .i64 h) := dA.cell 3 rfl
  have p4 : w0.cell? ⟨w.heap.size, 4, none⟩ = some (.int .i64 f) := dA.cell 4 rfl
  have p5 : w0.cell? ⟨w.heap.size, 5, none⟩ = some (.int .i64 b) := dA.cell 5 rfl
  go_wp2_with fail
  refine (cH _).mono ?_
  rintro e w1 ⟨rfl, hb1⟩
  replace dR := At.below' hb1 dR
  replace hb0 := hb0.trans (hb1.mono hb0.size)
  clear hb1
  clear cH dA p0 p1 p2 p3 p4 p5
  have tc0 : w1.cell? ⟨BR, 0, none⟩ = some (.int .i64 0) := dR.cell 0 rfl
  have tf0 : w1.frozen? ⟨BR, 0, none⟩ = false := At.free dR 0
  have ts0 : At (w1.setCell ⟨BR, 0, none⟩ (.int .i64 0)) BR #[.int .i64 0, .bool false, .int .i64 0, .int .i64 0, .int .i64 0, .int .i64 0] 28 := At.set dR 0 (.int .i64 0) (by simp)
  have tc1 : (w1.setCell ⟨BR, 0, none⟩ (.int .i64 0)).cell? ⟨BR, 1, none⟩ = some (.bool false) := ts0.cell 1 rfl
  have tf1 : (w1.setCell ⟨BR, 0, none⟩ (.int .i64 0)).frozen? ⟨BR, 1, none⟩ = false := At.free ts0 1
  have ts1 : At ((w1.setCell ⟨BR, 0, none⟩ (.int .i64 0)).setCell ⟨BR, 1, none⟩ (.bool false)) BR #[.int .i64 0, .bool false, .int .i64 0, .int .i64 0, .int .i64 0, .int .i64 0] 28 := At.set ts0 1 (.bool false) (by simp)
  have tc2 : ((w1.setCell ⟨BR, 0, none⟩ (.int .i64 0)).setCell ⟨BR, 1, none⟩ (.bool false)).cell? ⟨BR, 2, none⟩ = some (.int .i64 0) := ts1.cell 2 rfl
  have tf2 : ((w1.setCell ⟨BR, 0, none⟩ (.int .i64 0)).setCell ⟨BR, 1, none⟩ (.bool false)).frozen? ⟨BR, 2, none⟩ = false := At.free ts1 2
  have ts2 : At (((w1.setCell ⟨BR, 0, none⟩ (.int .i64 0)).setCell ⟨BR, 1, none⟩ (.bool false)).setCell ⟨BR, 2, none⟩ (.int .i64 0)) BR #[.int .i64 0, .bool false, .int .i64 0, .int .i64 0, .int .i64 0, .int .i64 0] 28 := At.set ts1 2 (.int .i64 0) (by simp)
  have tc3 : (((w1.setCell ⟨BR, 0, none⟩ (.int .i64 0)).setCell ⟨BR, 1, none⟩ (.bool false)).setCell ⟨BR, 2, none⟩ (.int .i64 0)).cell? ⟨BR, 3, none⟩ = some (.int .i64 0) := ts2.cell 3 rfl
  have tf3 : (((w1.setCell ⟨BR, 0, none⟩ (.int .i64 0)).setCell ⟨BR, 1, none⟩ (.bool false)).setCell ⟨BR, 2, none⟩ (.int .i64 0)).frozen? ⟨BR, 3, none⟩ = false := At.free ts2 3
  have ts3 : At ((((w1.setCell ⟨BR, 0, none⟩ (.int .i64 0)).setCell ⟨BR, 1, none⟩ (.bool false)).setCell ⟨BR, 2, none⟩ (.int .i64 0)).setCell ⟨BR, 3, none⟩ (.int .i64 0)) BR #[.int .i64 0, .bool false, .int .i64 0, .int .i64 0, .int .i64 0, .int .i64 0] 28 := At.set ts2 3 (.int .i64 0) (by simp)
  have tc4 : ((((w1.setCell ⟨BR, 0, none⟩ (.int .i64 0)).setCell ⟨BR, 1, none⟩ (.bool false)).setCell ⟨BR, 2, none⟩ (.int .i64 0)).setCell ⟨BR, 3, none⟩ (.int .i64 0)).cell? ⟨BR, 4, none⟩ = some (.int .i64 0) := ts3.cell 4 rfl
  have tf4 : ((((w1.setCell ⟨BR, 0, none⟩ (.int .i64 0)).setCell ⟨BR, 1, none⟩ (.bool false)).setCell ⟨BR, 2, none⟩ (.int .i64 0)).setCell ⟨BR, 3, none⟩ (.int .i64 0)).frozen? ⟨BR, 4, none⟩ = false := At.free ts3 4
  have ts4 : At (((((w1.setCell ⟨BR, 0, none⟩ (.int .i64 0)).setCell ⟨BR, 1, none⟩ (.bool false)).setCell ⟨BR, 2, none⟩ (.int .i64 0)).setCell ⟨BR, 3, none⟩ (.int .i64 0)).setCell ⟨BR, 4, none⟩ (.int .i64 0)) BR #[.int .i64 0, .bool false, .int .i64 0, .int .i64 0, .int .i64 0, .int .i64 0] 28 := At.set ts3 4 (.int .i64 0) (by simp)
  have tc5 : (((((w1.setCell ⟨BR, 0, none⟩ (.int .i64 0)).setCell ⟨BR, 1, none⟩ (.bool false)).setCell ⟨BR, 2, none⟩ (.int .i64 0)).setCell ⟨BR, 3, none⟩ (.int .i64 0)).setCell ⟨BR, 4, none⟩ (.int .i64 0)).cell? ⟨BR, 5, none⟩ = some (.int .i64 0) := ts4.cell 5 rfl
  have tf5 : (((((w1.setCell ⟨BR, 0, none⟩ (.int .i64 0)).setCell ⟨BR, 1, none⟩ (.bool false)).setCell ⟨BR, 2, none⟩ (.int .i64 0)).setCell ⟨BR, 3, none⟩ (.int .i64 0)).setCell ⟨BR, 4, none⟩ (.int .i64 0)).frozen? ⟨BR, 5, none⟩ = false := At.free ts4 5
  have ts5 : At ((((((w1.setCell ⟨BR, 0, none⟩ (.int .i64 0)).setCell ⟨BR, 1, none⟩ (.bool false)).setCell ⟨BR, 2, none⟩ (.int .i64 0)).setCell ⟨BR, 3, none⟩ (.int .i64 0)).setCell ⟨BR, 4, none⟩ (.int .i64 0)).setCell ⟨BR, 5, none⟩ (.int .i64 0)) BR #[.int .i64 0, .bool false, .int .i64 0, .int .i64 0, .int .i64 0, .int .i64 0] 28 := At.set ts4 5 (.int .i64 0) (by simp)
  have hbH : Below w.heap.size w ((((((w1.setCell ⟨BR, 0, none⟩ (.int .i64 0)).setCell ⟨BR, 1, none⟩ (.bool false)).setCell ⟨BR, 2, none⟩ (.int .i64 0)).setCell ⟨BR, 3, none⟩ (.int .i64 0)).setCell ⟨BR, 4, none⟩ (.int .i64 0)).setCell ⟨BR, 5, none⟩ (.int .i64 0)) := ((((((hb0.setCell (p := ⟨BR, 0, none⟩) (by show w.heap.size ≤ BR; omega) (.int .i64 0)).setCell (p := ⟨BR, 1, none⟩) (by show w.heap.size ≤ BR; omega) (.bool false)).setCell (p := ⟨BR, 2, none⟩) (by show w.heap.size ≤ BR; omega) (.int .i64 0)).setCell (p := ⟨BR, 3, none⟩) (by show w.heap.size ≤ BR; omega) (.int .i64 0)).setCell (p := ⟨BR, 4, none⟩) (by show w.heap.size ≤ BR; omega) (.int .i64 0)).setCell (p := ⟨BR, 5, none⟩) (by show w.heap.size ≤ BR; omega) (.int .i64 0))
  have g0 : ((((((w1.setCell ⟨BR, 0, none⟩ (.int .i64 0)).setCell ⟨BR, 1, none⟩ (.bool false)).setCell ⟨BR, 2, none⟩ (.int .i64 0)).setCell ⟨BR, 3, none⟩ (.int .i64 0)).setCell ⟨BR, 4, none⟩ (.int .i64 0)).setCell ⟨BR, 5, none⟩ (.int .i64 0)).cell? ⟨BR, 0, none⟩ = some (.int .i64 0) := ts5.cell 0 rfl
  have g1 : ((((((w1.setCell ⟨BR, 0, none⟩ (.int .i64 0)).setCell ⟨BR, 1, none⟩ (.bool false)).setCell ⟨BR, 2, none⟩ (.int .i64 0)).setCell ⟨BR, 3, none⟩ (.int .i64 0)).setCell ⟨BR, 4, none⟩ (.int .i64 0)).setCell ⟨BR, 5, none⟩ (.int .i64 0)).cell? ⟨BR, 1, none⟩ = some (.bool false) := ts5.cell 1 rfl
  have g2 : ((((((w1.setCell ⟨BR, 0, none⟩ (.int .i64 0)).setCell ⟨BR, 1, none⟩ (.bool false)).setCell ⟨BR, 2, none⟩ (.int .i64 0)).setCell ⟨BR, 3, none⟩ (.int .i64 0)).setCell ⟨BR, 4, none⟩ (.int .i64 0)).setCell ⟨BR, 5, none⟩ (.int .i64 0)).cell? ⟨BR, 2, none⟩ = some (.int .i64 0) := ts5.cell 2 rfl
  have g3 : ((((((w1.setCell ⟨BR, 0, none⟩ (.int .i64 0)).setCell ⟨BR, 1, none⟩ (.bool false)).setCell ⟨BR, 2, none⟩ (.int .i64 0)).setCell ⟨BR, 3, none⟩ (.int .i64 0)).setCell ⟨BR, 4, none⟩ (.int .i64 0)).setCell ⟨BR, 5, none⟩ (.int .i64 0)).cell? ⟨BR, 3, none⟩ = some (.int .i64 0) := ts5.cell 3 rfl
  have g4 : ((((((w1.setCell ⟨BR, 0, none⟩ (.int .i64 0)).setCell ⟨BR, 1, none⟩ (.bool false)).setCell ⟨BR, 2, none⟩ (.int .i64 0)).setCell ⟨BR, 3, none⟩ (.int .i64 0)).setCell ⟨BR, 4, none⟩ (.int .i64 0)).setCell ⟨BR, 5, none⟩ (.int .i64 0)).cell? ⟨BR, 4, none⟩ = some (.int .i64 0) := ts5.cell 4 rfl
  have g5 : ((((((w1.setCell ⟨BR, 0, none⟩ (.int .i64 0)).setCell ⟨BR, 1, none⟩ (.bool false)).setCell ⟨BR, 2, none⟩ (.int .i64 0)).setCell ⟨BR, 3, none⟩ (.int .i64 0)).setCell ⟨BR, 4, none⟩ (.int .i64 0)).setCell ⟨BR, 5, none⟩ (.int .i64 0)).cell? ⟨BR, 5, none⟩ = some (.int .i64 0) := ts5.cell 5 rfl
  clear ts0 ts1 ts2 ts3 ts4 ts5
  clear dR hb0
  go_wp2_with fail
  exact bodyPost_ret (v := .tuple #[valV 0 false 0 0 0 0, .int .i64 1]) (by simp [results, Tryz.results5, go_sem, g0, g1, g2, g3, g4, g5]) rfl ⟨rfl, hbH⟩
end Go.Proofs.YtdbbfcnblgokpaaGreatDoor
