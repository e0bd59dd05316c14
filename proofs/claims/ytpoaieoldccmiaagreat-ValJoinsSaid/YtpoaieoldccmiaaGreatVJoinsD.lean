/- ValJoins: the last question of a round. -/
import Derived.Test.YtpoaieoldccmiaaGreatVJoinsE
namespace Go.Proofs.YtpoaieoldccmiaaGreat
open Go.ChangeShapes Go.WideShapes Go.ChangeAt Go.RowKit Go.Joins Go.Deep
set_option linter.unusedVariables false

set_option maxRecDepth 1000000 in
set_option maxHeartbeats 6400000 in
theorem cut35 (K : Nat) (no : Bool) (l h f b : Nat) (no2 : Bool) (l2 h2 f2 b2 : Nat) (yno : Bool) (yl yh yf yb : Nat) (okA : ValOk K no l h f b) (okB : ValOk K no2 l2 h2 f2 b2) (okY : ValOk K yno yl yh yf yb) (Bp BA BB BY BL i q : Nat) (isn : Bool) (x1 : Int) (is1 n1 n2 : Bool) (TT : Nat) (hT : TT + 1 = 2 ^ K) (wM : World)
    (HIN' : isn = true ↔ ∀ z, MemV K no l h f b z → MemV K no2 l2 h2 f2 b2 z) (YNONE' : (∀ z, ¬ (MemV K no l h f b z ∧ MemV K no2 l2 h2 f2 b2 z)) → ∀ z, ¬ MemV K yno yl yh yf yb z) (hx1 : OnlyRes (MemV K no l h f b) x1 is1) (g1 : n1 = true ↔ ∀ z, ¬ MemV K no l h f b z) (g2 : n2 = true ↔ ∀ z, ¬ MemV K no2 l2 h2 f2 b2 z)
    (dA : At wM BA #[.int .i64 K, .bool no, .int .i64 l, .int .i64 h, .int .i64 f, .int .i64 b] 28) (dB : At wM BB #[.int .i64 K, .bool no2, .int .i64 l2, .int .i64 h2, .int .i64 f2, .int .i64 b2] 28) (dY : At wM BY #[.int .i64 K, .bool yno, .int .i64 yl, .int .i64 yh, .int .i64 yf, .int .i64 yb] 28) (dL : At wM BL #[.int .i64 K, .bool false, .int .i64 0, .int .i64 TT, .int .i64 TT, .int .i64 0] 28)
    (t : Array Value) (f0 : t.size = 296) (f1 : sl t 1 = .pointer (some ⟨Bp, 0, none⟩)) (f3 : sl t 3 = .int .i64 (i : Nat)) (f4 : sl t 4 = .int .i64 (q : Nat)) (f5 : sl t 5 = .pointer (some ⟨BA, 0, none⟩)) (f6 : sl t 6 = .pointer (some ⟨BB, 0, none⟩)) (f9 : sl t 9 = .pointer (some ⟨BY, 0, none⟩)) (f11 : sl t 11 = .bool isn) (f16 : sl t 16 = .int .i64 x1) (f17 : sl t 17 = .bool is1) (f20 : sl t 20 = .bool n1) (f21 : sl t 21 = .bool n2) (f24 : sl t 24 = .pointer (some ⟨BL, 0, none⟩)) (f25 : sl t 25 = .int .i64 0)
    (Q : Exit → Act → World → Prop) (hQ : ∀ t w', t.size = 296 → sl t 1 = .pointer (some ⟨Bp, 0, none⟩) → sl t 3 = .int .i64 (i : Nat) → sl t 4 = .int .i64 (q : Nat) → sl t 294 = .bool false → Below wM.heap.size wM w' → Q .normal ⟨t, []⟩ w') :
    (reg 35).wp Tryz.prog (NoPanic Q) ⟨t, []⟩ wM := by
  have HIN := Lib.hid HIN'
  have YNONE := Lib.hid YNONE'
  rw [open_frame t f0]
  simp only [f1, f3, f4, f5, f6, f9, f11, f16, f17, f20, f21, f24, f25]
  clear f0 f1 f3 f4 f5 f6 f9 f11 f16 f17 f20 f21 f24 f25 HIN' YNONE'
  conv => arg 2; whnf
  have hbM := Below.refl wM.heap.size wM
  have j1 : n1 = true → isn = true := fun h => HIN.out.2 (fun z hz => absurd hz (g1.1 h z))
  have jY : (n1 = true ∨ n2 = true) → ∀ z, ¬ MemV K yno yl yh yf yb z := fun h => YNONE.out (fun z hz => h.elim (fun h => g1.1 h z hz.1) (fun h => g2.1 h z hz.2))
  obtain ⟨eAB, hAB⟩ : ∃ o, o = eqV K no l h f b K no2 l2 h2 f2 b2 := ⟨_, rfl⟩
  obtain ⟨eBL, hBL'⟩ : ∃ o, o = eqV K no2 l2 h2 f2 b2 K false 0 TT TT 0 := ⟨_, rfl⟩
  have j2 : eAB = true → isn = true := fun e => HIN.out.2 (by
    rw [hAB] at e
    obtain ⟨_, e2, e3, e4, e5, e6⟩ := eqV_iff e
    have e3 : l = l2 := by omega
    have e4 : h = h2 := by omega
    have e5 : f = f2 := by omega
    have e6 : b = b2 := by omega
    rw [e2, e3, e4, e5, e6]
    exact fun z hz => hz)
  have j3 : eBL = true → isn = true := fun e => HIN.out.2 (by
    rw [hBL'] at e
    obtain ⟨_, e2, e3, e4, e5, e6⟩ := eqV_iff e
    have e3 : l2 = 0 := by omega
    have e4 : h2 = TT := by omega
    have e5 : f2 = TT := by omega
    have e6 : b2 = 0 := by omega
    rw [e2, e3, e4, e5, e6]
    exact fun z hz => mem_all hT hz.2.lt)
  have cAB : ∀ w, (binOp .eql 28 (.agg #[.int .i64 K, .bool no, .int .i64 l, .int .i64 h, .int .i64 f, .int .i64 b]) (.agg #[.int .i64 K, .bool no2, .int .i64 l2, .int .i64 h2, .int .i64 f2, .int .i64 b2])).run Tryz.prog w = .ok (.bool eAB) w := fun w => by rw [hAB]; exact eql_val _ _ _ _ _ _ _ _ _ _ _ _ w
  have cBL : ∀ w, (binOp .eql 28 (.agg #[.int .i64 K, .bool no2, .int .i64 l2, .int .i64 h2, .int .i64 f2, .int .i64 b2]) (.agg #[.int .i64 K, .bool false, .int .i64 0, .int .i64 TT, .int .i64 TT, .int .i64 0])).run Tryz.prog w = .ok (.bool eBL) w := fun w => by rw [hBL']; exact eql_val _ _ _ _ _ _ _ _ _ _ _ _ w
  have cNY := fun (hh : n1 = true ∨ n2 = true) w => rNext_f K yno yl yh yf yb okY (-1) (Or.inl ⟨rfl, fun z _ => jY hh z⟩) w
  clear hAB hBL'
  rcases hx1 with ⟨rfl, mm, rfl, hmm⟩ | ⟨rfl, _⟩
  · have hmA : MemV K no l h f b mm := (hmm mm).2 rfl
    have hm2 : mm < 2 ^ K := hmA.2.lt
    have cH := fun w => rHas_b K no2 l2 h2 f2 b2 mm okB hm2 w
    have iH := hasB_iff okB hm2
    obtain ⟨oH, eH⟩ : ∃ o, o = hasB no2 l2 h2 f2 b2 mm := ⟨_, rfl⟩
    rw [← eH] at cH iH
    have j4 : oH = true → isn = true := fun e => HIN.out.2 (fun z hz => by rw [(hmm z).1 hz]; exact iH.1 e)
    clear eH iH hmm hmA jY g1 g2  YNONE HIN okA okB okY
    skip
    cases n1
    · cases n2
      · skip
        cases eAB
        · cases eBL
          · cases oH
            · skip
              clear cNY
              have p0 : wM.cell? ⟨BA, 0, none⟩ = some (.int .i64 K) := dA.cell 0 rfl
              have p1 : wM.cell? ⟨BA, 1, none⟩ = some (.bool no) := dA.cell 1 rfl
              have p2 : wM.cell? ⟨BA, 2, none⟩ = some (.int .i64 l) := dA.cell 2 rfl
              have p3 : wM.cell? ⟨BA, 3, none⟩ = some (.int .i64 h) := dA.cell 3 rfl
              have p4 : wM.cell? ⟨BA, 4, none⟩ = some (.int .i64 f) := dA.cell 4 rfl
              have p5 : wM.cell? ⟨BA, 5, none⟩ = some (.int .i64 b) := dA.cell 5 rfl
              have q0 : wM.cell? ⟨BB, 0, none⟩ = some (.int .i64 K) := dB.cell 0 rfl
              have q1 : wM.cell? ⟨BB, 1, none⟩ = some (.bool no2) := dB.cell 1 rfl
              have q2 : wM.cell? ⟨BB, 2, none⟩ = some (.int .i64 l2) := dB.cell 2 rfl
              have q3 : wM.cell? ⟨BB, 3, none⟩ = some (.int .i64 h2) := dB.cell 3 rfl
              have q4 : wM.cell? ⟨BB, 4, none⟩ = some (.int .i64 f2) := dB.cell 4 rfl
              have q5 : wM.cell? ⟨BB, 5, none⟩ = some (.int .i64 b2) := dB.cell 5 rfl
              have x0 : wM.cell? ⟨BL, 0, none⟩ = some (.int .i64 K) := dL.cell 0 rfl
              have x1 : wM.cell? ⟨BL, 1, none⟩ = some (.bool false) := dL.cell 1 rfl
              have x2 : wM.cell? ⟨BL, 2, none⟩ = some (.int .i64 0) := dL.cell 2 rfl
              have x3 : wM.cell? ⟨BL, 3, none⟩ = some (.int .i64 TT) := dL.cell 3 rfl
              have x4 : wM.cell? ⟨BL, 4, none⟩ = some (.int .i64 TT) := dL.cell 4 rfl
              have x5 : wM.cell? ⟨BL, 5, none⟩ = some (.int .i64 0) := dL.cell 5 rfl
              clear dA dB dY dL
              go_wp2_with ((go_at_call 9; refine (num_any _ _).mono ?_; rintro e w' ⟨rfl, rfl⟩))
              refine (cH _).mono ?_
              rintro e wR ⟨rfl, hbd⟩
              replace hbM := hbM.trans (hbd.mono hbM.size)
              clear hbd cH
              go_wp2_with fail
              exact hQ _ _ rfl rfl rfl rfl rfl hbM
            · obtain rfl := j4 rfl
              clear cNY
              have p0 : wM.cell? ⟨BA, 0, none⟩ = some (.int .i64 K) := dA.cell 0 rfl
              have p1 : wM.cell? ⟨BA, 1, none⟩ = some (.bool no) := dA.cell 1 rfl
              have p2 : wM.cell? ⟨BA, 2, none⟩ = some (.int .i64 l) := dA.cell 2 rfl
              have p3 : wM.cell? ⟨BA, 3, none⟩ = some (.int .i64 h) := dA.cell 3 rfl
              have p4 : wM.cell? ⟨BA, 4, none⟩ = some (.int .i64 f) := dA.cell 4 rfl
              have p5 : wM.cell? ⟨BA, 5, none⟩ = some (.int .i64 b) := dA.cell 5 rfl
              have q0 : wM.cell? ⟨BB, 0, none⟩ = some (.int .i64 K) := dB.cell 0 rfl
              have q1 : wM.cell? ⟨BB, 1, none⟩ = some (.bool no2) := dB.cell 1 rfl
              have q2 : wM.cell? ⟨BB, 2, none⟩ = some (.int .i64 l2) := dB.cell 2 rfl
              have q3 : wM.cell? ⟨BB, 3, none⟩ = some (.int .i64 h2) := dB.cell 3 rfl
              have q4 : wM.cell? ⟨BB, 4, none⟩ = some (.int .i64 f2) := dB.cell 4 rfl
              have q5 : wM.cell? ⟨BB, 5, none⟩ = some (.int .i64 b2) := dB.cell 5 rfl
              have x0 : wM.cell? ⟨BL, 0, none⟩ = some (.int .i64 K) := dL.cell 0 rfl
              have x1 : wM.cell? ⟨BL, 1, none⟩ = some (.bool false) := dL.cell 1 rfl
              have x2 : wM.cell? ⟨BL, 2, none⟩ = some (.int .i64 0) := dL.cell 2 rfl
              have x3 : wM.cell? ⟨BL, 3, none⟩ = some (.int .i64 TT) := dL.cell 3 rfl
              have x4 : wM.cell? ⟨BL, 4, none⟩ = some (.int .i64 TT) := dL.cell 4 rfl
              have x5 : wM.cell? ⟨BL, 5, none⟩ = some (.int .i64 0) := dL.cell 5 rfl
              clear dA dB dY dL
              go_wp2_with ((go_at_call 9; refine (num_any _ _).mono ?_; rintro e w' ⟨rfl, rfl⟩))
              refine (cH _).mono ?_
              rintro e wR ⟨rfl, hbd⟩
              replace hbM := hbM.trans (hbd.mono hbM.size)
              clear hbd cH
              go_wp2_with fail
              exact hQ _ _ rfl rfl rfl rfl rfl hbM
          · obtain rfl := j3 rfl
            clear cNY
            have p0 : wM.cell? ⟨BA, 0, none⟩ = some (.int .i64 K) := dA.cell 0 rfl
            have p1 : wM.cell? ⟨BA, 1, none⟩ = some (.bool no) := dA.cell 1 rfl
            have p2 : wM.cell? ⟨BA, 2, none⟩ = some (.int .i64 l) := dA.cell 2 rfl
            have p3 : wM.cell? ⟨BA, 3, none⟩ = some (.int .i64 h) := dA.cell 3 rfl
            have p4 : wM.cell? ⟨BA, 4, none⟩ = some (.int .i64 f) := dA.cell 4 rfl
            have p5 : wM.cell? ⟨BA, 5, none⟩ = some (.int .i64 b) := dA.cell 5 rfl
            have q0 : wM.cell? ⟨BB, 0, none⟩ = some (.int .i64 K) := dB.cell 0 rfl
            have q1 : wM.cell? ⟨BB, 1, none⟩ = some (.bool no2) := dB.cell 1 rfl
            have q2 : wM.cell? ⟨BB, 2, none⟩ = some (.int .i64 l2) := dB.cell 2 rfl
            have q3 : wM.cell? ⟨BB, 3, none⟩ = some (.int .i64 h2) := dB.cell 3 rfl
            have q4 : wM.cell? ⟨BB, 4, none⟩ = some (.int .i64 f2) := dB.cell 4 rfl
            have q5 : wM.cell? ⟨BB, 5, none⟩ = some (.int .i64 b2) := dB.cell 5 rfl
            have x0 : wM.cell? ⟨BL, 0, none⟩ = some (.int .i64 K) := dL.cell 0 rfl
            have x1 : wM.cell? ⟨BL, 1, none⟩ = some (.bool false) := dL.cell 1 rfl
            have x2 : wM.cell? ⟨BL, 2, none⟩ = some (.int .i64 0) := dL.cell 2 rfl
            have x3 : wM.cell? ⟨BL, 3, none⟩ = some (.int .i64 TT) := dL.cell 3 rfl
            have x4 : wM.cell? ⟨BL, 4, none⟩ = some (.int .i64 TT) := dL.cell 4 rfl
            have x5 : wM.cell? ⟨BL, 5, none⟩ = some (.int .i64 0) := dL.cell 5 rfl
            clear dA dB dY dL
            go_wp2_with ((go_at_call 9; refine (num_any _ _).mono ?_; rintro e w' ⟨rfl, rfl⟩))
            exact hQ _ _ rfl rfl rfl rfl rfl hbM
        · obtain rfl := j2 rfl
          clear cNY
          have p0 : wM.cell? ⟨BA, 0, none⟩ = some (.int .i64 K) := dA.cell 0 rfl
          have p1 : wM.cell? ⟨BA, 1, none⟩ = some (.bool no) := dA.cell 1 rfl
          have p2 : wM.cell? ⟨BA, 2, none⟩ = some (.int .i64 l) := dA.cell 2 rfl
          have p3 : wM.cell? ⟨BA, 3, none⟩ = some (.int .i64 h) := dA.cell 3 rfl
          have p4 : wM.cell? ⟨BA, 4, none⟩ = some (.int .i64 f) := dA.cell 4 rfl
          have p5 : wM.cell? ⟨BA, 5, none⟩ = some (.int .i64 b) := dA.cell 5 rfl
          have q0 : wM.cell? ⟨BB, 0, none⟩ = some (.int .i64 K) := dB.cell 0 rfl
          have q1 : wM.cell? ⟨BB, 1, none⟩ = some (.bool no2) := dB.cell 1 rfl
          have q2 : wM.cell? ⟨BB, 2, none⟩ = some (.int .i64 l2) := dB.cell 2 rfl
          have q3 : wM.cell? ⟨BB, 3, none⟩ = some (.int .i64 h2) := dB.cell 3 rfl
          have q4 : wM.cell? ⟨BB, 4, none⟩ = some (.int .i64 f2) := dB.cell 4 rfl
          have q5 : wM.cell? ⟨BB, 5, none⟩ = some (.int .i64 b2) := dB.cell 5 rfl
          have x0 : wM.cell? ⟨BL, 0, none⟩ = some (.int .i64 K) := dL.cell 0 rfl
          have x1 : wM.cell? ⟨BL, 1, none⟩ = some (.bool false) := dL.cell 1 rfl
          have x2 : wM.cell? ⟨BL, 2, none⟩ = some (.int .i64 0) := dL.cell 2 rfl
          have x3 : wM.cell? ⟨BL, 3, none⟩ = some (.int .i64 TT) := dL.cell 3 rfl
          have x4 : wM.cell? ⟨BL, 4, none⟩ = some (.int .i64 TT) := dL.cell 4 rfl
          have x5 : wM.cell? ⟨BL, 5, none⟩ = some (.int .i64 0) := dL.cell 5 rfl
          clear dA dB dY dL
          go_wp2_with ((go_at_call 9; refine (num_any _ _).mono ?_; rintro e w' ⟨rfl, rfl⟩))
          exact hQ _ _ rfl rfl rfl rfl rfl hbM
      · skip
        cases eAB
        · cases eBL
          · cases oH
            · skip
              have cY := cNY (Or.inr rfl)
              have y0 : wM.cell? ⟨BY, 0, none⟩ = some (.int .i64 K) := dY.cell 0 rfl
              have y1 : wM.cell? ⟨BY, 1, none⟩ = some (.bool yno) := dY.cell 1 rfl
              have y2 : wM.cell? ⟨BY, 2, none⟩ = some (.int .i64 yl) := dY.cell 2 rfl
              have y3 : wM.cell? ⟨BY, 3, none⟩ = some (.int .i64 yh) := dY.cell 3 rfl
              have y4 : wM.cell? ⟨BY, 4, none⟩ = some (.int .i64 yf) := dY.cell 4 rfl
              have y5 : wM.cell? ⟨BY, 5, none⟩ = some (.int .i64 yb) := dY.cell 5 rfl
              clear cNY
              go_wp2_with ((go_at_call 9; refine (num_any _ _).mono ?_; rintro e w' ⟨rfl, rfl⟩))
              refine (cY _).mono ?_
              rintro e wQ ⟨rfl, hbc⟩
              replace dA := At.below' hbc dA
              replace dB := At.below' hbc dB
              replace dL := At.below' hbc dL
              replace hbM := hbM.trans (hbc.mono hbM.size)
              clear hbc cY y0 y1 y2 y3 y4 y5
              have p0 : wQ.cell? ⟨BA, 0, none⟩ = some (.int .i64 K) := dA.cell 0 rfl
              have p1 : wQ.cell? ⟨BA, 1, none⟩ = some (.bool no) := dA.cell 1 rfl
              have p2 : wQ.cell? ⟨BA, 2, none⟩ = some (.int .i64 l) := dA.cell 2 rfl
              have p3 : wQ.cell? ⟨BA, 3, none⟩ = some (.int .i64 h) := dA.cell 3 rfl
              have p4 : wQ.cell? ⟨BA, 4, none⟩ = some (.int .i64 f) := dA.cell 4 rfl
              have p5 : wQ.cell? ⟨BA, 5, none⟩ = some (.int .i64 b) := dA.cell 5 rfl
              have q0 : wQ.cell? ⟨BB, 0, none⟩ = some (.int .i64 K) := dB.cell 0 rfl
              have q1 : wQ.cell? ⟨BB, 1, none⟩ = some (.bool no2) := dB.cell 1 rfl
              have q2 : wQ.cell? ⟨BB, 2, none⟩ = some (.int .i64 l2) := dB.cell 2 rfl
              have q3 : wQ.cell? ⟨BB, 3, none⟩ = some (.int .i64 h2) := dB.cell 3 rfl
              have q4 : wQ.cell? ⟨BB, 4, none⟩ = some (.int .i64 f2) := dB.cell 4 rfl
              have q5 : wQ.cell? ⟨BB, 5, none⟩ = some (.int .i64 b2) := dB.cell 5 rfl
              have x0 : wQ.cell? ⟨BL, 0, none⟩ = some (.int .i64 K) := dL.cell 0 rfl
              have x1 : wQ.cell? ⟨BL, 1, none⟩ = some (.bool false) := dL.cell 1 rfl
              have x2 : wQ.cell? ⟨BL, 2, none⟩ = some (.int .i64 0) := dL.cell 2 rfl
              have x3 : wQ.cell? ⟨BL, 3, none⟩ = some (.int .i64 TT) := dL.cell 3 rfl
              have x4 : wQ.cell? ⟨BL, 4, none⟩ = some (.int .i64 TT) := dL.cell 4 rfl
              have x5 : wQ.cell? ⟨BL, 5, none⟩ = some (.int .i64 0) := dL.cell 5 rfl
              clear dA dB dY dL
              go_wp2_with fail
              refine (cH _).mono ?_
              rintro e wR ⟨rfl, hbd⟩
              replace hbM := hbM.trans (hbd.mono hbM.size)
              clear hbd cH
              go_wp2_with fail
              exact hQ _ _ rfl rfl rfl rfl rfl hbM
            · obtain rfl := j4 rfl
              have cY := cNY (Or.inr rfl)
              have y0 : wM.cell? ⟨BY, 0, none⟩ = some (.int .i64 K) := dY.cell 0 rfl
              have y1 : wM.cell? ⟨BY, 1, none⟩ = some (.bool yno) := dY.cell 1 rfl
              have y2 : wM.cell? ⟨BY, 2, none⟩ = some (.int .i64 yl) := dY.cell 2 rfl
              have y3 : wM.cell? ⟨BY, 3, none⟩ = some (.int .i64 yh) := dY.cell 3 rfl
              have y4 : wM.cell? ⟨BY, 4, none⟩ = some (.int .i64 yf) := dY.cell 4 rfl
              have y5 : wM.cell? ⟨BY, 5, none⟩ = some (.int .i64 yb) := dY.cell 5 rfl
              clear cNY
              go_wp2_with ((go_at_call 9; refine (num_any _ _).mono ?_; rintro e w' ⟨rfl, rfl⟩))
              refine (cY _).mono ?_
              rintro e wQ ⟨rfl, hbc⟩
              replace dA := At.below' hbc dA
              replace dB := At.below' hbc dB
              replace dL := At.below' hbc dL
              replace hbM := hbM.trans (hbc.mono hbM.size)
              clear hbc cY y0 y1 y2 y3 y4 y5
              have p0 : wQ.cell? ⟨BA, 0, none⟩ = some (.int .i64 K) := dA.cell 0 rfl
              have p1 : wQ.cell? ⟨BA, 1, none⟩ = some (.bool no) := dA.cell 1 rfl
              have p2 : wQ.cell? ⟨BA, 2, none⟩ = some (.int .i64 l) := dA.cell 2 rfl
              have p3 : wQ.cell? ⟨BA, 3, none⟩ = some (.int .i64 h) := dA.cell 3 rfl
              have p4 : wQ.cell? ⟨BA, 4, none⟩ = some (.int .i64 f) := dA.cell 4 rfl
              have p5 : wQ.cell? ⟨BA, 5, none⟩ = some (.int .i64 b) := dA.cell 5 rfl
              have q0 : wQ.cell? ⟨BB, 0, none⟩ = some (.int .i64 K) := dB.cell 0 rfl
              have q1 : wQ.cell? ⟨BB, 1, none⟩ = some (.bool no2) := dB.cell 1 rfl
              have q2 : wQ.cell? ⟨BB, 2, none⟩ = some (.int .i64 l2) := dB.cell 2 rfl
              have q3 : wQ.cell? ⟨BB, 3, none⟩ = some (.int .i64 h2) := dB.cell 3 rfl
              have q4 : wQ.cell? ⟨BB, 4, none⟩ = some (.int .i64 f2) := dB.cell 4 rfl
              have q5 : wQ.cell? ⟨BB, 5, none⟩ = some (.int .i64 b2) := dB.cell 5 rfl
              have x0 : wQ.cell? ⟨BL, 0, none⟩ = some (.int .i64 K) := dL.cell 0 rfl
              have x1 : wQ.cell? ⟨BL, 1, none⟩ = some (.bool false) := dL.cell 1 rfl
              have x2 : wQ.cell? ⟨BL, 2, none⟩ = some (.int .i64 0) := dL.cell 2 rfl
              have x3 : wQ.cell? ⟨BL, 3, none⟩ = some (.int .i64 TT) := dL.cell 3 rfl
              have x4 : wQ.cell? ⟨BL, 4, none⟩ = some (.int .i64 TT) := dL.cell 4 rfl
              have x5 : wQ.cell? ⟨BL, 5, none⟩ = some (.int .i64 0) := dL.cell 5 rfl
              clear dA dB dY dL
              go_wp2_with fail
              refine (cH _).mono ?_
              rintro e wR ⟨rfl, hbd⟩
              replace hbM := hbM.trans (hbd.mono hbM.size)
              clear hbd cH
              go_wp2_with fail
              exact hQ _ _ rfl rfl rfl rfl rfl hbM
          · obtain rfl := j3 rfl
            have cY := cNY (Or.inr rfl)
            have y0 : wM.cell? ⟨BY, 0, none⟩ = some (.int .i64 K) := dY.cell 0 rfl
            have y1 : wM.cell? ⟨BY, 1, none⟩ = some (.bool yno) := dY.cell 1 rfl
            have y2 : wM.cell? ⟨BY, 2, none⟩ = some (.int .i64 yl) := dY.cell 2 rfl
            have y3 : wM.cell? ⟨BY, 3, none⟩ = some (.int .i64 yh) := dY.cell 3 rfl
            have y4 : wM.cell? ⟨BY, 4, none⟩ = some (.int .i64 yf) := dY.cell 4 rfl
            have y5 : wM.cell? ⟨BY, 5, none⟩ = some (.int .i64 yb) := dY.cell 5 rfl
            clear cNY
            go_wp2_with ((go_at_call 9; refine (num_any _ _).mono ?_; rintro e w' ⟨rfl, rfl⟩))
            refine (cY _).mono ?_
            rintro e wQ ⟨rfl, hbc⟩
            replace dA := At.below' hbc dA
            replace dB := At.below' hbc dB
            replace dL := At.below' hbc dL
            replace hbM := hbM.trans (hbc.mono hbM.size)
            clear hbc cY y0 y1 y2 y3 y4 y5
            have p0 : wQ.cell? ⟨BA, 0, none⟩ = some (.int .i64 K) := dA.cell 0 rfl
            have p1 : wQ.cell? ⟨BA, 1, none⟩ = some (.bool no) := dA.cell 1 rfl
            have p2 : wQ.cell? ⟨BA, 2, none⟩ = some (.int .i64 l) := dA.cell 2 rfl
            have p3 : wQ.cell? ⟨BA, 3, none⟩ = some (.int .i64 h) := dA.cell 3 rfl
            have p4 : wQ.cell? ⟨BA, 4, none⟩ = some (.int .i64 f) := dA.cell 4 rfl
            have p5 : wQ.cell? ⟨BA, 5, none⟩ = some (.int .i64 b) := dA.cell 5 rfl
            have q0 : wQ.cell? ⟨BB, 0, none⟩ = some (.int .i64 K) := dB.cell 0 rfl
            have q1 : wQ.cell? ⟨BB, 1, none⟩ = some (.bool no2) := dB.cell 1 rfl
            have q2 : wQ.cell? ⟨BB, 2, none⟩ = some (.int .i64 l2) := dB.cell 2 rfl
            have q3 : wQ.cell? ⟨BB, 3, none⟩ = some (.int .i64 h2) := dB.cell 3 rfl
            have q4 : wQ.cell? ⟨BB, 4, none⟩ = some (.int .i64 f2) := dB.cell 4 rfl
            have q5 : wQ.cell? ⟨BB, 5, none⟩ = some (.int .i64 b2) := dB.cell 5 rfl
            have x0 : wQ.cell? ⟨BL, 0, none⟩ = some (.int .i64 K) := dL.cell 0 rfl
            have x1 : wQ.cell? ⟨BL, 1, none⟩ = some (.bool false) := dL.cell 1 rfl
            have x2 : wQ.cell? ⟨BL, 2, none⟩ = some (.int .i64 0) := dL.cell 2 rfl
            have x3 : wQ.cell? ⟨BL, 3, none⟩ = some (.int .i64 TT) := dL.cell 3 rfl
            have x4 : wQ.cell? ⟨BL, 4, none⟩ = some (.int .i64 TT) := dL.cell 4 rfl
            have x5 : wQ.cell? ⟨BL, 5, none⟩ = some (.int .i64 0) := dL.cell 5 rfl
            clear dA dB dY dL
            go_wp2_with fail
            exact hQ _ _ rfl rfl rfl rfl rfl hbM
        · obtain rfl := j2 rfl
          have cY := cNY (Or.inr rfl)
          have y0 : wM.cell? ⟨BY, 0, none⟩ = some (.int .i64 K) := dY.cell 0 rfl
          have y1 : wM.cell? ⟨BY, 1, none⟩ = some (.bool yno) := dY.cell 1 rfl
          have y2 : wM.cell? ⟨BY, 2, none⟩ = some (.int .i64 yl) := dY.cell 2 rfl
          have y3 : wM.cell? ⟨BY, 3, none⟩ = some (.int .i64 yh) := dY.cell 3 rfl
          have y4 : wM.cell? ⟨BY, 4, none⟩ = some (.int .i64 yf) := dY.cell 4 rfl
          have y5 : wM.cell? ⟨BY, 5, none⟩ = some (.int .i64 yb) := dY.cell 5 rfl
          clear cNY
          go_wp2_with ((go_at_call 9; refine (num_any _ _).mono ?_; rintro e w' ⟨rfl, rfl⟩))
          refine (cY _).mono ?_
          rintro e wQ ⟨rfl, hbc⟩
          replace dA := At.below' hbc dA
          replace dB := At.below' hbc dB
          replace dL := At.below' hbc dL
          replace hbM := hbM.trans (hbc.mono hbM.size)
          clear hbc cY y0 y1 y2 y3 y4 y5
          have p0 : wQ.cell? ⟨BA, 0, none⟩ = some (.int .i64 K) := dA.cell 0 rfl
          have p1 : wQ.cell? ⟨BA, 1, none⟩ = some (.bool no) := dA.cell 1 rfl
          have p2 : wQ.cell? ⟨BA, 2, none⟩ = some (.int .i64 l) := dA.cell 2 rfl
          have p3 : wQ.cell? ⟨BA, 3, none⟩ = some (.int .i64 h) := dA.cell 3 rfl
          have p4 : wQ.cell? ⟨BA, 4, none⟩ = some (.int .i64 f) := dA.cell 4 rfl
          have p5 : wQ.cell? ⟨BA, 5, none⟩ = some (.int .i64 b) := dA.cell 5 rfl
          have q0 : wQ.cell? ⟨BB, 0, none⟩ = some (.int .i64 K) := dB.cell 0 rfl
          have q1 : wQ.cell? ⟨BB, 1, none⟩ = some (.bool no2) := dB.cell 1 rfl
          have q2 : wQ.cell? ⟨BB, 2, none⟩ = some (.int .i64 l2) := dB.cell 2 rfl
          have q3 : wQ.cell? ⟨BB, 3, none⟩ = some (.int .i64 h2) := dB.cell 3 rfl
          have q4 : wQ.cell? ⟨BB, 4, none⟩ = some (.int .i64 f2) := dB.cell 4 rfl
          have q5 : wQ.cell? ⟨BB, 5, none⟩ = some (.int .i64 b2) := dB.cell 5 rfl
          have x0 : wQ.cell? ⟨BL, 0, none⟩ = some (.int .i64 K) := dL.cell 0 rfl
          have x1 : wQ.cell? ⟨BL, 1, none⟩ = some (.bool false) := dL.cell 1 rfl
          have x2 : wQ.cell? ⟨BL, 2, none⟩ = some (.int .i64 0) := dL.cell 2 rfl
          have x3 : wQ.cell? ⟨BL, 3, none⟩ = some (.int .i64 TT) := dL.cell 3 rfl
          have x4 : wQ.cell? ⟨BL, 4, none⟩ = some (.int .i64 TT) := dL.cell 4 rfl
          have x5 : wQ.cell? ⟨BL, 5, none⟩ = some (.int .i64 0) := dL.cell 5 rfl
          clear dA dB dY dL
          go_wp2_with fail
          exact hQ _ _ rfl rfl rfl rfl rfl hbM
    · obtain rfl := j1 rfl
      have cY := cNY (Or.inl rfl)
      have y0 : wM.cell? ⟨BY, 0, none⟩ = some (.int .i64 K) := dY.cell 0 rfl
      have y1 : wM.cell? ⟨BY, 1, none⟩ = some (.bool yno) := dY.cell 1 rfl
      have y2 : wM.cell? ⟨BY, 2, none⟩ = some (.int .i64 yl) := dY.cell 2 rfl
      have y3 : wM.cell? ⟨BY, 3, none⟩ = some (.int .i64 yh) := dY.cell 3 rfl
      have y4 : wM.cell? ⟨BY, 4, none⟩ = some (.int .i64 yf) := dY.cell 4 rfl
      have y5 : wM.cell? ⟨BY, 5, none⟩ = some (.int .i64 yb) := dY.cell 5 rfl
      clear cNY
      go_wp2_with ((go_at_call 9; refine (num_any _ _).mono ?_; rintro e w' ⟨rfl, rfl⟩))
      refine (cY _).mono ?_
      rintro e wQ ⟨rfl, hbc⟩
      replace dA := At.below' hbc dA
      replace dB := At.below' hbc dB
      replace dL := At.below' hbc dL
      replace hbM := hbM.trans (hbc.mono hbM.size)
      clear hbc cY y0 y1 y2 y3 y4 y5
      clear dA dB dY dL
      go_wp2_with fail
      exact hQ _ _ rfl rfl rfl rfl rfl hbM
  · clear jY g1 g2  YNONE HIN okA okB okY
    skip
    cases n1
    · cases n2
      · skip
        cases eAB
        · cases eBL
          · clear cNY
            have p0 : wM.cell? ⟨BA, 0, none⟩ = some (.int .i64 K) := dA.cell 0 rfl
            have p1 : wM.cell? ⟨BA, 1, none⟩ = some (.bool no) := dA.cell 1 rfl
            have p2 : wM.cell? ⟨BA, 2, none⟩ = some (.int .i64 l) := dA.cell 2 rfl
            have p3 : wM.cell? ⟨BA, 3, none⟩ = some (.int .i64 h) := dA.cell 3 rfl
            have p4 : wM.cell? ⟨BA, 4, none⟩ = some (.int .i64 f) := dA.cell 4 rfl
            have p5 : wM.cell? ⟨BA, 5, none⟩ = some (.int .i64 b) := dA.cell 5 rfl
            have q0 : wM.cell? ⟨BB, 0, none⟩ = some (.int .i64 K) := dB.cell 0 rfl
            have q1 : wM.cell? ⟨BB, 1, none⟩ = some (.bool no2) := dB.cell 1 rfl
            have q2 : wM.cell? ⟨BB, 2, none⟩ = some (.int .i64 l2) := dB.cell 2 rfl
            have q3 : wM.cell? ⟨BB, 3, none⟩ = some (.int .i64 h2) := dB.cell 3 rfl
            have q4 : wM.cell? ⟨BB, 4, none⟩ = some (.int .i64 f2) := dB.cell 4 rfl
            have q5 : wM.cell? ⟨BB, 5, none⟩ = some (.int .i64 b2) := dB.cell 5 rfl
            have x0 : wM.cell? ⟨BL, 0, none⟩ = some (.int .i64 K) := dL.cell 0 rfl
            have x1 : wM.cell? ⟨BL, 1, none⟩ = some (.bool false) := dL.cell 1 rfl
            have x2 : wM.cell? ⟨BL, 2, none⟩ = some (.int .i64 0) := dL.cell 2 rfl
            have x3 : wM.cell? ⟨BL, 3, none⟩ = some (.int .i64 TT) := dL.cell 3 rfl
            have x4 : wM.cell? ⟨BL, 4, none⟩ = some (.int .i64 TT) := dL.cell 4 rfl
            have x5 : wM.cell? ⟨BL, 5, none⟩ = some (.int .i64 0) := dL.cell 5 rfl
            clear dA dB dY dL
            go_wp2_with ((go_at_call 9; refine (num_any _ _).mono ?_; rintro e w' ⟨rfl, rfl⟩))
            exact hQ _ _ rfl rfl rfl rfl rfl hbM
          · obtain rfl := j3 rfl
            clear cNY
            have p0 : wM.cell? ⟨BA, 0, none⟩ = some (.int .i64 K) := dA.cell 0 rfl
            have p1 : wM.cell? ⟨BA, 1, none⟩ = some (.bool no) := dA.cell 1 rfl
            have p2 : wM.cell? ⟨BA, 2, none⟩ = some (.int .i64 l) := dA.cell 2 rfl
            have p3 : wM.cell? ⟨BA, 3, none⟩ = some (.int .i64 h) := dA.cell 3 rfl
            have p4 : wM.cell? ⟨BA, 4, none⟩ = some (.int .i64 f) := dA.cell 4 rfl
            have p5 : wM.cell? ⟨BA, 5, none⟩ = some (.int .i64 b) := dA.cell 5 rfl
            have q0 : wM.cell? ⟨BB, 0, none⟩ = some (.int .i64 K) := dB.cell 0 rfl
            have q1 : wM.cell? ⟨BB, 1, none⟩ = some (.bool no2) := dB.cell 1 rfl
            have q2 : wM.cell? ⟨BB, 2, none⟩ = some (.int .i64 l2) := dB.cell 2 rfl
            have q3 : wM.cell? ⟨BB, 3, none⟩ = some (.int .i64 h2) := dB.cell 3 rfl
            have q4 : wM.cell? ⟨BB, 4, none⟩ = some (.int .i64 f2) := dB.cell 4 rfl
            have q5 : wM.cell? ⟨BB, 5, none⟩ = some (.int .i64 b2) := dB.cell 5 rfl
            have x0 : wM.cell? ⟨BL, 0, none⟩ = some (.int .i64 K) := dL.cell 0 rfl
            have x1 : wM.cell? ⟨BL, 1, none⟩ = some (.bool false) := dL.cell 1 rfl
            have x2 : wM.cell? ⟨BL, 2, none⟩ = some (.int .i64 0) := dL.cell 2 rfl
            have x3 : wM.cell? ⟨BL, 3, none⟩ = some (.int .i64 TT) := dL.cell 3 rfl
            have x4 : wM.cell? ⟨BL, 4, none⟩ = some (.int .i64 TT) := dL.cell 4 rfl
            have x5 : wM.cell? ⟨BL, 5, none⟩ = some (.int .i64 0) := dL.cell 5 rfl
            clear dA dB dY dL
            go_wp2_with ((go_at_call 9; refine (num_any _ _).mono ?_; rintro e w' ⟨rfl, rfl⟩))
            exact hQ _ _ rfl rfl rfl rfl rfl hbM
        · obtain rfl := j2 rfl
          clear cNY
          have p0 : wM.cell? ⟨BA, 0, none⟩ = some (.int .i64 K) := dA.cell 0 rfl
          have p1 : wM.cell? ⟨BA, 1, none⟩ = some (.bool no) := dA.cell 1 rfl
          have p2 : wM.cell? ⟨BA, 2, none⟩ = some (.int .i64 l) := dA.cell 2 rfl
          have p3 : wM.cell? ⟨BA, 3, none⟩ = some (.int .i64 h) := dA.cell 3 rfl
          have p4 : wM.cell? ⟨BA, 4, none⟩ = some (.int .i64 f) := dA.cell 4 rfl
          have p5 : wM.cell? ⟨BA, 5, none⟩ = some (.int .i64 b) := dA.cell 5 rfl
          have q0 : wM.cell? ⟨BB, 0, none⟩ = some (.int .i64 K) := dB.cell 0 rfl
          have q1 : wM.cell? ⟨BB, 1, none⟩ = some (.bool no2) := dB.cell 1 rfl
          have q2 : wM.cell? ⟨BB, 2, none⟩ = some (.int .i64 l2) := dB.cell 2 rfl
          have q3 : wM.cell? ⟨BB, 3, none⟩ = some (.int .i64 h2) := dB.cell 3 rfl
          have q4 : wM.cell? ⟨BB, 4, none⟩ = some (.int .i64 f2) := dB.cell 4 rfl
          have q5 : wM.cell? ⟨BB, 5, none⟩ = some (.int .i64 b2) := dB.cell 5 rfl
          have x0 : wM.cell? ⟨BL, 0, none⟩ = some (.int .i64 K) := dL.cell 0 rfl
          have x1 : wM.cell? ⟨BL, 1, none⟩ = some (.bool false) := dL.cell 1 rfl
          have x2 : wM.cell? ⟨BL, 2, none⟩ = some (.int .i64 0) := dL.cell 2 rfl
          have x3 : wM.cell? ⟨BL, 3, none⟩ = some (.int .i64 TT) := dL.cell 3 rfl
          have x4 : wM.cell? ⟨BL, 4, none⟩ = some (.int .i64 TT) := dL.cell 4 rfl
          have x5 : wM.cell? ⟨BL, 5, none⟩ = some (.int .i64 0) := dL.cell 5 rfl
          clear dA dB dY dL
          go_wp2_with ((go_at_call 9; refine (num_any _ _).mono ?_; rintro e w' ⟨rfl, rfl⟩))
          exact hQ _ _ rfl rfl rfl rfl rfl hbM
      · skip
        cases eAB
        · cases eBL
          · have cY := cNY (Or.inr rfl)
            have y0 : wM.cell? ⟨BY, 0, none⟩ = some (.int .i64 K) := dY.cell 0 rfl
            have y1 : wM.cell? ⟨BY, 1, none⟩ = some (.bool yno) := dY.cell 1 rfl
            have y2 : wM.cell? ⟨BY, 2, none⟩ = some (.int .i64 yl) := dY.cell 2 rfl
            have y3 : wM.cell? ⟨BY, 3, none⟩ = some (.int .i64 yh) := dY.cell 3 rfl
            have y4 : wM.cell? ⟨BY, 4, none⟩ = some (.int .i64 yf) := dY.cell 4 rfl
            have y5 : wM.cell? ⟨BY, 5, none⟩ = some (.int .i64 yb) := dY.cell 5 rfl
            clear cNY
            go_wp2_with ((go_at_call 9; refine (num_any _ _).mono ?_; rintro e w' ⟨rfl, rfl⟩))
            refine (cY _).mono ?_
            rintro e wQ ⟨rfl, hbc⟩
            replace dA := At.below' hbc dA
            replace dB := At.below' hbc dB
            replace dL := At.below' hbc dL
            replace hbM := hbM.trans (hbc.mono hbM.size)
            clear hbc cY y0 y1 y2 y3 y4 y5
            have p0 : wQ.cell? ⟨BA, 0, none⟩ = some (.int .i64 K) := dA.cell 0 rfl
            have p1 : wQ.cell? ⟨BA, 1, none⟩ = some (.bool no) := dA.cell 1 rfl
            have p2 : wQ.cell? ⟨BA, 2, none⟩ = some (.int .i64 l) := dA.cell 2 rfl
            have p3 : wQ.cell? ⟨BA, 3, none⟩ = some (.int .i64 h) := dA.cell 3 rfl
            have p4 : wQ.cell? ⟨BA, 4, none⟩ = some (.int .i64 f) := dA.cell 4 rfl
            have p5 : wQ.cell? ⟨BA, 5, none⟩ = some (.int .i64 b) := dA.cell 5 rfl
            have q0 : wQ.cell? ⟨BB, 0, none⟩ = some (.int .i64 K) := dB.cell 0 rfl
            have q1 : wQ.cell? ⟨BB, 1, none⟩ = some (.bool no2) := dB.cell 1 rfl
            have q2 : wQ.cell? ⟨BB, 2, none⟩ = some (.int .i64 l2) := dB.cell 2 rfl
            have q3 : wQ.cell? ⟨BB, 3, none⟩ = some (.int .i64 h2) := dB.cell 3 rfl
            have q4 : wQ.cell? ⟨BB, 4, none⟩ = some (.int .i64 f2) := dB.cell 4 rfl
            have q5 : wQ.cell? ⟨BB, 5, none⟩ = some (.int .i64 b2) := dB.cell 5 rfl
            have x0 : wQ.cell? ⟨BL, 0, none⟩ = some (.int .i64 K) := dL.cell 0 rfl
            have x1 : wQ.cell? ⟨BL, 1, none⟩ = some (.bool false) := dL.cell 1 rfl
            have x2 : wQ.cell? ⟨BL, 2, none⟩ = some (.int .i64 0) := dL.cell 2 rfl
            have x3 : wQ.cell? ⟨BL, 3, none⟩ = some (.int .i64 TT) := dL.cell 3 rfl
            have x4 : wQ.cell? ⟨BL, 4, none⟩ = some (.int .i64 TT) := dL.cell 4 rfl
            have x5 : wQ.cell? ⟨BL, 5, none⟩ = some (.int .i64 0) := dL.cell 5 rfl
            clear dA dB dY dL
            go_wp2_with fail
            exact hQ _ _ rfl rfl rfl rfl rfl hbM
          · obtain rfl := j3 rfl
            have cY := cNY (Or.inr rfl)
            have y0 : wM.cell? ⟨BY, 0, none⟩ = some (.int .i64 K) := dY.cell 0 rfl
            have y1 : wM.cell? ⟨BY, 1, none⟩ = some (.bool yno) := dY.cell 1 rfl
            have y2 : wM.cell? ⟨BY, 2, none⟩ = some (.int .i64 yl) := dY.cell 2 rfl
            have y3 : wM.cell? ⟨BY, 3, none⟩ = some (.int .i64 yh) := dY.cell 3 rfl
            have y4 : wM.cell? ⟨BY, 4, none⟩ = some (.int .i64 yf) := dY.cell 4 rfl
            have y5 : wM.cell? ⟨BY, 5, none⟩ = some (.int .i64 yb) := dY.cell 5 rfl
            clear cNY
            go_wp2_with ((go_at_call 9; refine (num_any _ _).mono ?_; rintro e w' ⟨rfl, rfl⟩))
            refine (cY _).mono ?_
            rintro e wQ ⟨rfl, hbc⟩
            replace dA := At.below' hbc dA
            replace dB := At.below' hbc dB
            replace dL := At.below' hbc dL
            replace hbM := hbM.trans (hbc.mono hbM.size)
            clear hbc cY y0 y1 y2 y3 y4 y5
            have p0 : wQ.cell? ⟨BA, 0, none⟩ = some (.int .i64 K) := dA.cell 0 rfl
            have p1 : wQ.cell? ⟨BA, 1, none⟩ = some (.bool no) := dA.cell 1 rfl
            have p2 : wQ.cell? ⟨BA, 2, none⟩ = some (.int .i64 l) := dA.cell 2 rfl
            have p3 : wQ.cell? ⟨BA, 3, none⟩ = some (.int .i64 h) := dA.cell 3 rfl
            have p4 : wQ.cell? ⟨BA, 4, none⟩ = some (.int .i64 f) := dA.cell 4 rfl
            have p5 : wQ.cell? ⟨BA, 5, none⟩ = some (.int .i64 b) := dA.cell 5 rfl
            have q0 : wQ.cell? ⟨BB, 0, none⟩ = some (.int .i64 K) := dB.cell 0 rfl
            have q1 : wQ.cell? ⟨BB, 1, none⟩ = some (.bool no2) := dB.cell 1 rfl
            have q2 : wQ.cell? ⟨BB, 2, none⟩ = some (.int .i64 l2) := dB.cell 2 rfl
            have q3 : wQ.cell? ⟨BB, 3, none⟩ = some (.int .i64 h2) := dB.cell 3 rfl
            have q4 : wQ.cell? ⟨BB, 4, none⟩ = some (.int .i64 f2) := dB.cell 4 rfl
            have q5 : wQ.cell? ⟨BB, 5, none⟩ = some (.int .i64 b2) := dB.cell 5 rfl
            have x0 : wQ.cell? ⟨BL, 0, none⟩ = some (.int .i64 K) := dL.cell 0 rfl
            have x1 : wQ.cell? ⟨BL, 1, none⟩ = some (.bool false) := dL.cell 1 rfl
            have x2 : wQ.cell? ⟨BL, 2, none⟩ = some (.int .i64 0) := dL.cell 2 rfl
            have x3 : wQ.cell? ⟨BL, 3, none⟩ = some (.int .i64 TT) := dL.cell 3 rfl
            have x4 : wQ.cell? ⟨BL, 4, none⟩ = some (.int .i64 TT) := dL.cell 4 rfl
            have x5 : wQ.cell? ⟨BL, 5, none⟩ = some (.int .i64 0) := dL.cell 5 rfl
            clear dA dB dY dL
            go_wp2_with fail
            exact hQ _ _ rfl rfl rfl rfl rfl hbM
        · obtain rfl := j2 rfl
          have cY := cNY (Or.inr rfl)
          have y0 : wM.cell? ⟨BY, 0, none⟩ = some (.int .i64 K) := dY.cell 0 rfl
          have y1 : wM.cell? ⟨BY, 1, none⟩ = some (.bool yno) := dY.cell 1 rfl
          have y2 : wM.cell? ⟨BY, 2, none⟩ = some (.int .i64 yl) := dY.cell 2 rfl
          have y3 : wM.cell? ⟨BY, 3, none⟩ = some (.int .i64 yh) := dY.cell 3 rfl
          have y4 : wM.cell? ⟨BY, 4, none⟩ = some (.int .i64 yf) := dY.cell 4 rfl
          have y5 : wM.cell? ⟨BY, 5, none⟩ = some (.int .i64 yb) := dY.cell 5 rfl
          clear cNY
          go_wp2_with ((go_at_call 9; refine (num_any _ _).mono ?_; rintro e w' ⟨rfl, rfl⟩))
          refine (cY _).mono ?_
          rintro e wQ ⟨rfl, hbc⟩
          replace dA := At.below' hbc dA
          replace dB := At.below' hbc dB
          replace dL := At.below' hbc dL
          replace hbM := hbM.trans (hbc.mono hbM.size)
          clear hbc cY y0 y1 y2 y3 y4 y5
          have p0 : wQ.cell? ⟨BA, 0, none⟩ = some (.int .i64 K) := dA.cell 0 rfl
          have p1 : wQ.cell? ⟨BA, 1, none⟩ = some (.bool no) := dA.cell 1 rfl
          have p2 : wQ.cell? ⟨BA, 2, none⟩ = some (.int .i64 l) := dA.cell 2 rfl
          have p3 : wQ.cell? ⟨BA, 3, none⟩ = some (.int .i64 h) := dA.cell 3 rfl
          have p4 : wQ.cell? ⟨BA, 4, none⟩ = some (.int .i64 f) := dA.cell 4 rfl
          have p5 : wQ.cell? ⟨BA, 5, none⟩ = some (.int .i64 b) := dA.cell 5 rfl
          have q0 : wQ.cell? ⟨BB, 0, none⟩ = some (.int .i64 K) := dB.cell 0 rfl
          have q1 : wQ.cell? ⟨BB, 1, none⟩ = some (.bool no2) := dB.cell 1 rfl
          have q2 : wQ.cell? ⟨BB, 2, none⟩ = some (.int .i64 l2) := dB.cell 2 rfl
          have q3 : wQ.cell? ⟨BB, 3, none⟩ = some (.int .i64 h2) := dB.cell 3 rfl
          have q4 : wQ.cell? ⟨BB, 4, none⟩ = some (.int .i64 f2) := dB.cell 4 rfl
          have q5 : wQ.cell? ⟨BB, 5, none⟩ = some (.int .i64 b2) := dB.cell 5 rfl
          have x0 : wQ.cell? ⟨BL, 0, none⟩ = some (.int .i64 K) := dL.cell 0 rfl
          have x1 : wQ.cell? ⟨BL, 1, none⟩ = some (.bool false) := dL.cell 1 rfl
          have x2 : wQ.cell? ⟨BL, 2, none⟩ = some (.int .i64 0) := dL.cell 2 rfl
          have x3 : wQ.cell? ⟨BL, 3, none⟩ = some (.int .i64 TT) := dL.cell 3 rfl
          have x4 : wQ.cell? ⟨BL, 4, none⟩ = some (.int .i64 TT) := dL.cell 4 rfl
          have x5 : wQ.cell? ⟨BL, 5, none⟩ = some (.int .i64 0) := dL.cell 5 rfl
          clear dA dB dY dL
          go_wp2_with fail
          exact hQ _ _ rfl rfl rfl rfl rfl hbM
    · obtain rfl := j1 rfl
      have cY := cNY (Or.inl rfl)
      have y0 : wM.cell? ⟨BY, 0, none⟩ = some (.int .i64 K) := dY.cell 0 rfl
      have y1 : wM.cell? ⟨BY, 1, none⟩ = some (.bool yno) := dY.cell 1 rfl
      have y2 : wM.cell? ⟨BY, 2, none⟩ = some (.int .i64 yl) := dY.cell 2 rfl
      have y3 : wM.cell? ⟨BY, 3, none⟩ = some (.int .i64 yh) := dY.cell 3 rfl
      have y4 : wM.cell? ⟨BY, 4, none⟩ = some (.int .i64 yf) := dY.cell 4 rfl
      have y5 : wM.cell? ⟨BY, 5, none⟩ = some (.int .i64 yb) := dY.cell 5 rfl
      clear cNY
      go_wp2_with ((go_at_call 9; refine (num_any _ _).mono ?_; rintro e w' ⟨rfl, rfl⟩))
      refine (cY _).mono ?_
      rintro e wQ ⟨rfl, hbc⟩
      replace dA := At.below' hbc dA
      replace dB := At.below' hbc dB
      replace dL := At.below' hbc dL
      replace hbM := hbM.trans (hbc.mono hbM.size)
      clear hbc cY y0 y1 y2 y3 y4 y5
      clear dA dB dY dL
      go_wp2_with fail
      exact hQ _ _ rfl rfl rfl rfl rfl hbM
end Go.Proofs.YtpoaieoldccmiaaGreat
