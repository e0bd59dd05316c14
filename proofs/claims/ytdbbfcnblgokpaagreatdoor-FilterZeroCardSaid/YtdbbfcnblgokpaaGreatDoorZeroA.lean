/- FilterZero: a round of its second loop. -/
import Derived.Test.YtdbbfcnblgokpaaGreatDoorFZero
import Derived.Test.YtdbbfcnblgokpaaGreatDoorVWake
namespace Go.Proofs.YtdbbfcnblgokpaaGreatDoor
open Go.ChangeShapes Go.WideShapes Go.ChangeAt Go.RowKit Go.Joins Go.Deep
set_option linter.unusedVariables false

def RelZB (Bp BA i : Nat) (w1 : World) (n : Nat) (a : Act) (wr : World) : Prop := ∃ t k z, a = ⟨t, []⟩ ∧ t.size = 123 ∧ sl t 1 = .pointer (some ⟨Bp, 0, none⟩) ∧ sl t 3 = .int .i64 (i : Nat) ∧ sl t 4 = .pointer (some ⟨BA, 0, none⟩) ∧ sl t 5 = .int .i64 z ∧ z = (k : Nat) ∧ k + n = 2 ∧ Below w1.heap.size w1 wr
set_option maxRecDepth 1000000 in
set_option maxHeartbeats 6400000 in
theorem zroundB_no (w1 : World) (Bp BA i : Nat) (hi : i < 12) (ak : Int) (ano : Bool) (al ah af ab : Int) (hm : mayB ak ano al ah af ab = false) (dA0 : At w1 BA #[.int .i64 ak, .bool ano, .int .i64 al, .int .i64 ah, .int .i64 af, .int .i64 ab] 28)
    (Q : Exit → Act → World → Prop) (hQ : ∀ t w', t.size = 123 → sl t 1 = .pointer (some ⟨Bp, 0, none⟩) → sl t 3 = .int .i64 (i : Nat) → Below w1.heap.size w1 w' → Q (.exit 2) ⟨t, []⟩ w')
    (n : Nat) (a : Act) (wr : World) (hR : RelZB Bp BA i w1 n a wr) (J : Nat → Act → World → Prop) (KK : Act → World → Prop) (hJ : ∀ k a' w', RelZB Bp BA i w1 k a' w' → J k a' w') (hK : ∀ a' w', Handed J n a' w' → KK a' w') :
    zbodyB.wp Tryz.prog (Exit.then KK (NoPanic Q)) a wr := by
  obtain ⟨t, k, z, rfl, f0, f1, f3, f4, f5, rfl, hkn, hbr⟩ := hR
  rw [open_123 t f0]
  simp only [f1, f3, f4, f5]
  clear f0 f1 f3 f4 f5
  conv => arg 2; whnf
  have dA := At.below' hbr dA0
  clear dA0
  by_cases hkt : k < 2
  · skip
    have hkt1 : (k : Int) < 2 := by omega
    obtain ⟨y, hy⟩ : ∃ y, y = ((k : Int) == 0) := ⟨_, rfl⟩
    have cZ := fun w => Zero_no ak ano al ah af ab hm y w
    rw [hy] at cZ
    have cV := fun w => rVal_any ak ano al ah af ab w
    rw [hm] at cV
    clear hy
    have p0 : wr.cell? ⟨BA, 0, none⟩ = some (.int .i64 ak) := dA.cell 0 rfl
    have p1 : wr.cell? ⟨BA, 1, none⟩ = some (.bool ano) := dA.cell 1 rfl
    have p2 : wr.cell? ⟨BA, 2, none⟩ = some (.int .i64 al) := dA.cell 2 rfl
    have p3 : wr.cell? ⟨BA, 3, none⟩ = some (.int .i64 ah) := dA.cell 3 rfl
    have p4 : wr.cell? ⟨BA, 4, none⟩ = some (.int .i64 af) := dA.cell 4 rfl
    have p5 : wr.cell? ⟨BA, 5, none⟩ = some (.int .i64 ab) := dA.cell 5 rfl
    go_wp2_with fail
    refine (cZ _).mono ?_
    rintro e w2 ⟨rfl, hb2⟩
    replace dA := At.alloc (At.below' hb2 dA) (.cells #[.int .i64 0, .bool false, .int .i64 0, .int .i64 0, .int .i64 0, .int .i64 0] 28)
    replace hbr := (hbr.trans (hb2.mono hbr.size)).alloc (hbr.trans (hb2.mono hbr.size)).size (.cells #[.int .i64 0, .bool false, .int .i64 0, .int .i64 0, .int .i64 0, .int .i64 0] 28)
    clear hb2 cZ p0 p1 p2 p3 p4 p5
    have p0 : (w2.alloc (.cells #[.int .i64 0, .bool false, .int .i64 0, .int .i64 0, .int .i64 0, .int .i64 0] 28)).cell? ⟨BA, 0, none⟩ = some (.int .i64 ak) := dA.cell 0 rfl
    have p1 : (w2.alloc (.cells #[.int .i64 0, .bool false, .int .i64 0, .int .i64 0, .int .i64 0, .int .i64 0] 28)).cell? ⟨BA, 1, none⟩ = some (.bool ano) := dA.cell 1 rfl
    have p2 : (w2.alloc (.cells #[.int .i64 0, .bool false, .int .i64 0, .int .i64 0, .int .i64 0, .int .i64 0] 28)).cell? ⟨BA, 2, none⟩ = some (.int .i64 al) := dA.cell 2 rfl
    have p3 : (w2.alloc (.cells #[.int .i64 0, .bool false, .int .i64 0, .int .i64 0, .int .i64 0, .int .i64 0] 28)).cell? ⟨BA, 3, none⟩ = some (.int .i64 ah) := dA.cell 3 rfl
    have p4 : (w2.alloc (.cells #[.int .i64 0, .bool false, .int .i64 0, .int .i64 0, .int .i64 0, .int .i64 0] 28)).cell? ⟨BA, 4, none⟩ = some (.int .i64 af) := dA.cell 4 rfl
    have p5 : (w2.alloc (.cells #[.int .i64 0, .bool false, .int .i64 0, .int .i64 0, .int .i64 0, .int .i64 0] 28)).cell? ⟨BA, 5, none⟩ = some (.int .i64 ab) := dA.cell 5 rfl
    go_wp2_with fail
    generalize w2.alloc (.cells #[.int .i64 0, .bool false, .int .i64 0, .int .i64 0, .int .i64 0, .int .i64 0] 28) = w3 at *
    refine (cV _).mono ?_
    rintro e w4 ⟨rfl, hb4⟩
    replace hbr := hbr.trans (hb4.mono hbr.size)
    clear hb4 cV dA p0 p1 p2 p3 p4 p5
    go_wp2_with ((go_at_call 7; refine (num5_any _ _).mono ?_; rintro e w' ⟨rfl, rfl⟩))
    refine Handed.intro (n - 1) (by omega) (hJ _ _ _ ⟨_, k + 1, _, rfl, rfl, rfl, rfl, rfl, rfl, by omega, by omega, hbr⟩)
  · have hkt1 : decide ((k : Int) < 2) = false := by simp; omega
    clear hJ dA
    go_wp2_with fail
    exact hQ _ _ rfl rfl rfl hbr
set_option maxRecDepth 1000000 in
set_option maxHeartbeats 6400000 in
theorem zroundB_yes (w1 : World) (Bp BA i : Nat) (hi : i < 12) (K : Nat) (no : Bool) (l h f b : Nat) (okA : ValOk K no l h f b) (hmA : mayB K no l h f b = true) (dA0 : At w1 BA #[.int .i64 K, .bool no, .int .i64 l, .int .i64 h, .int .i64 f, .int .i64 b] 28)
    (Q : Exit → Act → World → Prop) (hQ : ∀ t w', t.size = 123 → sl t 1 = .pointer (some ⟨Bp, 0, none⟩) → sl t 3 = .int .i64 (i : Nat) → Below w1.heap.size w1 w' → Q (.exit 2) ⟨t, []⟩ w')
    (n : Nat) (a : Act) (wr : World) (hR : RelZB Bp BA i w1 n a wr) (J : Nat → Act → World → Prop) (KK : Act → World → Prop) (hJ : ∀ k a' w', RelZB Bp BA i w1 k a' w' → J k a' w') (hK : ∀ a' w', Handed J n a' w' → KK a' w') :
    zbodyB.wp Tryz.prog (Exit.then KK (NoPanic Q)) a wr := by
  obtain ⟨t, k, z, rfl, f0, f1, f3, f4, f5, rfl, hkn, hbr⟩ := hR
  rw [open_123 t f0]
  simp only [f1, f3, f4, f5]
  clear f0 f1 f3 f4 f5
  conv => arg 2; whnf
  have dA := At.below' hbr dA0
  clear dA0
  by_cases hkt : k < 2
  · skip
    have hkt1 : (k : Int) < 2 := by omega
    have hk : k = 0 ∨ k = 1 := by omega
    have hy : ((k : Int) == 0) = decide (k = 0) := by rcases hk with rfl | rfl <;> rfl
    have cZ := fun w => Zero_yes K no l h f b okA hmA (decide (k = 0)) w
    rw [← hy] at cZ
    have cVA := fun w => rVal_any (K : Int) no (l : Int) (h : Int) (f : Int) (b : Int) w
    rw [hmA] at cVA
    have HY := Lib.hid hy
    clear hy
    have p0 : wr.cell? ⟨BA, 0, none⟩ = some (.int .i64 K) := dA.cell 0 rfl
    have p1 : wr.cell? ⟨BA, 1, none⟩ = some (.bool no) := dA.cell 1 rfl
    have p2 : wr.cell? ⟨BA, 2, none⟩ = some (.int .i64 l) := dA.cell 2 rfl
    have p3 : wr.cell? ⟨BA, 3, none⟩ = some (.int .i64 h) := dA.cell 3 rfl
    have p4 : wr.cell? ⟨BA, 4, none⟩ = some (.int .i64 f) := dA.cell 4 rfl
    have p5 : wr.cell? ⟨BA, 5, none⟩ = some (.int .i64 b) := dA.cell 5 rfl
    go_wp2_with fail
    refine (cZ _).mono ?_
    rintro e w2 ⟨xno, xl, xh, xf, xb, rfl, okX, hmX, hz, hb2⟩
    rw [HY.out] at hz
    have HZ := Lib.hid hz
    replace dA := At.alloc (At.below' hb2 dA) (.cells #[.int .i64 K, .bool xno, .int .i64 xl, .int .i64 xh, .int .i64 xf, .int .i64 xb] 28)
    replace hbr := (hbr.trans (hb2.mono hbr.size)).alloc (hbr.trans (hb2.mono hbr.size)).size (.cells #[.int .i64 K, .bool xno, .int .i64 xl, .int .i64 xh, .int .i64 xf, .int .i64 xb] 28)
    have dX := At.new w2 #[.int .i64 K, .bool xno, .int .i64 xl, .int .i64 xh, .int .i64 xf, .int .i64 xb] 28
    obtain ⟨BX, hBX⟩ : ∃ B, B = w2.heap.size := ⟨_, rfl⟩
    rw [← hBX] at dX
    clear hb2 cZ hz p0 p1 p2 p3 p4 p5
    have p0 : (w2.alloc (.cells #[.int .i64 K, .bool xno, .int .i64 xl, .int .i64 xh, .int .i64 xf, .int .i64 xb] 28)).cell? ⟨BA, 0, none⟩ = some (.int .i64 K) := dA.cell 0 rfl
    have p1 : (w2.alloc (.cells #[.int .i64 K, .bool xno, .int .i64 xl, .int .i64 xh, .int .i64 xf, .int .i64 xb] 28)).cell? ⟨BA, 1, none⟩ = some (.bool no) := dA.cell 1 rfl
    have p2 : (w2.alloc (.cells #[.int .i64 K, .bool xno, .int .i64 xl, .int .i64 xh, .int .i64 xf, .int .i64 xb] 28)).cell? ⟨BA, 2, none⟩ = some (.int .i64 l) := dA.cell 2 rfl
    have p3 : (w2.alloc (.cells #[.int .i64 K, .bool xno, .int .i64 xl, .int .i64 xh, .int .i64 xf, .int .i64 xb] 28)).cell? ⟨BA, 3, none⟩ = some (.int .i64 h) := dA.cell 3 rfl
    have p4 : (w2.alloc (.cells #[.int .i64 K, .bool xno, .int .i64 xl, .int .i64 xh, .int .i64 xf, .int .i64 xb] 28)).cell? ⟨BA, 4, none⟩ = some (.int .i64 f) := dA.cell 4 rfl
    have p5 : (w2.alloc (.cells #[.int .i64 K, .bool xno, .int .i64 xl, .int .i64 xh, .int .i64 xf, .int .i64 xb] 28)).cell? ⟨BA, 5, none⟩ = some (.int .i64 b) := dA.cell 5 rfl
    go_wp2_with fail
    rw [← hBX]
    clear hBX
    generalize w2.alloc (.cells #[.int .i64 K, .bool xno, .int .i64 xl, .int .i64 xh, .int .i64 xf, .int .i64 xb] 28) = w3 at *
    refine (cVA _).mono ?_
    rintro e w4 ⟨rfl, hb4⟩
    replace dA := At.below' hb4 dA
    replace dX := At.below' hb4 dX
    replace hbr := hbr.trans (hb4.mono hbr.size)
    clear hb4
    clear cVA p0 p1 p2 p3 p4 p5
    have cVX := fun w => rVal_any (K : Int) xno (xl : Int) (xh : Int) (xf : Int) (xb : Int) w
    rw [hmX] at cVX
    have x0 : w4.cell? ⟨BX, 0, none⟩ = some (.int .i64 K) := dX.cell 0 rfl
    have x1 : w4.cell? ⟨BX, 1, none⟩ = some (.bool xno) := dX.cell 1 rfl
    have x2 : w4.cell? ⟨BX, 2, none⟩ = some (.int .i64 xl) := dX.cell 2 rfl
    have x3 : w4.cell? ⟨BX, 3, none⟩ = some (.int .i64 xh) := dX.cell 3 rfl
    have x4 : w4.cell? ⟨BX, 4, none⟩ = some (.int .i64 xf) := dX.cell 4 rfl
    have x5 : w4.cell? ⟨BX, 5, none⟩ = some (.int .i64 xb) := dX.cell 5 rfl
    go_wp2_with ((go_at_call 7; refine (num5_any _ _).mono ?_; rintro e w' ⟨rfl, rfl⟩))
    refine (cVX _).mono ?_
    rintro e w5 ⟨rfl, hb5⟩
    replace dA := At.below' hb5 dA
    replace dX := At.below' hb5 dX
    replace hbr := hbr.trans (hb5.mono hbr.size)
    clear hb5
    clear cVX x0 x1 x2 x3 x4 x5
    have hsub : ∀ z, MemV K xno xl xh xf xb z → MemV K no l h f b z := by
      intro z hz
      rcases hk with rfl | rfl
      · exact ((HZ.out.1 rfl z).1 hz).2
      · exact (HZ.out.2 rfl).2.1 z hz
    have cW := fun w => lawWithin_any K xno xl xh xf xb no l h f b okX okA (i : Int) w
    have HS := Lib.hid hsub
    clear hsub
    have x0 : w5.cell? ⟨BX, 0, none⟩ = some (.int .i64 K) := dX.cell 0 rfl
    have x1 : w5.cell? ⟨BX, 1, none⟩ = some (.bool xno) := dX.cell 1 rfl
    have x2 : w5.cell? ⟨BX, 2, none⟩ = some (.int .i64 xl) := dX.cell 2 rfl
    have x3 : w5.cell? ⟨BX, 3, none⟩ = some (.int .i64 xh) := dX.cell 3 rfl
    have x4 : w5.cell? ⟨BX, 4, none⟩ = some (.int .i64 xf) := dX.cell 4 rfl
    have x5 : w5.cell? ⟨BX, 5, none⟩ = some (.int .i64 xb) := dX.cell 5 rfl
    have p0 : w5.cell? ⟨BA, 0, none⟩ = some (.int .i64 K) := dA.cell 0 rfl
    have p1 : w5.cell? ⟨BA, 1, none⟩ = some (.bool no) := dA.cell 1 rfl
    have p2 : w5.cell? ⟨BA, 2, none⟩ = some (.int .i64 l) := dA.cell 2 rfl
    have p3 : w5.cell? ⟨BA, 3, none⟩ = some (.int .i64 h) := dA.cell 3 rfl
    have p4 : w5.cell? ⟨BA, 4, none⟩ = some (.int .i64 f) := dA.cell 4 rfl
    have p5 : w5.cell? ⟨BA, 5, none⟩ = some (.int .i64 b) := dA.cell 5 rfl
    go_wp2_with fail
    refine (cW _).mono ?_
    rintro e w6 ⟨is, rfl, his, hb6⟩
    obtain rfl := his HS.out
    replace dA := At.below' hb6 dA
    replace dX := At.below' hb6 dX
    replace hbr := hbr.trans (hb6.mono hbr.size)
    clear hb6
    clear his cW x0 p0 x1 p1 x2 p2 x3 p3 x4 p4 x5 p5
    have cS := fun w => some_30 K no l h f b okA (i : Int) w
    have p0 : w6.cell? ⟨BA, 0, none⟩ = some (.int .i64 K) := dA.cell 0 rfl
    have p1 : w6.cell? ⟨BA, 1, none⟩ = some (.bool no) := dA.cell 1 rfl
    have p2 : w6.cell? ⟨BA, 2, none⟩ = some (.int .i64 l) := dA.cell 2 rfl
    have p3 : w6.cell? ⟨BA, 3, none⟩ = some (.int .i64 h) := dA.cell 3 rfl
    have p4 : w6.cell? ⟨BA, 4, none⟩ = some (.int .i64 f) := dA.cell 4 rfl
    have p5 : w6.cell? ⟨BA, 5, none⟩ = some (.int .i64 b) := dA.cell 5 rfl
    go_wp2_with fail
    refine (cS _).mono ?_
    rintro e w7 ⟨zz, p, cap, rfl, hI, hM, _, hlen, hb7⟩
    replace dA := At.below' hb7 dA
    replace dX := At.below' hb7 dX
    replace hbr := hbr.trans (hb7.mono hbr.size)
    clear hb7
    obtain ⟨m, hm⟩ : ∃ m, m = zz.length := ⟨_, rfl⟩
    rw [← hm] at hlen ⊢
    have HM := Lib.hid hm
    clear cS hm p0 p1 p2 p3 p4 p5
    have hXX : ∀ z, MemV K no l h f b z → (z = 0 ↔ k = 0) → MemV K xno xl xh xf xb z := by
      intro z hz hzk
      rcases hk with rfl | rfl
      · exact (HZ.out.1 rfl z).2 ⟨hzk.2 rfl, hz⟩
      · exact (HZ.out.2 rfl).1 z hz (fun h0 => by have := hzk.1 h0; omega)
    have HXX := Lib.hid hXX
    clear hXX
    go_wp2_with fail
    refine noPanic_mono (zloopC K no l h f b xno xl xh xf xb okX Bp BA BX i k hk m p cap zz HM.out hlen w7 hI hM HXX.out dX _ ⟨rfl, rfl, rfl, rfl, rfl, rfl, rfl⟩ rfl _ ?_)
    clear hI hM HM HXX
    intro t2 w8 hF hb8
    obtain ⟨f0, f1, f3, f4, f5, f6, f8⟩ := hF
    rw [open_123 t2 f0]
    simp only [f1, f3, f4, f5, f6, f8]
    clear f0 f1 f3 f4 f5 f6 f8
    replace dA := At.below' hb8 dA
    replace dX := At.below' hb8 dX
    replace hbr := hbr.trans (hb8.mono hbr.size)
    clear hb8
    go_upto_region 24 with (fail)
    refine noPanic_mono (zcut24 K no l h f b xno xl xh xf xb okA okX Bp BA BX i k hk HZ.out w8 dA dX _ rfl rfl rfl rfl rfl rfl _ ?_)
    clear dA dX HZ HS
    intro t3 w9 f0 f1 f3 f4 f5 f121 hb9
    rw [open_123 t3 f0]
    simp only [f1, f3, f4, f5, f121]
    clear f0 f1 f3 f4 f5 f121
    replace hbr := hbr.trans (hb9.mono hbr.size)
    clear hb9
    go_wp2_with fail
    refine Handed.intro (n - 1) (by omega) (hJ _ _ _ ⟨_, k + 1, _, rfl, rfl, rfl, rfl, rfl, rfl, by omega, by omega, hbr⟩)
  · have hkt1 : decide ((k : Int) < 2) = false := by simp; omega
    clear hJ dA
    go_wp2_with fail
    exact hQ _ _ rfl rfl rfl hbr
end Go.Proofs.YtdbbfcnblgokpaaGreatDoor

/- FilterZero: its walk. -/
namespace Go.Proofs.YtdbbfcnblgokpaaGreatDoor
open Go.ChangeShapes Go.WideShapes Go.ChangeAt Go.RowKit Go.Joins Go.Deep
set_option linter.unusedVariables false

/-- what the law's last question asks -/
def WakesHold : Prop := ∀ w, Calls Tryz.prog 12 #[] w (fun e w' => e = .returned (.bool true) ∧ Below w.heap.size w w')
theorem zloopB (w1 : World) (Bp BA i : Nat) (hi : i < 12) (ak : Int) (ano : Bool) (al ah af ab : Int) (dA0 : At w1 BA #[.int .i64 ak, .bool ano, .int .i64 al, .int .i64 ah, .int .i64 af, .int .i64 ab] 28)
    (Q : Exit → Act → World → Prop) (hQ : ∀ t w', t.size = 123 → sl t 1 = .pointer (some ⟨Bp, 0, none⟩) → sl t 3 = .int .i64 (i : Nat) → Below w1.heap.size w1 w' → Q (.exit 2) ⟨t, []⟩ w')
    (t : Array Value) (f0 : t.size = 123) (f1 : sl t 1 = .pointer (some ⟨Bp, 0, none⟩)) (f3 : sl t 3 = .int .i64 (i : Nat)) (f4 : sl t 4 = .pointer (some ⟨BA, 0, none⟩)) (f5 : sl t 5 = .int .i64 0) :
    (Code.loop zbodyB).wp Tryz.prog (NoPanic Q) ⟨t, []⟩ w1 := by
  refine wp_loop_ghost_k (RelZB Bp BA i w1) 2 ⟨t, 0, 0, rfl, f0, f1, f3, f4, f5, rfl, by omega, Below.refl _ _⟩ ?_
  intro n a wr hR J KK hJ hK
  cases hm : mayB ak ano al ah af ab
  · exact zroundB_no w1 Bp BA i hi ak ano al ah af ab hm dA0 Q hQ n a wr hR J KK hJ hK
  · obtain ⟨K, l, h, f, b, rfl, rfl, rfl, rfl, rfl, okA, _⟩ := may_nat hm
    exact zroundB_yes w1 Bp BA i hi K ano l h f b okA hm dA0 Q hQ n a wr hR J KK hJ hK
def RelZA (lv Bp : Nat) (w1 : World) (n : Nat) (a : Act) (wr : World) : Prop := ∃ t i z, a = ⟨t, []⟩ ∧ t.size = 123 ∧ sl t 1 = .pointer (some ⟨Bp, 0, none⟩) ∧ sl t 3 = .int .i64 z ∧ z = (i : Nat) ∧ i + n = lv ∧ Below w1.heap.size w1 wr
set_option maxRecDepth 1000000 in
set_option maxHeartbeats 6400000 in
theorem zloopA (pv : Option Addr) (lv cv : Nat) (vs : List VI) (w w1 : World) (hv : IsVals w pv lv vs) (hlv2 : lv ≤ 100) (Bp : Nat) (pn : Option Addr) (ln cn : Nat) (d0 : At w1 Bp #[.slice pv lv cv, .slice pn ln cn] 25) (hb0 : Below w.heap.size w w1)
    (Q : Exit → Act → World → Prop) (hQ : ∀ t w', t.size = 123 → Below w1.heap.size w1 w' → Q (.exit 0) ⟨t, []⟩ w')
    (t : Array Value) (f0 : t.size = 123) (f1 : sl t 1 = .pointer (some ⟨Bp, 0, none⟩)) (f3 : sl t 3 = .int .i64 0) :
    (Code.loop zbodyA).wp Tryz.prog (NoPanic Q) ⟨t, []⟩ w1 := by
  refine wp_loop_ghost_k (RelZA lv Bp w1) lv ⟨t, 0, 0, rfl, f0, f1, f3, rfl, by omega, Below.refl _ _⟩ ?_
  clear f0 f1 f3
  intro n a wr hR J KK hJ hK
  clear t
  obtain ⟨t, i, z, rfl, f0, f1, f3, rfl, hin, hbr⟩ := hR
  rw [open_123 t f0]
  simp only [f1, f3]
  clear f0 f1 f3
  conv => arg 2; whnf
  have c0 : wr.cell? ⟨Bp, 0, none⟩ = some (.slice pv lv cv) := (d0.below hbr d0.lt).cell 0 rfl
  by_cases hil : i < lv ∧ i < 12
  · obtain ⟨hi1, hi2⟩ := hil
    have hi3 : (i : Int) < (lv : Int) := by omega
    have hi4 : (i : Int) < 12 := by omega
    obtain ⟨hvl, hvc⟩ := hv
    obtain ⟨bq, off, rfl, hbq, hcells⟩ := hvc (by omega)
    have his : i < vs.length := by omega
    have hbx : Below w.heap.size w wr := hb0.trans (hbr.mono hb0.size)
    have hci := (hcells i his).below hbx
    obtain ⟨a, ha⟩ : ∃ v, v = vs[i] := ⟨_, rfl⟩
    rw [← ha] at hci
    obtain ⟨ak, ano, al, ah, af, ab⟩ := a
    obtain ⟨p0, p1, p2, p3, p4, p5⟩ := hci
    dsimp only at p0 p1 p2 p3 p4 p5
    have dA := At.new wr #[.int .i64 ak, .bool ano, .int .i64 al, .int .i64 ah, .int .i64 af, .int .i64 ab] 28
    have hbA := hbr.alloc hbr.size (.cells #[.int .i64 ak, .bool ano, .int .i64 al, .int .i64 ah, .int .i64 af, .int .i64 ab] 28)
    clear hvc hcells hvl ha his hbx hbr
    go_wp2_with fail
    refine noPanic_mono (zloopB _ Bp _ i hi2 ak ano al ah af ab dA _ ?_ _ rfl rfl rfl rfl rfl)
    clear c0 p0 p1 p2 p3 p4 p5 dA
    intro t2 w2 f0 f1 f3 hb2
    rw [open_123 t2 f0]
    simp only [f1, f3]
    have hbB := hbA.trans (hb2.mono hbA.size)
    clear f0 f1 f3 hb2 hbA
    go_wp2_with fail
    refine Handed.intro (n - 1) (by omega) (hJ _ _ _ ⟨_, i + 1, _, rfl, rfl, rfl, rfl, by omega, by omega, hbB⟩)
  · clear hJ
    by_cases hi1 : i < lv
    · have hi3 : (i : Int) < (lv : Int) := by omega
      have hi4 : decide ((i : Int) < 12) = false := by simp; omega
      go_wp2_with fail
      exact hQ _ _ rfl hbr
    · have hi3 : decide ((i : Int) < (lv : Int)) = false := by simp; omega
      go_wp2_with fail
      exact hQ _ _ rfl hbr
set_option maxRecDepth 1000000 in
set_option maxHeartbeats 6400000 in
theorem zero_loop (HW : WakesHold) (pv : Option Addr) (lv cv : Nat) (vs : List VI) (pn : Option Addr) (ln cn : Nat) (zs : List Int) (w : World) (hv : IsVals w pv lv vs) (hn : IsInts w pn ln zs) (hcn : pn = none → cn = 0) :
    Calls Tryz.prog 3 #[.agg #[.slice pv lv cv, .slice pn ln cn]] w fun e w' => e = .returned (.bool true) ∧ Below w.heap.size w w' := by
  have d0 := At.new w #[.slice pv lv cv, .slice pn ln cn] 25
  have hb0 : Below w.heap.size w (w.alloc (.cells #[.slice pv lv cv, .slice pn ln cn] 25)) := (Below.refl _ _).alloc (Nat.le_refl _) _
  have cW := fun w => HW w
  go_enter Tryz.func3, Tryz.ntmps3
  go_wp2_with fail
  refine (heavy_any pv lv cv pn ln cn _).mono ?_
  rintro e w1 ⟨hvy, rfl, hle, hb1⟩
  replace d0 := At.below' hb1 d0
  replace hb0 := hb0.trans (hb1.mono hb0.size)
  clear hb1 hn hcn
  cases hvy
  · obtain ⟨hlv, hln⟩ := hle rfl
    have hlv2 : lv ≤ 100 := by omega
    clear hln hle
    go_wp2_with fail
    refine noPanic_mono (zloopA pv lv cv vs w w1 hv hlv2 w.heap.size pn ln cn d0 hb0 _ ?_ _ rfl rfl rfl)
    intro t w2 f0 hb2
    rw [open_123 t f0]
    have hbO := hb0.trans (hb2.mono hb0.size)
    clear f0 hb2 d0
    go_wp2_with fail
    refine (cW _).mono ?_
    rintro e wZ ⟨rfl, hbZ⟩
    go_wp2_with fail
    go_ret
    exact ⟨rfl, hbO.trans (hbZ.mono hbO.size)⟩
  · clear hle d0
    go_wp2_with fail
    go_ret
    exact ⟨rfl, hb0⟩
end Go.Proofs.YtdbbfcnblgokpaaGreatDoor
