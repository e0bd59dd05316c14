/- ValJoins: what its walk needs: plain facts, frames, loops' bodies. -/
import Derived.Test.YtpoaieoldccmiaaGreatVWake
import Derived.Test.YtpoaieoldccmiaaGreatVOpen
import Derived.Test.YtpoaieoldccmiaaGreatVJoinV
import Derived.Test.YtpoaieoldccmiaaGreatVMeetV
import Derived.Test.YtpoaieoldccmiaaGreatVWithin
import Derived.Test.YtpoaieoldccmiaaGreatVWithinL
import Derived.Test.YtpoaieoldccmiaaGreatVNo
import Derived.Test.YtpoaieoldccmiaaGreatVQuiet
import Derived.Deep.CutRange
import Derived.Laws.StructEq
import Derived.Deep.LoopGhost
import Derived.Deep.RegionHeld3
namespace Go.Proofs.YtpoaieoldccmiaaGreat
open Go.ChangeShapes Go.WideShapes Go.ChangeAt Go.RowKit Go.Joins Go.Deep
set_option linter.unusedVariables false

theorem least_ex (M : Nat → Prop) : ∃ r, LeastM M 0 r := by
  by_cases h : ∃ z, M z
  · obtain ⟨z, hz⟩ := h
    have key : ∀ n z, z < n → M z → ∃ m, M m ∧ ∀ x, M x → m ≤ x := by
      intro n
      induction n with
      | zero => intro z hz; omega
      | succ n ih =>
        intro z hz hM
        by_cases h2 : ∃ y, y < n ∧ M y
        · obtain ⟨y, hy, hMy⟩ := h2
          exact ih y hy hMy
        · refine ⟨z, hM, fun x hx => ?_⟩
          rcases Nat.lt_or_ge x n with h3 | h3
          · exact absurd ⟨x, h3, hx⟩ h2
          · omega
    obtain ⟨m, h1, h2⟩ := key (z + 1) z (by omega) hz
    exact ⟨m, Or.inr ⟨m, rfl, Nat.zero_le _, h1, fun x _ hx => h2 x hx⟩⟩
  · exact ⟨-1, Or.inl ⟨rfl, fun x _ hx => h ⟨x, hx⟩⟩⟩
theorem least_one {M : Nat → Prop} {n : Nat} {r s : Int} (h : LeastM M n r) (g : LeastM M n s) : r = s := by
  rcases h with ⟨rfl, h1⟩ | ⟨m, rfl, h1, h2, h3⟩
  · rcases g with ⟨rfl, _⟩ | ⟨m, rfl, g1, g2, _⟩
    · rfl
    · exact absurd g2 (h1 m g1)
  · rcases g with ⟨rfl, g1⟩ | ⟨m', rfl, g1, g2, g3⟩
    · exact absurd h2 (g1 m h1)
    · have := h3 m' g1 g2
      have := g3 m h1 h2
      omega
theorem none_iff {M : Nat → Prop} {r : Int} (h : LeastM M 0 r) : decide (r < 0) = true ↔ ∀ z, ¬ M z := by
  rw [decide_eq_true_iff]
  rcases h with ⟨rfl, h1⟩ | ⟨m, rfl, h1, h2, h3⟩
  · exact ⟨fun _ z => h1 z (Nat.zero_le _), fun _ => by omega⟩
  · exact ⟨fun h => by omega, fun h => absurd h2 (h m)⟩
theorem rNext_f (k : Nat) (no : Bool) (l h f b : Nat) (ok : ValOk k no l h f b) (r : Int) (hr : LeastM (MemV k no l h f b) 0 r) (w : World) :
    Calls Tryz.prog 14 #[valV k no l h f b, .int .i64 0] w (fun e w' => e = .returned (.int .i64 r) ∧ Below w.heap.size w w') := by
  refine (rNext_v k no l h f b 0 ok (by omega) w).mono ?_
  rintro e w' ⟨r', hr', he, hb⟩
  rw [least_one hr hr']
  exact ⟨he, hb⟩
/-- what the law asks of the single member of the set of both -/
theorem joins_one {A B X : Nat → Prop} {x1 x2 x3 : Int} {is1 is2 is3 n1 n2 : Bool} (h1 : OnlyRes A x1 is1) (h2 : OnlyRes B x2 is2) (h3 : OnlyRes X x3 is3) (g1 : n1 = true ↔ ∀ z, ¬ A z) (g2 : n2 = true ↔ ∀ z, ¬ B z)
    (hX : ∀ m, ((∀ z, A z → B z) ∨ (∀ z, B z → A z)) → (∀ z, A z ∨ B z ↔ z = m) → ∀ z, X z ↔ z = m) (hc : (is1 && is2 && decide (x1 = x2) || is1 && n2 || is2 && n1) = true) : is3 = true ∧ (is1 = true → x3 = x1) ∧ (is2 = true → x3 = x2) := by
  have fin : ∀ m : Nat, (∀ z, X z ↔ z = m) → is3 = true ∧ x3 = m := by
    intro m hm
    rcases h3 with ⟨rfl, m', rfl, h⟩ | ⟨rfl, h⟩
    · have := (h m).1 ((hm m).2 rfl)
      exact ⟨rfl, by omega⟩
    · exact absurd hm (h m)
  rcases h1 with ⟨rfl, m1, rfl, e1⟩ | ⟨rfl, e1⟩
  · rcases h2 with ⟨rfl, m2, rfl, e2⟩ | ⟨rfl, e2⟩
    · have hn1 : n1 = false := by
        cases n1
        · rfl
        · exact absurd ((e1 m1).2 rfl) (g1.1 rfl m1)
      have hn2 : n2 = false := by
        cases n2
        · rfl
        · exact absurd ((e2 m2).2 rfl) (g2.1 rfl m2)
      subst hn1 hn2
      simp at hc
      have hc : m1 = m2 := by omega
      subst hc
      obtain ⟨q1, q2⟩ := fin m1 (hX m1 (Or.inl fun z hz => (e2 z).2 ((e1 z).1 hz)) (fun z => ⟨fun h => h.elim (e1 z).1 (e2 z).1, fun h => Or.inl ((e1 z).2 h)⟩))
      exact ⟨q1, fun _ => q2, fun _ => q2⟩
    · simp at hc
      have hB := g2.1 hc
      obtain ⟨q1, q2⟩ := fin m1 (hX m1 (Or.inr fun z hz => absurd hz (hB z)) (fun z => ⟨fun h => h.elim (e1 z).1 (fun h => absurd h (hB z)), fun h => Or.inl ((e1 z).2 h)⟩))
      exact ⟨q1, fun _ => q2, (fun h => by cases h)⟩
  · rcases h2 with ⟨rfl, m2, rfl, e2⟩ | ⟨rfl, e2⟩
    · simp at hc
      have hA := g1.1 hc
      obtain ⟨q1, q2⟩ := fin m2 (hX m2 (Or.inl fun z hz => absurd hz (hA z)) (fun z => ⟨fun h => h.elim (fun h => absurd h (hA z)) (e2 z).1, fun h => Or.inr ((e2 z).2 h)⟩))
      exact ⟨q1, (fun h => by cases h), fun _ => q2⟩
    · simp at hc
theorem all_numJ {k : Nat} (hk : isWn k) : ∃ T : Nat, T + 1 = 2 ^ k ∧ wrapI (-1) (k : Int) = (T : Int) := by
  rcases hk with rfl | rfl | rfl
  · exact ⟨255, rfl, rfl⟩
  · exact ⟨65535, rfl, rfl⟩
  · exact ⟨4294967295, rfl, rfl⟩
theorem mem_all {k T z : Nat} (hT : T + 1 = 2 ^ k) (hz : z < 2 ^ k) : MemV k false 0 T T 0 z := by
  refine ⟨rfl, hz, fun i hi => ?_, ?_⟩
  · by_cases h : i < k
    · have e : T = 2 ^ k - 1 := by omega
      rw [e, Nat.testBit_two_pow_sub_one] at hi
      simp [h] at hi
    · simp only [Nat.zero_testBit]
      exact Nat.testBit_lt_two_pow (Nat.lt_of_lt_of_le hz (Nat.pow_le_pow_right (by decide) (by omega)))
  · rw [if_pos (Nat.zero_le _)]
    omega
theorem under_val : Tryz.prog.underlying 28 = some (.struct (Tryz.prog.fieldsOf 28)) := by kernel_rfl
theorem held_val : Tryz.prog.stoodInHeld 28 = false := by kernel_rfl
/-- two sets compared, field by field -/
def eqV (k : Int) (no : Bool) (l h f b : Int) (k2 : Int) (no2 : Bool) (l2 h2 f2 b2 : Int) : Bool := k == k2 && no == no2 && l == l2 && h == h2 && f == f2 && b == b2
theorem eql_val (k : Int) (no : Bool) (l h f b : Int) (k2 : Int) (no2 : Bool) (l2 h2 f2 b2 : Int) (w : World) :
    (binOp .eql 28 (valV k no l h f b) (valV k2 no2 l2 h2 f2 b2)).run Tryz.prog w = .ok (.bool (eqV k no l h f b k2 no2 l2 h2 f2 b2)) w := by
  unfold valV eqV
  rw [run_eql_struct, run_equalIn_agg w 9999 28 _ _ under_val held_val]
  simp [Program.fieldsOf, Tryz.underlying28, go_sem]
  by_cases e1 : k = k2 <;> by_cases e2 : no = no2 <;> by_cases e3 : l = l2 <;> by_cases e4 : h = h2 <;> by_cases e5 : f = f2 <;> by_cases e6 : b = b2 <;> simp [e1, e2, e3, e4, e5, e6]
theorem eqV_iff {k : Int} {no : Bool} {l h f b : Int} {k2 : Int} {no2 : Bool} {l2 h2 f2 b2 : Int} (e : eqV k no l h f b k2 no2 l2 h2 f2 b2 = true) : k = k2 ∧ no = no2 ∧ l = l2 ∧ h = h2 ∧ f = f2 ∧ b = b2 := by
  simpa [eqV, and_assoc] using e
/-- a slot of a frame -/
def sl (t : Array Value) (n : Nat) : Value := t.getD n undef
theorem frame_list (t : Array Value) (n : Nat) (h : t.size = n) : t = ((List.range n).map (sl t)).toArray := by
  apply Array.ext
  · simp [h]
  · intro i h1 h2
    simp [sl, h1]
theorem open_frame (t : Array Value) (h : t.size = 296) : t = #[sl t 0, sl t 1, sl t 2, sl t 3, sl t 4, sl t 5, sl t 6, sl t 7, sl t 8, sl t 9, sl t 10, sl t 11, sl t 12, sl t 13, sl t 14, sl t 15, sl t 16, sl t 17, sl t 18, sl t 19, sl t 20, sl t 21, sl t 22, sl t 23, sl t 24, sl t 25, sl t 26, sl t 27, sl t 28, sl t 29, sl t 30, sl t 31, sl t 32, sl t 33, sl t 34, sl t 35, sl t 36, sl t 37, sl t 38, sl t 39, sl t 40, sl t 41, sl t 42, sl t 43, sl t 44, sl t 45, sl t 46, sl t 47, sl t 48, sl t 49, sl t 50, sl t 51, sl t 52, sl t 53, sl t 54, sl t 55, sl t 56, sl t 57, sl t 58, sl t 59, sl t 60, sl t 61, sl t 62, sl t 63, sl t 64, sl t 65, sl t 66, sl t 67, sl t 68, sl t 69, sl t 70, sl t 71, sl t 72, sl t 73, sl t 74, sl t 75, sl t 76, sl t 77, sl t 78, sl t 79, sl t 80, sl t 81, sl t 82, sl t 83, sl t 84, sl t 85, sl t 86, sl t 87, sl t 88, sl t 89, sl t 90, sl t 91, sl t 92, sl t 93, sl t 94, sl t 95, sl t 96, sl t 97, sl t 98, sl t 99, sl t 100, sl t 101, sl t 102, sl t 103, sl t 104, sl t 105, sl t 106, sl t 107, sl t 108, sl t 109, sl t 110, sl t 111, sl t 112, sl t 113, sl t 114, sl t 115, sl t 116, sl t 117, sl t 118, sl t 119, sl t 120, sl t 121, sl t 122, sl t 123, sl t 124, sl t 125, sl t 126, sl t 127, sl t 128, sl t 129, sl t 130, sl t 131, sl t 132, sl t 133, sl t 134, sl t 135, sl t 136, sl t 137, sl t 138, sl t 139, sl t 140, sl t 141, sl t 142, sl t 143, sl t 144, sl t 145, sl t 146, sl t 147, sl t 148, sl t 149, sl t 150, sl t 151, sl t 152, sl t 153, sl t 154, sl t 155, sl t 156, sl t 157, sl t 158, sl t 159, sl t 160, sl t 161, sl t 162, sl t 163, sl t 164, sl t 165, sl t 166, sl t 167, sl t 168, sl t 169, sl t 170, sl t 171, sl t 172, sl t 173, sl t 174, sl t 175, sl t 176, sl t 177, sl t 178, sl t 179, sl t 180, sl t 181, sl t 182, sl t 183, sl t 184, sl t 185, sl t 186, sl t 187, sl t 188, sl t 189, sl t 190, sl t 191, sl t 192, sl t 193, sl t 194, sl t 195, sl t 196, sl t 197, sl t 198, sl t 199, sl t 200, sl t 201, sl t 202, sl t 203, sl t 204, sl t 205, sl t 206, sl t 207, sl t 208, sl t 209, sl t 210, sl t 211, sl t 212, sl t 213, sl t 214, sl t 215, sl t 216, sl t 217, sl t 218, sl t 219, sl t 220, sl t 221, sl t 222, sl t 223, sl t 224, sl t 225, sl t 226, sl t 227, sl t 228, sl t 229, sl t 230, sl t 231, sl t 232, sl t 233, sl t 234, sl t 235, sl t 236, sl t 237, sl t 238, sl t 239, sl t 240, sl t 241, sl t 242, sl t 243, sl t 244, sl t 245, sl t 246, sl t 247, sl t 248, sl t 249, sl t 250, sl t 251, sl t 252, sl t 253, sl t 254, sl t 255, sl t 256, sl t 257, sl t 258, sl t 259, sl t 260, sl t 261, sl t 262, sl t 263, sl t 264, sl t 265, sl t 266, sl t 267, sl t 268, sl t 269, sl t 270, sl t 271, sl t 272, sl t 273, sl t 274, sl t 275, sl t 276, sl t 277, sl t 278, sl t 279, sl t 280, sl t 281, sl t 282, sl t 283, sl t 284, sl t 285, sl t 286, sl t 287, sl t 288, sl t 289, sl t 290, sl t 291, sl t 292, sl t 293, sl t 294, sl t 295] := (frame_list t 296 h).trans (by kernel_rfl)
def firstLoop : Code → Option Code
  | .loop c => some c
  | .seq a b => match firstLoop a with
    | some c => some c
    | none => firstLoop b
  | .block _ c => firstLoop c
  | .scope c => firstLoop c
  | .cond _ a b => match firstLoop a with
    | some c => some c
    | none => firstLoop b
  | _ => none
noncomputable def bodyA : Code := (Tryz.f3.body.bind firstLoop).getD .skip
noncomputable def bodyB : Code := (firstLoop bodyA).getD .skip
noncomputable def bodyC : Code := (firstLoop bodyB).getD .skip
def findReg (n : Nat) : Code → Option Code
  | .region i ops d => if i = n then some (.region i ops d) else none
  | .loop c => findReg n c
  | .seq a b => match findReg n a with
    | some c => some c
    | none => findReg n b
  | .block _ c => findReg n c
  | .scope c => findReg n c
  | .cond _ a b => match findReg n a with
    | some c => some c
    | none => findReg n b
  | _ => none
noncomputable def reg (n : Nat) : Code := (findReg n bodyB).getD .skip
theorem noPanic_mono {P : Program} {c : Code} {Q : Exit → Act → World → Prop} {a : Act} {w : World} (h : c.wp P (NoPanic Q) a w) : c.wp P Q a w := Code.wp_mono NoPanic.imp h
/-- the frame where loop 2 stands -/
def RelB (lv Bp i : Nat) (w1 : World) (n : Nat) (a : Act) (wr : World) : Prop := ∃ t q z, a = ⟨t, []⟩ ∧ t.size = 296 ∧ sl t 1 = .pointer (some ⟨Bp, 0, none⟩) ∧ sl t 3 = .int .i64 (i : Nat) ∧ sl t 4 = .int .i64 z ∧ z = (q : Nat) ∧ q + n = lv ∧ Below w1.heap.size w1 wr
def FrK (t : Array Value) (Bp BA BB BX BY i q : Nat) (isn : Bool) (sv : Value) : Prop := t.size = 296 ∧ sl t 1 = .pointer (some ⟨Bp, 0, none⟩) ∧ sl t 3 = .int .i64 (i : Nat) ∧ sl t 4 = .int .i64 (q : Nat) ∧ sl t 5 = .pointer (some ⟨BA, 0, none⟩) ∧ sl t 6 = .pointer (some ⟨BB, 0, none⟩) ∧ sl t 7 = .pointer (some ⟨BX, 0, none⟩) ∧ sl t 9 = .pointer (some ⟨BY, 0, none⟩) ∧ sl t 11 = .bool isn ∧ sl t 14 = sv
/-- the frame where loop 3 stands -/
def RelC (m Bp BA BB BX BY i q : Nat) (isn : Bool) (sv : Value) (w1 : World) (n : Nat) (a : Act) (wr : World) : Prop := ∃ t j z, a = ⟨t, []⟩ ∧ FrK t Bp BA BB BX BY i q isn sv ∧ sl t 15 = .int .i64 z ∧ z = (j : Nat) ∧ j + n = m ∧ Below w1.heap.size w1 wr
theorem keep13_alloc {w : World} {p0 p1 p2 p3 p4 p5 p6 p7 p8 p9 p10 p11 p12 : Addr} {v0 v1 v2 v3 v4 v5 v6 v7 v8 v9 v10 v11 v12 : Value} (h : w.cell? p0 = some v0 ∧ w.cell? p1 = some v1 ∧ w.cell? p2 = some v2 ∧ w.cell? p3 = some v3 ∧ w.cell? p4 = some v4 ∧ w.cell? p5 = some v5 ∧ w.cell? p6 = some v6 ∧ w.cell? p7 = some v7 ∧ w.cell? p8 = some v8 ∧ w.cell? p9 = some v9 ∧ w.cell? p10 = some v10 ∧ w.cell? p11 = some v11 ∧ w.cell? p12 = some v12) (o : Obj) : (w.alloc o).cell? p0 = some v0 ∧ (w.alloc o).cell? p1 = some v1 ∧ (w.alloc o).cell? p2 = some v2 ∧ (w.alloc o).cell? p3 = some v3 ∧ (w.alloc o).cell? p4 = some v4 ∧ (w.alloc o).cell? p5 = some v5 ∧ (w.alloc o).cell? p6 = some v6 ∧ (w.alloc o).cell? p7 = some v7 ∧ (w.alloc o).cell? p8 = some v8 ∧ (w.alloc o).cell? p9 = some v9 ∧ (w.alloc o).cell? p10 = some v10 ∧ (w.alloc o).cell? p11 = some v11 ∧ (w.alloc o).cell? p12 = some v12 := ⟨cell_alloc (h.1) o, cell_alloc (h.2.1) o, cell_alloc (h.2.2.1) o, cell_alloc (h.2.2.2.1) o, cell_alloc (h.2.2.2.2.1) o, cell_alloc (h.2.2.2.2.2.1) o, cell_alloc (h.2.2.2.2.2.2.1) o, cell_alloc (h.2.2.2.2.2.2.2.1) o, cell_alloc (h.2.2.2.2.2.2.2.2.1) o, cell_alloc (h.2.2.2.2.2.2.2.2.2.1) o, cell_alloc (h.2.2.2.2.2.2.2.2.2.2.1) o, cell_alloc (h.2.2.2.2.2.2.2.2.2.2.2.1) o, cell_alloc (h.2.2.2.2.2.2.2.2.2.2.2.2) o⟩
end Go.Proofs.YtpoaieoldccmiaaGreat

/- ValJoins: its innermost loop: of the members of the first set those of the second are members of what both have. -/
namespace Go.Proofs.YtpoaieoldccmiaaGreat
open Go.ChangeShapes Go.WideShapes Go.ChangeAt Go.RowKit Go.Joins Go.Deep
set_option linter.unusedVariables false

set_option maxRecDepth 1000000 in
set_option maxHeartbeats 6400000 in
theorem loopC (K : Nat) (no : Bool) (l h f b : Nat) (no2 : Bool) (l2 h2 f2 b2 : Nat) (yno : Bool) (yl yh yf yb : Nat) (okB : ValOk K no2 l2 h2 f2 b2) (okY : ValOk K yno yl yh yf yb) (Bp BA BB BX BY i q : Nat) (isn : Bool) (m : Nat) (p : Option Addr) (cap : Nat) (zz : List Nat) (hm : m = zz.length) (hlen : m ≤ 1000) (w1 : World)
    (hI : HasInts w1 p zz) (hM : ∀ z ∈ zz, MemV K no l h f b z) (hIN : isn = true → ∀ z, MemV K no l h f b z → MemV K no2 l2 h2 f2 b2 z) (hYA : ∀ z, MemV K no l h f b z → MemV K no2 l2 h2 f2 b2 z → MemV K yno yl yh yf yb z) (dB : At w1 BB #[.int .i64 K, .bool no2, .int .i64 l2, .int .i64 h2, .int .i64 f2, .int .i64 b2] 28) (dY : At w1 BY #[.int .i64 K, .bool yno, .int .i64 yl, .int .i64 yh, .int .i64 yf, .int .i64 yb] 28)
    (t : Array Value) (hF : FrK t Bp BA BB BX BY i q isn (.slice p m cap)) (hj0 : sl t 15 = .int .i64 0) (Q : Exit → Act → World → Prop)
    (hQ : ∀ t w', FrK t Bp BA BB BX BY i q isn (.slice p m cap) → Below w1.heap.size w1 w' → Q (.exit 4) ⟨t, []⟩ w') :
    (Code.loop bodyC).wp Tryz.prog (NoPanic Q) ⟨t, []⟩ w1 := by
  refine wp_loop_ghost_k (RelC m Bp BA BB BX BY i q isn (.slice p m cap) w1) m ⟨t, 0, 0, rfl, hF, hj0, rfl, by omega, Below.refl _ _⟩ ?_
  clear hF hj0
  intro n a wr hR iK iJv hJ hK
  clear t
  obtain ⟨t, j, z, rfl, ⟨f0, f1, f3, f4, f5, f6, f7, f9, f11, f14⟩, f15, rfl, hjn, hbj⟩ := hR
  have hE : FrK t Bp BA BB BX BY i q isn (.slice p m cap) := ⟨f0, f1, f3, f4, f5, f6, f7, f9, f11, f14⟩
  rw [open_frame t f0]
  simp only [f1, f3, f4, f5, f6, f7, f9, f11, f14, f15]
  clear f0 f1 f3 f4 f5 f6 f7 f9 f11 f14 f15 hE
  conv => arg 2; whnf
  by_cases hlt : j < m
  · have hlt1 : (j : Int) < (m : Int) := by omega
    have hjz : j < zz.length := by omega
    obtain ⟨g, rfl, hc⟩ := hI.resolve_left (by omega)
    have cj := cell_below (hc j hjz) hbj
    obtain ⟨z, hz⟩ : ∃ z : Nat, z = zz[j] := ⟨_, rfl⟩
    rw [← hz] at cj
    have hzM : MemV K no l h f b z := by rw [hz]; exact hM _ (List.getElem_mem _)
    have hz2 : z < 2 ^ K := hzM.2.lt
    have cB := fun w => rHas_b K no2 l2 h2 f2 b2 z okB hz2 w
    have cY := fun w => rHas_b K yno yl yh yf yb z okY hz2 w
    have iB := hasB_iff okB hz2
    have iY := hasB_iff okY hz2
    obtain ⟨oB, eB⟩ : ∃ o, o = hasB no2 l2 h2 f2 b2 z := ⟨_, rfl⟩
    obtain ⟨oY, eY⟩ : ∃ o, o = hasB yno yl yh yf yb z := ⟨_, rfl⟩
    rw [← eB] at cB iB
    rw [← eY] at cY iY
    have i1 : oB = true → oY = true := fun h => iY.2 (hYA z hzM (iB.1 h))
    have i2 : isn = true → oB = true := fun h => iB.2 (hIN h z hzM)
    have dB2 := At.below' hbj dB
    have dY2 := At.below' hbj dY
    clear hz hc eB eY iB iY
    go_upto_region 25 with (fail)
    go_cut [189] from 163 to 189 (fun v189 wx => v189 = .bool false ∧ Below wr.heap.size wr wx)
    case first =>
      have hcj := fun p : BelowBy wr => p.cell cj
      have hq0 := fun p : BelowBy wr => p.cell (dB2.cell 0 rfl : wr.cell? ⟨BB, 0, none⟩ = some (.int .i64 K))
      have hq1 := fun p : BelowBy wr => p.cell (dB2.cell 1 rfl : wr.cell? ⟨BB, 1, none⟩ = some (.bool no2))
      have hq2 := fun p : BelowBy wr => p.cell (dB2.cell 2 rfl : wr.cell? ⟨BB, 2, none⟩ = some (.int .i64 l2))
      have hq3 := fun p : BelowBy wr => p.cell (dB2.cell 3 rfl : wr.cell? ⟨BB, 3, none⟩ = some (.int .i64 h2))
      have hq4 := fun p : BelowBy wr => p.cell (dB2.cell 4 rfl : wr.cell? ⟨BB, 4, none⟩ = some (.int .i64 f2))
      have hq5 := fun p : BelowBy wr => p.cell (dB2.cell 5 rfl : wr.cell? ⟨BB, 5, none⟩ = some (.int .i64 b2))
      have hy0 := fun p : BelowBy wr => p.cell (dY2.cell 0 rfl : wr.cell? ⟨BY, 0, none⟩ = some (.int .i64 K))
      have hy1 := fun p : BelowBy wr => p.cell (dY2.cell 1 rfl : wr.cell? ⟨BY, 1, none⟩ = some (.bool yno))
      have hy2 := fun p : BelowBy wr => p.cell (dY2.cell 2 rfl : wr.cell? ⟨BY, 2, none⟩ = some (.int .i64 yl))
      have hy3 := fun p : BelowBy wr => p.cell (dY2.cell 3 rfl : wr.cell? ⟨BY, 3, none⟩ = some (.int .i64 yh))
      have hy4 := fun p : BelowBy wr => p.cell (dY2.cell 4 rfl : wr.cell? ⟨BY, 4, none⟩ = some (.int .i64 yf))
      have hy5 := fun p : BelowBy wr => p.cell (dY2.cell 5 rfl : wr.cell? ⟨BY, 5, none⟩ = some (.int .i64 yb))
      clear dB2 dY2 cj hI hM dB dY hbj okB okY hIN hYA hQ
      cases oB
      · cases isn
        · clear i1 i2
          refine wp_region_quiet_below (by kernel_rfl) (by kernel_rfl) ?_
          repeat (go_big_quiet_step (((go_at_call 12; (first | (with_reducible exact Calls.below_of (cB _)) | (with_reducible exact Calls.below_of (cY _)))))))
          refine wpQuiet_nil ?_
          intro wx hw'
          obtain ⟨⟨wx', hbx⟩, hw''⟩ := hw'
          subst hw''
          go_wp2_with fail
          go_meet
          exact ⟨rfl, hbx⟩
        · exact absurd (i2 rfl) (by decide)
      · obtain rfl := i1 rfl
        clear i1 i2
        cases isn
        · skip
          refine wp_region_quiet_below (by kernel_rfl) (by kernel_rfl) ?_
          repeat (go_big_quiet_step (((go_at_call 12; (first | (with_reducible exact Calls.below_of (cB _)) | (with_reducible exact Calls.below_of (cY _)))))))
          refine wpQuiet_nil ?_
          intro wx hw'
          obtain ⟨⟨wx', hbx⟩, hw''⟩ := hw'
          subst hw''
          go_wp2_with fail
          go_meet
          exact ⟨rfl, hbx⟩
        · skip
          refine wp_region_quiet_below (by kernel_rfl) (by kernel_rfl) ?_
          repeat (go_big_quiet_step (((go_at_call 12; (first | (with_reducible exact Calls.below_of (cB _)) | (with_reducible exact Calls.below_of (cY _)))))))
          refine wpQuiet_nil ?_
          intro wx hw'
          obtain ⟨⟨wx', hbx⟩, hw''⟩ := hw'
          subst hw''
          go_wp2_with fail
          go_meet
          exact ⟨rfl, hbx⟩
    case rest =>
    obtain ⟨rfl, hbx⟩ := hcut
    have hbJ := hbj.trans (hbx.mono hbj.size)
    clear hbx dB2 dY2 hbj cj i1 i2 cB cY
    go_wp2_with fail
    refine Handed.intro (n - 1) (by omega) (hJ _ _ _ ⟨_, j + 1, _, rfl, ⟨rfl, rfl, rfl, rfl, rfl, rfl, rfl, rfl, rfl, rfl⟩, rfl, by omega, by omega, hbJ⟩)
  · have hlt1 : decide ((j : Int) < (m : Int)) = false := by simp; omega
    clear hJ
    go_wp2_with fail
    exact hQ _ _ ⟨rfl, rfl, rfl, rfl, rfl, rfl, rfl, rfl, rfl, rfl⟩ hbj
end Go.Proofs.YtpoaieoldccmiaaGreat

/- ValJoins: the two sets of a round. -/
namespace Go.Proofs.YtpoaieoldccmiaaGreat
open Go.ChangeShapes Go.WideShapes Go.ChangeAt Go.RowKit Go.Joins Go.Deep
set_option linter.unusedVariables false

set_option maxRecDepth 1000000 in
set_option maxHeartbeats 6400000 in
theorem cut9 (lv cv bq off Bp i q : Nat) (ak : Int) (ano : Bool) (al ah af ab bk : Int) (bno : Bool) (bl bh bf bb : Int) (w1 wr : World) (hbr : Below w1.heap.size w1 wr) (hi3 : (i : Int) < (lv : Int)) (hq3 : (q : Int) < (lv : Int))
    (c0 : wr.cell? ⟨Bp, 0, none⟩ = some (.slice (some ⟨bq, off, none⟩) lv cv)) (hci : ValCells wr bq (off + i * 6) ⟨ak, ano, al, ah, af, ab⟩) (hcq : ValCells wr bq (off + q * 6) ⟨bk, bno, bl, bh, bf, bb⟩)
    (t : Array Value) (f0 : t.size = 296) (f1 : sl t 1 = .pointer (some ⟨Bp, 0, none⟩)) (f3 : sl t 3 = .int .i64 (i : Nat)) (f4 : sl t 4 = .int .i64 (q : Nat))
    (Q : Exit → Act → World → Prop) (hQ : ∀ t BA BB w', t.size = 296 → sl t 1 = .pointer (some ⟨Bp, 0, none⟩) → sl t 3 = .int .i64 (i : Nat) → sl t 4 = .int .i64 (q : Nat) → sl t 5 = .pointer (some ⟨BA, 0, none⟩) → sl t 6 = .pointer (some ⟨BB, 0, none⟩) → At w' BA #[.int .i64 ak, .bool ano, .int .i64 al, .int .i64 ah, .int .i64 af, .int .i64 ab] 28 → At w' BB #[.int .i64 bk, .bool bno, .int .i64 bl, .int .i64 bh, .int .i64 bf, .int .i64 bb] 28 → Below w1.heap.size w1 w' → Q .normal ⟨t, []⟩ w') :
    (reg 9).wp Tryz.prog (NoPanic Q) ⟨t, []⟩ wr := by
  rw [open_frame t f0]
  simp only [f1, f3, f4]
  clear f0 f1 f3 f4
  conv => arg 2; whnf
  obtain ⟨a0, a1, a2, a3, a4, a5⟩ := hci
  obtain ⟨b0, b1, b2, b3, b4, b5⟩ := hcq
  dsimp only at a0 a1 a2 a3 a4 a5 b0 b1 b2 b3 b4 b5
  have hab := two_boxes wr #[.int .i64 ak, .bool ano, .int .i64 al, .int .i64 ah, .int .i64 af, .int .i64 ab] #[.int .i64 bk, .bool bno, .int .i64 bl, .int .i64 bh, .int .i64 bf, .int .i64 bb] 28
  have hba := two_boxes wr #[.int .i64 bk, .bool bno, .int .i64 bl, .int .i64 bh, .int .i64 bf, .int .i64 bb] #[.int .i64 ak, .bool ano, .int .i64 al, .int .i64 ah, .int .i64 af, .int .i64 ab] 28
  have HAB := Lib.hid hab
  have HBA := Lib.hid hba
  have HBR := Lib.hid hbr
  clear hab hba hbr
  have a0Z := cell_alloc a0 (.cells #[.int .i64 0, .bool false, .int .i64 0, .int .i64 0, .int .i64 0, .int .i64 0] 28)
  have a0ZZ := cell_alloc a0Z (.cells #[.int .i64 0, .bool false, .int .i64 0, .int .i64 0, .int .i64 0, .int .i64 0] 28)
  have a0O := cell_alloc a0 (.cells #[.int .i64 bk, .bool bno, .int .i64 bl, .int .i64 bh, .int .i64 bf, .int .i64 bb] 28)
  have a0OZ := cell_alloc a0O (.cells #[.int .i64 0, .bool false, .int .i64 0, .int .i64 0, .int .i64 0, .int .i64 0] 28)
  have a0ZO := cell_alloc a0Z (.cells #[.int .i64 bk, .bool bno, .int .i64 bl, .int .i64 bh, .int .i64 bf, .int .i64 bb] 28)
  have a1Z := cell_alloc a1 (.cells #[.int .i64 0, .bool false, .int .i64 0, .int .i64 0, .int .i64 0, .int .i64 0] 28)
  have a1ZZ := cell_alloc a1Z (.cells #[.int .i64 0, .bool false, .int .i64 0, .int .i64 0, .int .i64 0, .int .i64 0] 28)
  have a1O := cell_alloc a1 (.cells #[.int .i64 bk, .bool bno, .int .i64 bl, .int .i64 bh, .int .i64 bf, .int .i64 bb] 28)
  have a1OZ := cell_alloc a1O (.cells #[.int .i64 0, .bool false, .int .i64 0, .int .i64 0, .int .i64 0, .int .i64 0] 28)
  have a1ZO := cell_alloc a1Z (.cells #[.int .i64 bk, .bool bno, .int .i64 bl, .int .i64 bh, .int .i64 bf, .int .i64 bb] 28)
  have a2Z := cell_alloc a2 (.cells #[.int .i64 0, .bool false, .int .i64 0, .int .i64 0, .int .i64 0, .int .i64 0] 28)
  have a2ZZ := cell_alloc a2Z (.cells #[.int .i64 0, .bool false, .int .i64 0, .int .i64 0, .int .i64 0, .int .i64 0] 28)
  have a2O := cell_alloc a2 (.cells #[.int .i64 bk, .bool bno, .int .i64 bl, .int .i64 bh, .int .i64 bf, .int .i64 bb] 28)
  have a2OZ := cell_alloc a2O (.cells #[.int .i64 0, .bool false, .int .i64 0, .int .i64 0, .int .i64 0, .int .i64 0] 28)
  have a2ZO := cell_alloc a2Z (.cells #[.int .i64 bk, .bool bno, .int .i64 bl, .int .i64 bh, .int .i64 bf, .int .i64 bb] 28)
  have a3Z := cell_alloc a3 (.cells #[.int .i64 0, .bool false, .int .i64 0, .int .i64 0, .int .i64 0, .int .i64 0] 28)
  have a3ZZ := cell_alloc a3Z (.cells #[.int .i64 0, .bool false, .int .i64 0, .int .i64 0, .int .i64 0, .int .i64 0] 28)
  have a3O := cell_alloc a3 (.cells #[.int .i64 bk, .bool bno, .int .i64 bl, .int .i64 bh, .int .i64 bf, .int .i64 bb] 28)
  have a3OZ := cell_alloc a3O (.cells #[.int .i64 0, .bool false, .int .i64 0, .int .i64 0, .int .i64 0, .int .i64 0] 28)
  have a3ZO := cell_alloc a3Z (.cells #[.int .i64 bk, .bool bno, .int .i64 bl, .int .i64 bh, .int .i64 bf, .int .i64 bb] 28)
  have a4Z := cell_alloc a4 (.cells #[.int .i64 0, .bool false, .int .i64 0, .int .i64 0, .int .i64 0, .int .i64 0] 28)
  have a4ZZ := cell_alloc a4Z (.cells #[.int .i64 0, .bool false, .int .i64 0, .int .i64 0, .int .i64 0, .int .i64 0] 28)
  have a4O := cell_alloc a4 (.cells #[.int .i64 bk, .bool bno, .int .i64 bl, .int .i64 bh, .int .i64 bf, .int .i64 bb] 28)
  have a4OZ := cell_alloc a4O (.cells #[.int .i64 0, .bool false, .int .i64 0, .int .i64 0, .int .i64 0, .int .i64 0] 28)
  have a4ZO := cell_alloc a4Z (.cells #[.int .i64 bk, .bool bno, .int .i64 bl, .int .i64 bh, .int .i64 bf, .int .i64 bb] 28)
  have a5Z := cell_alloc a5 (.cells #[.int .i64 0, .bool false, .int .i64 0, .int .i64 0, .int .i64 0, .int .i64 0] 28)
  have a5ZZ := cell_alloc a5Z (.cells #[.int .i64 0, .bool false, .int .i64 0, .int .i64 0, .int .i64 0, .int .i64 0] 28)
  have a5O := cell_alloc a5 (.cells #[.int .i64 bk, .bool bno, .int .i64 bl, .int .i64 bh, .int .i64 bf, .int .i64 bb] 28)
  have a5OZ := cell_alloc a5O (.cells #[.int .i64 0, .bool false, .int .i64 0, .int .i64 0, .int .i64 0, .int .i64 0] 28)
  have a5ZO := cell_alloc a5Z (.cells #[.int .i64 bk, .bool bno, .int .i64 bl, .int .i64 bh, .int .i64 bf, .int .i64 bb] 28)
  have b0Z := cell_alloc b0 (.cells #[.int .i64 0, .bool false, .int .i64 0, .int .i64 0, .int .i64 0, .int .i64 0] 28)
  have b0ZZ := cell_alloc b0Z (.cells #[.int .i64 0, .bool false, .int .i64 0, .int .i64 0, .int .i64 0, .int .i64 0] 28)
  have b0O := cell_alloc b0 (.cells #[.int .i64 ak, .bool ano, .int .i64 al, .int .i64 ah, .int .i64 af, .int .i64 ab] 28)
  have b0OZ := cell_alloc b0O (.cells #[.int .i64 0, .bool false, .int .i64 0, .int .i64 0, .int .i64 0, .int .i64 0] 28)
  have b0ZO := cell_alloc b0Z (.cells #[.int .i64 ak, .bool ano, .int .i64 al, .int .i64 ah, .int .i64 af, .int .i64 ab] 28)
  have b1Z := cell_alloc b1 (.cells #[.int .i64 0, .bool false, .int .i64 0, .int .i64 0, .int .i64 0, .int .i64 0] 28)
  have b1ZZ := cell_alloc b1Z (.cells #[.int .i64 0, .bool false, .int .i64 0, .int .i64 0, .int .i64 0, .int .i64 0] 28)
  have b1O := cell_alloc b1 (.cells #[.int .i64 ak, .bool ano, .int .i64 al, .int .i64 ah, .int .i64 af, .int .i64 ab] 28)
  have b1OZ := cell_alloc b1O (.cells #[.int .i64 0, .bool false, .int .i64 0, .int .i64 0, .int .i64 0, .int .i64 0] 28)
  have b1ZO := cell_alloc b1Z (.cells #[.int .i64 ak, .bool ano, .int .i64 al, .int .i64 ah, .int .i64 af, .int .i64 ab] 28)
  have b2Z := cell_alloc b2 (.cells #[.int .i64 0, .bool false, .int .i64 0, .int .i64 0, .int .i64 0, .int .i64 0] 28)
  have b2ZZ := cell_alloc b2Z (.cells #[.int .i64 0, .bool false, .int .i64 0, .int .i64 0, .int .i64 0, .int .i64 0] 28)
  have b2O := cell_alloc b2 (.cells #[.int .i64 ak, .bool ano, .int .i64 al, .int .i64 ah, .int .i64 af, .int .i64 ab] 28)
  have b2OZ := cell_alloc b2O (.cells #[.int .i64 0, .bool false, .int .i64 0, .int .i64 0, .int .i64 0, .int .i64 0] 28)
  have b2ZO := cell_alloc b2Z (.cells #[.int .i64 ak, .bool ano, .int .i64 al, .int .i64 ah, .int .i64 af, .int .i64 ab] 28)
  have b3Z := cell_alloc b3 (.cells #[.int .i64 0, .bool false, .int .i64 0, .int .i64 0, .int .i64 0, .int .i64 0] 28)
  have b3ZZ := cell_alloc b3Z (.cells #[.int .i64 0, .bool false, .int .i64 0, .int .i64 0, .int .i64 0, .int .i64 0] 28)
  have b3O := cell_alloc b3 (.cells #[.int .i64 ak, .bool ano, .int .i64 al, .int .i64 ah, .int .i64 af, .int .i64 ab] 28)
  have b3OZ := cell_alloc b3O (.cells #[.int .i64 0, .bool false, .int .i64 0, .int .i64 0, .int .i64 0, .int .i64 0] 28)
  have b3ZO := cell_alloc b3Z (.cells #[.int .i64 ak, .bool ano, .int .i64 al, .int .i64 ah, .int .i64 af, .int .i64 ab] 28)
  have b4Z := cell_alloc b4 (.cells #[.int .i64 0, .bool false, .int .i64 0, .int .i64 0, .int .i64 0, .int .i64 0] 28)
  have b4ZZ := cell_alloc b4Z (.cells #[.int .i64 0, .bool false, .int .i64 0, .int .i64 0, .int .i64 0, .int .i64 0] 28)
  have b4O := cell_alloc b4 (.cells #[.int .i64 ak, .bool ano, .int .i64 al, .int .i64 ah, .int .i64 af, .int .i64 ab] 28)
  have b4OZ := cell_alloc b4O (.cells #[.int .i64 0, .bool false, .int .i64 0, .int .i64 0, .int .i64 0, .int .i64 0] 28)
  have b4ZO := cell_alloc b4Z (.cells #[.int .i64 ak, .bool ano, .int .i64 al, .int .i64 ah, .int .i64 af, .int .i64 ab] 28)
  have b5Z := cell_alloc b5 (.cells #[.int .i64 0, .bool false, .int .i64 0, .int .i64 0, .int .i64 0, .int .i64 0] 28)
  have b5ZZ := cell_alloc b5Z (.cells #[.int .i64 0, .bool false, .int .i64 0, .int .i64 0, .int .i64 0, .int .i64 0] 28)
  have b5O := cell_alloc b5 (.cells #[.int .i64 ak, .bool ano, .int .i64 al, .int .i64 ah, .int .i64 af, .int .i64 ab] 28)
  have b5OZ := cell_alloc b5O (.cells #[.int .i64 0, .bool false, .int .i64 0, .int .i64 0, .int .i64 0, .int .i64 0] 28)
  have b5ZO := cell_alloc b5Z (.cells #[.int .i64 ak, .bool ano, .int .i64 al, .int .i64 ah, .int .i64 af, .int .i64 ab] 28)
  have cZ := cell_alloc c0 (.cells #[.int .i64 0, .bool false, .int .i64 0, .int .i64 0, .int .i64 0, .int .i64 0] 28)
  have cZZ := cell_alloc cZ (.cells #[.int .i64 0, .bool false, .int .i64 0, .int .i64 0, .int .i64 0, .int .i64 0] 28)
  have cA := cell_alloc c0 (.cells #[.int .i64 ak, .bool ano, .int .i64 al, .int .i64 ah, .int .i64 af, .int .i64 ab] 28)
  have cAZ := cell_alloc cA (.cells #[.int .i64 0, .bool false, .int .i64 0, .int .i64 0, .int .i64 0, .int .i64 0] 28)
  have cZA := cell_alloc cZ (.cells #[.int .i64 ak, .bool ano, .int .i64 al, .int .i64 ah, .int .i64 af, .int .i64 ab] 28)
  have cB := cell_alloc c0 (.cells #[.int .i64 bk, .bool bno, .int .i64 bl, .int .i64 bh, .int .i64 bf, .int .i64 bb] 28)
  have cBZ := cell_alloc cB (.cells #[.int .i64 0, .bool false, .int .i64 0, .int .i64 0, .int .i64 0, .int .i64 0] 28)
  have cZB := cell_alloc cZ (.cells #[.int .i64 bk, .bool bno, .int .i64 bl, .int .i64 bh, .int .i64 bf, .int .i64 bb] 28)
  go_region
  all_goals clear a0 a0Z a0ZZ a0O a0OZ a0ZO a1 a1Z a1ZZ a1O a1OZ a1ZO a2 a2Z a2ZZ a2O a2OZ a2ZO a3 a3Z a3ZZ a3O a3OZ a3ZO a4 a4Z a4ZZ a4O a4OZ a4ZO a5 a5Z a5ZZ a5O a5OZ a5ZO b0 b0Z b0ZZ b0O b0OZ b0ZO b1 b1Z b1ZZ b1O b1OZ b1ZO b2 b2Z b2ZZ b2O b2OZ b2ZO b3 b3Z b3ZZ b3O b3OZ b3ZO b4 b4Z b4ZZ b4O b4OZ b4ZO b5 b5Z b5ZZ b5O b5OZ b5ZO c0 cZ cZZ cA cAZ cZA cB cBZ cZB
  all_goals first
    | exact hQ _ wr.heap.size (wr.heap.size + 1) _ rfl rfl rfl rfl rfl rfl HAB.out.1.drew HAB.out.2.1.drew (HBR.out.trans (HAB.out.2.2.mono HBR.out.size)).drew
    | exact hQ _ (wr.heap.size + 1) wr.heap.size _ rfl rfl rfl rfl rfl rfl HBA.out.2.1.drew HBA.out.1.drew (HBR.out.trans (HBA.out.2.2.mono HBR.out.size)).drew
end Go.Proofs.YtpoaieoldccmiaaGreat
