/- The document's own: some members of a set, at most 24 asked. -/
import Derived.Test.YtblahbmhbfcggaaGreatDoorVSome
import Derived.BigRegion
namespace Go.Proofs.YtblahbmhbfcggaaGreatDoor
open Go.ChangeShapes Go.WideShapes Go.ChangeAt Go.RowKit Go.Joins Go.Deep
set_option linter.unusedVariables false

def SomeSt (M : Nat → Prop) (Bl base : Nat) (w0 w : World) (c : Nat) : Prop := ∃ zs sl, RowL w Bl base zs sl ∧ (∀ z ∈ zs, M z) ∧ zs ≠ [] ∧ zs.length ≤ c ∧ Holds Bl base w0 w
theorem SomeSt.below {M : Nat → Prop} {Bl base c : Nat} {w0 w w' : World} (h : SomeSt M Bl base w0 w c) (hb0 : base ≤ w0.heap.size) (hb : Below w.heap.size w w') : SomeSt M Bl base w0 w' c := by
  obtain ⟨zs, sl, h1, h2, h3, h4, h5⟩ := h
  exact ⟨zs, sl, ⟨At.below' hb h1.cell, ownsRow_below h1.own hb, h1.nil⟩, h2, h3, h4, h5.trans (Holds.of_below hb (Nat.le_trans hb0 h5.size))⟩
theorem SomeSt.at {M : Nat → Prop} {Bl base c b : Nat} {w0 w : World} {cs : Array Value} {t : TypeId} (h : SomeSt M Bl base w0 w c) (hA : At w0 b cs t) (h1 : b < base) (h2 : b ≠ Bl) : At w b cs t := by
  obtain ⟨_, _, _, _, _, _, h5⟩ := h
  exact At.holds hA h5 h1 h2
theorem SomeSt.up {M : Nat → Prop} {Bl base c d : Nat} {w0 w : World} (h : SomeSt M Bl base w0 w c) (hd : c ≤ d) : SomeSt M Bl base w0 w d := by
  obtain ⟨zs, sl, h1, h2, h3, h4, h5⟩ := h
  exact ⟨zs, sl, h1, h2, h3, by omega, h5⟩
theorem SomeSt.low {M : Nat → Prop} {Bl base c C : Nat} {w0 w : World} (h : SomeSt M Bl base w0 w c) (h1 : C ≤ Bl) (h2 : C ≤ base) : Below C w0 w := by
  obtain ⟨_, _, _, _, _, _, h5⟩ := h
  exact h5.below h1 h2
def StepP (M : Nat → Prop) (Bl base : Nat) (w0 : World) (c : Nat) (e : Ending) (w' : World) : Prop := ∃ is, e = .returned (.bool is) ∧ SomeSt M Bl base w0 w' (c + 1)
theorem next_step (k : Nat) (no : Bool) (l h f b n : Nat) (ok : ValOk k no l h f b) (hn : n ≤ 4294967296) (Bl base c : Nat) (hBl : Bl < base) (w0 w : World) (hb0 : base ≤ w0.heap.size) (hc : c ≤ 900) (hS : SomeSt (MemV k no l h f b) Bl base w0 w c) :
    Calls Tryz.prog 43 #[adV k no l h f b Bl, .int .i64 n] w (StepP (MemV k no l h f b) Bl base w0 c) := by
  obtain ⟨zs, sl, h1, h2, h3, h4, h5⟩ := hS
  refine (next_some k no l h f b n ok hn Bl base zs sl (by omega) hBl w (Nat.le_trans hb0 h5.size) h1).mono ?_
  rintro e w' ⟨is, zs2, sl2, rfl, _, g1, g2, g3, _, g5, g6⟩
  exact ⟨is, rfl, zs2, sl2, g1, fun z hz => (g2 z hz).elim (h2 z) id, g5 h3, by omega, h5.trans g6⟩
/-- what Some tells -/
def SomeP (M : Nat → Prop) (w : World) (e : Ending) (w' : World) : Prop := ∃ zs p cap, e = .returned (.slice p zs.length cap) ∧ HasInts w' p zs ∧ (∀ z ∈ zs, M z) ∧ (zs = [] → ∀ z, ¬ M z) ∧ zs.length ≤ 1000 ∧ Below w.heap.size w w'
theorem SomeSt.some {M : Nat → Prop} {Bl base c : Nat} {w w0 wr : World} (h : SomeSt M Bl base w0 wr c) (hc : c ≤ 900) (hb : Below w.heap.size w w0) (h1 : w.heap.size ≤ Bl) (h2 : w.heap.size ≤ base) : ∃ p n cap, wr.cell? ⟨Bl, 0, none⟩ = some (.slice p n cap) ∧ SomeP M w (.returned (.slice p (n : Nat) cap)) wr := by
  have hlow := h.low h1 h2
  obtain ⟨zs, sl, g1, g2, g3, g4, g5⟩ := h
  obtain ⟨p, cap, rfl, hI⟩ := g1.form
  exact ⟨p, zs.length, cap, g1.cell.cell 0 rfl, zs, p, cap, rfl, hI, g2, fun e => absurd e g3, by omega, hb.trans hlow⟩
theorem half_num {k : Nat} (hk : isWn k) : ∃ k1 hf : Nat, k1 + 1 = k ∧ 0 < hf ∧ hf < 2 ^ k ∧ wrap64 (2 ^ min k1 64) = (hf : Int) := by
  rcases hk with rfl | rfl | rfl
  · exact ⟨7, 128, rfl, by decide, by decide, by simp [wrap64]⟩
  · exact ⟨15, 32768, rfl, by decide, by decide, by simp [wrap64]⟩
  · exact ⟨31, 2147483648, rfl, by decide, by decide, by simp [wrap64]⟩
theorem top_num {k : Nat} (hk : isWn k) : ∃ T P : Nat, T + 1 = 2 ^ k ∧ wrap64 (2 ^ min k 64) = (P : Int) ∧ wrap64 ((P : Int) - 1) = (T : Int) ∧ IntKind.i64.wrap (IntKind.i64.wrap (2 ^ min k 64) - 1) = (T : Int) := by
  rcases hk with rfl | rfl | rfl
  · exact ⟨255, 256, rfl, by simp [wrap64], by simp [wrap64], by decide⟩
  · exact ⟨65535, 65536, rfl, by simp [wrap64], by simp [wrap64], by decide⟩
  · exact ⟨4294967295, 4294967296, rfl, by simp [wrap64], by simp [wrap64], by decide⟩
theorem rHas_e (k : Nat) (no : Bool) (l h f b n : Nat) (ok : ValOk k no l h f b) (hn : n < 2 ^ k) (w : World) :
    Calls Tryz.prog 44 #[valV k no l h f b, .int .i64 n] w (fun e w' => ∃ is : Bool, e = .returned (.bool is) ∧ Below w.heap.size w w') := by
  cases no
  · exact (rHas_any k l h f b n ok.setOk (by have := ok.pat.hk.pow; omega) w).mono (by rintro e w' ⟨he, hb⟩; exact ⟨_, he, hb⟩)
  · exact (rHas_no k l h f b n w).mono (by rintro e w' ⟨he, hb⟩; exact ⟨_, he, hb⟩)
set_option maxRecDepth 100000 in
theorem rWrap_nat (x : Int) (k : Nat) (hk : isWn k) (w : World) : Calls Tryz.prog 29 #[.int .i64 x, .int .i64 k] w (fun e w' => ∃ n : Nat, n < 2 ^ k ∧ e = .returned (.int .i64 n) ∧ w = w') := by
  have e8 := and_255 x
  have e16 := and_65535 x
  have e32 : bits .and .i64 x 4294967295 = x % 4294967296 := and_mask x 32 (by decide)
  rcases hk with rfl | rfl | rfl
  · obtain ⟨n, hn⟩ : ∃ n : Nat, (n : Int) = x % 256 := ⟨(x % 256).toNat, by omega⟩
    rw [← hn] at e8
    clear e16 e32
    have hlt : n < 2 ^ 8 := by omega
    clear hn
    go_enter Tryz.func29, Tryz.ntmps29
    go_wp2_with fail
    go_ret
    exact ⟨n, hlt, rfl, rfl⟩
  · obtain ⟨n, hn⟩ : ∃ n : Nat, (n : Int) = x % 65536 := ⟨(x % 65536).toNat, by omega⟩
    rw [← hn] at e16
    clear e8 e32
    have hlt : n < 2 ^ 16 := by omega
    clear hn
    go_enter Tryz.func29, Tryz.ntmps29
    go_wp2_with fail
    go_ret
    exact ⟨n, hlt, rfl, rfl⟩
  · obtain ⟨n, hn⟩ : ∃ n : Nat, (n : Int) = x % 4294967296 := ⟨(x % 4294967296).toNat, by omega⟩
    rw [← hn] at e32
    clear e8 e16
    have hlt : n < 2 ^ 32 := by omega
    clear hn
    go_enter Tryz.func29, Tryz.ntmps29
    go_wp2_with fail
    go_ret
    exact ⟨n, hlt, rfl, rfl⟩
def RelS1 (M : Nat → Prop) (Bl base : Nat) (w0 : World) (v : Value) (wr : World) : Prop := ∃ i : Nat, i ≤ 8 ∧ v = .int .i64 i ∧ SomeSt M Bl base w0 wr (i + 1)
def RelS2 (M : Nat → Prop) (Bl base : Nat) (w0 : World) (v : Value) (wr : World) : Prop := ∃ i : Nat, i ≤ 12 ∧ v = .int .i64 i ∧ SomeSt M Bl base w0 wr (i + 100)
set_option maxRecDepth 100000 in
set_option maxHeartbeats 6400000 in
theorem some_24 (k : Nat) (no : Bool) (l h f b : Nat) (ok : ValOk k no l h f b) (sd : Int) (w : World) :
    Calls Tryz.prog 16 #[valV k no l h f b, .int .i64 24, .int .i64 sd] w (SomeP (MemV k no l h f b) w) := by
  have cG := fun B w => gather_any (k : Int) no (l : Int) (h : Int) (f : Int) (b : Int) B w
  obtain ⟨dN, dL, hb0⟩ : At ((w.alloc (.cells #[.int .i64 k, .bool no, .int .i64 l, .int .i64 h, .int .i64 f, .int .i64 b] 30)).alloc (.cells #[.slice none 0 0] 23)) w.heap.size #[.int .i64 k, .bool no, .int .i64 l, .int .i64 h, .int .i64 f, .int .i64 b] 30 ∧ At ((w.alloc (.cells #[.int .i64 k, .bool no, .int .i64 l, .int .i64 h, .int .i64 f, .int .i64 b] 30)).alloc (.cells #[.slice none 0 0] 23)) (w.heap.size + 1) #[.slice none 0 0] 23 ∧ Below w.heap.size w ((w.alloc (.cells #[.int .i64 k, .bool no, .int .i64 l, .int .i64 h, .int .i64 f, .int .i64 b] 30)).alloc (.cells #[.slice none 0 0] 23)) := ⟨(At.new w _ _).alloc _, two_new w _ _ _ _, ((Below.refl _ _).alloc (Nat.le_refl _) _).alloc (by simp) _⟩
  have hk := ok.pat.hk
  have hkp := hk.pow
  have hl := ok.hl
  have hh := ok.hh
  go_enter Tryz.func16, Tryz.ntmps16
  go_wp2_with fail
  refine (cG _ _).mono ?_
  rintro e w1 ⟨rfl, hb1⟩
  have dN1 := At.below' hb1 dN
  have dL1 := At.below' hb1 dL
  have hbE := hb0.trans (hb1.mono hb0.size)
  have dA := At.new w1 (#[.int .i64 k, .bool no, .int .i64 l, .int .i64 h, .int .i64 f, .int .i64 b, .pointer (some ⟨w.heap.size + 1, 0, none⟩)]) 87
  have hl1 : w.heap.size + 1 < w1.heap.size := dL1.lt
  have hbA : Below w.heap.size w (w1.alloc (.cells #[.int .i64 k, .bool no, .int .i64 l, .int .i64 h, .int .i64 f, .int .i64 b, .pointer (some ⟨w.heap.size + 1, 0, none⟩)] 87)) := hbE.alloc hbE.size _
  have dN2 := dN1.alloc (.cells #[.int .i64 k, .bool no, .int .i64 l, .int .i64 h, .int .i64 f, .int .i64 b, .pointer (some ⟨w.heap.size + 1, 0, none⟩)] 87)
  have dL2 := dL1.alloc (.cells #[.int .i64 k, .bool no, .int .i64 l, .int .i64 h, .int .i64 f, .int .i64 b, .pointer (some ⟨w.heap.size + 1, 0, none⟩)] 87)
  go_wp2_with fail
  obtain ⟨N0, hN0⟩ : ∃ N, N = w.heap.size := ⟨_, rfl⟩
  obtain ⟨Bl, hBl⟩ : ∃ B, B = w.heap.size + 1 := ⟨_, rfl⟩
  obtain ⟨Ba, hBa⟩ : ∃ B, B = w1.heap.size := ⟨_, rfl⟩
  have hsz : (w1.alloc (.cells #[.int .i64 k, .bool no, .int .i64 l, .int .i64 h, .int .i64 f, .int .i64 b, .pointer (some ⟨w.heap.size + 1, 0, none⟩)] 87)).heap.size = Ba + 1 := by rw [hBa]; simp
  rw [← hBl] at dA dL2 dN2 hbA hsz ⊢
  rw [← hN0] at dN2 ⊢
  rw [← hBa] at dA ⊢
  have hr1 : N0 < Bl := by omega
  have hr2 : Bl < Ba := by omega
  have HN := Lib.hid hN0
  clear dN dL dN1 dL1 hb0 hb1 hbE cG hBl hBa hN0 hl1
  generalize w1.alloc (.cells #[.int .i64 k, .bool no, .int .i64 l, .int .i64 h, .int .i64 f, .int .i64 b, .pointer (some ⟨Bl, 0, none⟩)] 87) = w0 at *
  obtain ⟨base, hbl, hb0⟩ : ∃ B, Ba < B ∧ B ≤ w0.heap.size := ⟨Ba + 1, by omega, by omega⟩
  clear hsz
  have hRL : RowL w0 Bl base [] (.slice none 0 0) := ⟨dL2, World.ownsRow_nil _ _ _ _, fun _ => rfl⟩
  have lw : w.heap.size ≤ Bl := by have := HN.out; omega
  have lw2 : w.heap.size ≤ base := by omega
  refine (next_some k no l h f b 0 ok (by omega) Bl base [] (.slice none 0 0) (by simp) (by omega) w0 hb0 hRL).mono ?_
  rintro e w2 ⟨is, zs, sl, rfl, his, hRL2, hz1, hz2, hz3, _, hHo⟩
  have r1 : N0 < base := by omega
  have r2 : N0 ≠ Bl := by omega
  have r3 : Ba < base := by omega
  have r4 : Ba ≠ Bl := by omega
  cases is
  · have hno : ∀ z, ¬ MemV k no l h f b z := fun z hz => by have := his.2 ⟨z, Nat.zero_le _, hz⟩; cases this
    have fin : SomeP (MemV k no l h f b) w (.returned (.slice none 0 0)) w2 := ⟨[], none, 0, rfl, Or.inl rfl, by simp, fun _ => hno, by simp, hbA.trans (hHo.below lw lw2)⟩
    clear his hRL hRL2 hHo hno dL2
    go_wp2_with fail
    go_ret
    exact fin
  · have hS : SomeSt (MemV k no l h f b) Bl base w0 w2 1 := ⟨zs, sl, hRL2, fun z hz => (hz1 z hz).elim (fun h => by cases h) id, hz3 rfl, by simpa using hz2, hHo⟩
    clear his hRL hRL2 hHo hz1 hz2 hz3 dL2
    go_wp2_with fail
    go_loopw [9] (fun v wr => RelS1 (MemV k no l h f b) Bl base w0 v wr) (fun v _ => 8 - (intOf v).toNat)
    case atStart => exact ⟨0, by omega, rfl, hS⟩
    case round =>
      clear hS
      obtain ⟨i, hi, rfl, hS⟩ := hrel
      by_cases hlt : i < 8
      · have hlt1 : (i : Int) < 8 := by omega
        have hS2 := hS.below hb0 ((Below.refl wr.heap.size wr).drew)
        have dAd := hS2.at dA r3 r4
        obtain ⟨zs, sl, q1, q2, q3, q4, q5⟩ := id hS2
        obtain ⟨p, cap, rfl, hI⟩ := q1.form
        have hpos : 0 < zs.length := List.length_pos_iff.2 q3
        obtain ⟨g, rfl, hc⟩ := hI.resolve_left (by omega)
        obtain ⟨m, hm⟩ : ∃ m, m = zs.length - 1 := ⟨_, rfl⟩
        have hlen : zs.length = m + 1 := by omega
        have cE := hc m (by omega)
        obtain ⟨x, hx⟩ : ∃ x : Nat, x = zs[m]'(by omega) := ⟨_, rfl⟩
        rw [← hx] at cE
        have hxM : MemV k no l h f b x := by rw [hx]; exact q2 _ (List.getElem_mem _)
        have hxlt : x < 2 ^ k := hxM.2.lt
        have cL : wr.drew.cell? ⟨Bl, 0, none⟩ = some (.slice (some ⟨g, 0, none⟩) zs.length cap) := q1.cell.cell 0 rfl
        obtain ⟨q, hq⟩ : ∃ q, q = zs.length := ⟨_, rfl⟩
        rw [← hq] at cL
        have iw1 : IntKind.i64.wrap ((q : Int) - 1) = (m : Int) := by rw [IntKind.wrap_i64]; omega
        have iw3 : (0 : Int) ≤ (m : Int) := by omega
        have iw6 : IntKind.i64.wrap (m : Int) = (m : Int) := by rw [IntKind.wrap_i64]; omega
        have iw4 : (m : Int) < (q : Int) := by omega
        have iw5 : IntKind.i64.wrap ((x : Int) + 1) = (x : Int) + 1 := by rw [IntKind.wrap_i64]; omega
        have cX := fun hS => next_step k no l h f b (x + 1) ok (by omega) Bl base (i + 1) (by omega) w0 wr.drew hb0 (by omega) hS
        have ex : ((x + 1 : Nat) : Int) = (x : Int) + 1 := by omega
        rw [ex] at cX
        have hS8 : wr.drew.cell? ⟨Bl, 0, none⟩ = some (.slice (some ⟨g, 0, none⟩) q cap) ∧ wr.drew.cell? ⟨g, m, none⟩ = some (.int .i64 x) ∧ wr.drew.cell? ⟨Ba, 0, none⟩ = some (.int .i64 k) ∧ wr.drew.cell? ⟨Ba, 1, none⟩ = some (.bool no) ∧ wr.drew.cell? ⟨Ba, 2, none⟩ = some (.int .i64 l) ∧ wr.drew.cell? ⟨Ba, 3, none⟩ = some (.int .i64 h) ∧ wr.drew.cell? ⟨Ba, 4, none⟩ = some (.int .i64 f) ∧ wr.drew.cell? ⟨Ba, 5, none⟩ = some (.int .i64 b) ∧ wr.drew.cell? ⟨Ba, 6, none⟩ = some (.pointer (some ⟨Bl, 0, none⟩)) := ⟨cL, cE, dAd.cell 0 rfl, dAd.cell 1 rfl, dAd.cell 2 rfl, dAd.cell 3 rfl, dAd.cell 4 rfl, dAd.cell 5 rfl, dAd.cell 6 rfl⟩
        have hmp : (0 : Int) < (q : Int) := by omega
        have hmq : 0 < q := by omega
        have hmq2 : m < q := by omega
        have hmq3 : ¬ ((m : Int) < 0) := by omega
        have hm9 : m ≤ 1000 := by omega
        clear hq hx hc hm hlen cE cL q1 q2 q3 q4 q5 hpos dAd ex
        go_upto_region 8 with (fail)
        go_cut [37] from 23 to 37 (fun v37 wx => ∃ is : Bool, v37 = .bool is ∧ SomeSt (MemV k no l h f b) Bl base w0 wx (i + 2))
        case first =>
          obtain ⟨y0, y1, y2, y3, y4, y5, y6, y7, y8⟩ := hS8
          clear hS hl hh hkp hb0 hbA dN2 dA hxM
          go_region_with ((go_at_call 43; refine (cX hS2).mono ?_; rintro e ws ⟨is, rfl, hS3⟩))
          all_goals
            go_wp2_with fail
            go_meet
            exact ⟨_, rfl, hS3⟩
        case rest =>
        obtain ⟨is, rfl, hS3⟩ := hcut
        clear hS8 cX hS2 hS
        cases is
        · go_wp2_with fail
          go_roundw
          case rel => exact ⟨i + 1, by omega, by go_num, hS3⟩
          case measure => simp [intOf]; omega
        · obtain ⟨p, nl, cap, hc, fin⟩ := hS3.some (by omega) hbA lw lw2
          clear hS3
          go_wp2_with fail
          go_ret
          exact fin
      · have hlt1 : decide ((i : Int) < 8) = false := by simp; omega
        have hS1 := hS.up (d := 101) (by omega)
        obtain ⟨TT, PP, hT1, hP, hT2, hT3⟩ := top_num hk
        have HT3 := Lib.hid hT3
        clear hT3
        have e12 : Int.tdiv 24 2 = 12 := by decide
        have e13 : IntKind.i64.wrap 12 = 12 := by decide
        clear hS
        go_wp2_with fail
        go_loopw [10] (fun v wr => RelS2 (MemV k no l h f b) Bl base w0 v wr) (fun v _ => 12 - (intOf v).toNat)
        case atStart => exact ⟨1, by omega, rfl, hS1⟩
        case round =>
          clear hS1 hlt hlt1 hi
          obtain ⟨i, hi, rfl, hS⟩ := hrel
          by_cases hlt : i < 12
          · have hlt1 : (i : Int) < 12 := by omega
            go_upto_region 13 with (fail)
            have hS2 := hS.below hb0 ((Below.refl wr.heap.size wr).drew)
            have dAd := hS2.at dA r3 r4
            have dBx := hS2.at dN2 r1 r2
            have hS8 : wr.drew.cell? ⟨Ba, 0, none⟩ = some (.int .i64 k) ∧ wr.drew.cell? ⟨Ba, 1, none⟩ = some (.bool no) ∧ wr.drew.cell? ⟨Ba, 2, none⟩ = some (.int .i64 l) ∧ wr.drew.cell? ⟨Ba, 3, none⟩ = some (.int .i64 h) ∧ wr.drew.cell? ⟨Ba, 4, none⟩ = some (.int .i64 f) ∧ wr.drew.cell? ⟨Ba, 5, none⟩ = some (.int .i64 b) ∧ wr.drew.cell? ⟨Ba, 6, none⟩ = some (.pointer (some ⟨Bl, 0, none⟩)) ∧ wr.drew.cell? ⟨N0, 0, none⟩ = some (.int .i64 k) := ⟨dAd.cell 0 rfl, dAd.cell 1 rfl, dAd.cell 2 rfl, dAd.cell 3 rfl, dAd.cell 4 rfl, dAd.cell 5 rfl, dAd.cell 6 rfl, dBx.cell 0 rfl⟩
            have cR := fun x w => rWrap_nat x k hk w
            clear hS dAd dBx
            go_region_held3 (fun w' => w'.cell? ⟨Ba, 0, none⟩ = some (.int .i64 k) ∧ w'.cell? ⟨Ba, 1, none⟩ = some (.bool no) ∧ w'.cell? ⟨Ba, 2, none⟩ = some (.int .i64 l) ∧ w'.cell? ⟨Ba, 3, none⟩ = some (.int .i64 h) ∧ w'.cell? ⟨Ba, 4, none⟩ = some (.int .i64 f) ∧ w'.cell? ⟨Ba, 5, none⟩ = some (.int .i64 b) ∧ w'.cell? ⟨Ba, 6, none⟩ = some (.pointer (some ⟨Bl, 0, none⟩)) ∧ w'.cell? ⟨N0, 0, none⟩ = some (.int .i64 k))
              (first
                | exact hS8
                | exact ⟨(hS3.at dA r3 r4).cell 0 rfl, (hS3.at dA r3 r4).cell 1 rfl, (hS3.at dA r3 r4).cell 2 rfl, (hS3.at dA r3 r4).cell 3 rfl, (hS3.at dA r3 r4).cell 4 rfl, (hS3.at dA r3 r4).cell 5 rfl, (hS3.at dA r3 r4).cell 6 rfl, (hS3.at dN2 r1 r2).cell 0 rfl⟩ | exact hS8)
              (first
                | (go_at_call 29; refine (cR _ _).mono ?_; rintro e ws0 ⟨nn, hnn, rfl, rfl⟩)
                | (go_at_call 43; refine (next_step k no l h f b nn ok (by omega) Bl base (i + 100) (by omega) w0 _ hb0 (by omega) hS2).mono ?_; rintro e ws ⟨is, rfl, hS3⟩))
            all_goals
              go_wp2_with fail
              go_roundw
              case rel => exact ⟨i + 1, by omega, by go_num, hS3.up (by omega)⟩
              case measure => simp [intOf]; omega
          · have hlt1 : decide ((i : Int) < 12) = false := by simp; omega
            have hS := hS.up (d := 200) (by omega)
            obtain ⟨k1, hf, hk1, hf0, hf1, hf2⟩ := half_num hk
            obtain ⟨hf3, hf4⟩ : ∃ x, x = hf - 1 := ⟨_, rfl⟩
            have HF4 := Lib.hid hf4
            have HK1 := Lib.hid hk1
            have HT1 := Lib.hid hT1
            have dBx := hS.at dN2 r1 r2
            have z0 : wr.cell? ⟨N0, 0, none⟩ = some (.int .i64 k) := dBx.cell 0 rfl
            have ek1 : IntKind.i64.wrap ((k : Int) - 1) = (k1 : Int) := by have := hk.le; rw [IntKind.wrap_i64]; omega
            have HP := Lib.hid hP
            have HT2 := Lib.hid hT2
            clear dBx hf4 hk1 hT1 hP hT2 e12 e13
            go_upto_region 15 with (fail)
            rw [hf2]
            clear z0 ek1 hf2
            have dAd := hS.at dA r3 r4
            have dBx := hS.at dN2 r1 r2
            have y0 : wr.cell? ⟨Ba, 0, none⟩ = some (.int .i64 k) := dAd.cell 0 rfl
            have y1 : wr.cell? ⟨Ba, 1, none⟩ = some (.bool no) := dAd.cell 1 rfl
            have y2 : wr.cell? ⟨Ba, 2, none⟩ = some (.int .i64 l) := dAd.cell 2 rfl
            have y3 : wr.cell? ⟨Ba, 3, none⟩ = some (.int .i64 h) := dAd.cell 3 rfl
            have y4 : wr.cell? ⟨Ba, 4, none⟩ = some (.int .i64 f) := dAd.cell 4 rfl
            have y5 : wr.cell? ⟨Ba, 5, none⟩ = some (.int .i64 b) := dAd.cell 5 rfl
            have y6 : wr.cell? ⟨Ba, 6, none⟩ = some (.pointer (some ⟨Bl, 0, none⟩)) := dAd.cell 6 rfl
            have cX := next_step k no l h f b hf ok (by omega) Bl base 200 (by omega) w0 wr hb0 (by omega) hS
            clear hS dAd dBx
            go_wp2_with fail
            refine cX.mono ?_
            rintro e wx1 ⟨is, rfl, hS⟩
            clear cX y0 y1 y2 y3 y4 y5 y6
            go_upto_region 16 with (fail)
            go_cut [] from 68 to 73 (fun wx => SomeSt (MemV k no l h f b) Bl base w0 wx 202)
            case first =>
              have hS2 := hS.below hb0 ((Below.refl wx1.heap.size wx1).drew)
              have dAd := hS2.at dA r3 r4
              have dBx := hS2.at dN2 r1 r2
              have hS8 : wx1.drew.cell? ⟨Ba, 0, none⟩ = some (.int .i64 k) ∧ wx1.drew.cell? ⟨Ba, 1, none⟩ = some (.bool no) ∧ wx1.drew.cell? ⟨Ba, 2, none⟩ = some (.int .i64 l) ∧ wx1.drew.cell? ⟨Ba, 3, none⟩ = some (.int .i64 h) ∧ wx1.drew.cell? ⟨Ba, 4, none⟩ = some (.int .i64 f) ∧ wx1.drew.cell? ⟨Ba, 5, none⟩ = some (.int .i64 b) ∧ wx1.drew.cell? ⟨Ba, 6, none⟩ = some (.pointer (some ⟨Bl, 0, none⟩)) ∧ wx1.drew.cell? ⟨N0, 0, none⟩ = some (.int .i64 k) := ⟨dAd.cell 0 rfl, dAd.cell 1 rfl, dAd.cell 2 rfl, dAd.cell 3 rfl, dAd.cell 4 rfl, dAd.cell 5 rfl, dAd.cell 6 rfl, dBx.cell 0 rfl⟩
              clear hS dAd dBx
              go_region_held3 (fun w' => w'.cell? ⟨Ba, 0, none⟩ = some (.int .i64 k) ∧ w'.cell? ⟨Ba, 1, none⟩ = some (.bool no) ∧ w'.cell? ⟨Ba, 2, none⟩ = some (.int .i64 l) ∧ w'.cell? ⟨Ba, 3, none⟩ = some (.int .i64 h) ∧ w'.cell? ⟨Ba, 4, none⟩ = some (.int .i64 f) ∧ w'.cell? ⟨Ba, 5, none⟩ = some (.int .i64 b) ∧ w'.cell? ⟨Ba, 6, none⟩ = some (.pointer (some ⟨Bl, 0, none⟩)) ∧ w'.cell? ⟨N0, 0, none⟩ = some (.int .i64 k))
                (first
                  | exact hS8
                  | exact ⟨(hS3.at dA r3 r4).cell 0 rfl, (hS3.at dA r3 r4).cell 1 rfl, (hS3.at dA r3 r4).cell 2 rfl, (hS3.at dA r3 r4).cell 3 rfl, (hS3.at dA r3 r4).cell 4 rfl, (hS3.at dA r3 r4).cell 5 rfl, (hS3.at dA r3 r4).cell 6 rfl, (hS3.at dN2 r1 r2).cell 0 rfl⟩ | exact hS8)
                ((go_at_call 43; rw [HT3.out]; refine (next_step k no l h f b TT ok (by have := HT1.out; omega) Bl base 201 (by omega) w0 _ hb0 (by omega) hS2).mono ?_; rintro e ws ⟨is, rfl, hS3⟩))
              all_goals
                go_wp2_with fail
                go_meet
                exact hS3
            case rest =>
            clear hS
            have hS := hcut
            clear hcut HT1 HK1 HT2 HP
            generalize wc = wx2 at *
            have dAd := hS.at dA r3 r4
            have dBx := hS.at dN2 r1 r2
            have y0 : wx2.cell? ⟨Ba, 0, none⟩ = some (.int .i64 k) := dAd.cell 0 rfl
            have y1 : wx2.cell? ⟨Ba, 1, none⟩ = some (.bool no) := dAd.cell 1 rfl
            have y2 : wx2.cell? ⟨Ba, 2, none⟩ = some (.int .i64 l) := dAd.cell 2 rfl
            have y3 : wx2.cell? ⟨Ba, 3, none⟩ = some (.int .i64 h) := dAd.cell 3 rfl
            have y4 : wx2.cell? ⟨Ba, 4, none⟩ = some (.int .i64 f) := dAd.cell 4 rfl
            have y5 : wx2.cell? ⟨Ba, 5, none⟩ = some (.int .i64 b) := dAd.cell 5 rfl
            have y6 : wx2.cell? ⟨Ba, 6, none⟩ = some (.pointer (some ⟨Bl, 0, none⟩)) := dAd.cell 6 rfl
            have z2 : wx2.cell? ⟨N0, 2, none⟩ = some (.int .i64 l) := dBx.cell 2 rfl
            have cX := next_step k no l h f b l ok (by omega) Bl base 202 (by omega) w0 wx2 hb0 (by omega) hS
            clear hS dAd dBx
            go_wp2_with fail
            refine cX.mono ?_
            rintro e wx3 ⟨is, rfl, hS⟩
            clear cX y0 y1 y2 y3 y4 y5 y6
            clear z2
            have dBx := hS.at dN2 r1 r2
            have z0 : wx3.cell? ⟨N0, 0, none⟩ = some (.int .i64 k) := dBx.cell 0 rfl
            have z1 : wx3.cell? ⟨N0, 1, none⟩ = some (.bool no) := dBx.cell 1 rfl
            have z2 : wx3.cell? ⟨N0, 2, none⟩ = some (.int .i64 l) := dBx.cell 2 rfl
            have z3 : wx3.cell? ⟨N0, 3, none⟩ = some (.int .i64 h) := dBx.cell 3 rfl
            have z4 : wx3.cell? ⟨N0, 4, none⟩ = some (.int .i64 f) := dBx.cell 4 rfl
            have z5 : wx3.cell? ⟨N0, 5, none⟩ = some (.int .i64 b) := dBx.cell 5 rfl
            have cX := rHas_e k no l h f b h ok (hh) wx3
            clear dBx
            go_wp2_with fail
            refine cX.mono ?_
            rintro e wx4 ⟨is, rfl, hbh⟩
            replace hS := hS.below hb0 hbh
            clear cX hbh z0 z1 z2 z3 z4 z5
            go_upto_if 81 with (fail)
            go_cut [] from 82 to 85 (fun wx => SomeSt (MemV k no l h f b) Bl base w0 wx 204)
            case first =>
              cases is
              · go_wp2_with fail
                go_meet
                exact hS.up (by omega)
              · skip
                have dAd := hS.at dA r3 r4
                have dBx := hS.at dN2 r1 r2
                have y0 : wx4.cell? ⟨Ba, 0, none⟩ = some (.int .i64 k) := dAd.cell 0 rfl
                have y1 : wx4.cell? ⟨Ba, 1, none⟩ = some (.bool no) := dAd.cell 1 rfl
                have y2 : wx4.cell? ⟨Ba, 2, none⟩ = some (.int .i64 l) := dAd.cell 2 rfl
                have y3 : wx4.cell? ⟨Ba, 3, none⟩ = some (.int .i64 h) := dAd.cell 3 rfl
                have y4 : wx4.cell? ⟨Ba, 4, none⟩ = some (.int .i64 f) := dAd.cell 4 rfl
                have y5 : wx4.cell? ⟨Ba, 5, none⟩ = some (.int .i64 b) := dAd.cell 5 rfl
                have y6 : wx4.cell? ⟨Ba, 6, none⟩ = some (.pointer (some ⟨Bl, 0, none⟩)) := dAd.cell 6 rfl
                have z3 : wx4.cell? ⟨N0, 3, none⟩ = some (.int .i64 h) := dBx.cell 3 rfl
                have cX := next_step k no l h f b h ok (by omega) Bl base 203 (by omega) w0 wx4 hb0 (by omega) hS
                clear hS dAd dBx
                go_wp2_with fail
                refine cX.mono ?_
                rintro e wx4b ⟨is, rfl, hS⟩
                clear cX y0 y1 y2 y3 y4 y5 y6
                go_wp2_with fail
                go_meet
                exact hS
            case rest =>
            clear hS
            have hS := hcut
            clear hcut
            generalize wc = wx5 at *
            have iw : IntKind.i64.wrap ((hf : Int) - 1) = (hf3 : Int) := by have := HF4.out; rw [IntKind.wrap_i64]; omega
            have hf5 : hf3 < 2 ^ k := by have := HF4.out; omega
            have iw2 : (hf : Int) - 1 = (hf3 : Int) := by have := HF4.out; omega
            have IW := Lib.hid iw2
            clear iw2
            clear HF4
            have dBx := hS.at dN2 r1 r2
            have z0 : wx5.cell? ⟨N0, 0, none⟩ = some (.int .i64 k) := dBx.cell 0 rfl
            have z1 : wx5.cell? ⟨N0, 1, none⟩ = some (.bool no) := dBx.cell 1 rfl
            have z2 : wx5.cell? ⟨N0, 2, none⟩ = some (.int .i64 l) := dBx.cell 2 rfl
            have z3 : wx5.cell? ⟨N0, 3, none⟩ = some (.int .i64 h) := dBx.cell 3 rfl
            have z4 : wx5.cell? ⟨N0, 4, none⟩ = some (.int .i64 f) := dBx.cell 4 rfl
            have z5 : wx5.cell? ⟨N0, 5, none⟩ = some (.int .i64 b) := dBx.cell 5 rfl
            have cX := rHas_e k no l h f b hf3 ok (hf5) wx5
            clear dBx
            go_wp2_with fail
            refine cX.mono ?_
            rintro e wx6 ⟨is, rfl, hbh⟩
            replace hS := hS.below hb0 hbh
            clear cX hbh z0 z1 z2 z3 z4 z5
            go_upto_if 89 with (fail)
            go_cut [] from 90 to 93 (fun wx => SomeSt (MemV k no l h f b) Bl base w0 wx 205)
            case first =>
              cases is
              · go_wp2_with fail
                go_meet
                exact hS.up (by omega)
              · skip
                have dAd := hS.at dA r3 r4
                have dBx := hS.at dN2 r1 r2
                have y0 : wx6.cell? ⟨Ba, 0, none⟩ = some (.int .i64 k) := dAd.cell 0 rfl
                have y1 : wx6.cell? ⟨Ba, 1, none⟩ = some (.bool no) := dAd.cell 1 rfl
                have y2 : wx6.cell? ⟨Ba, 2, none⟩ = some (.int .i64 l) := dAd.cell 2 rfl
                have y3 : wx6.cell? ⟨Ba, 3, none⟩ = some (.int .i64 h) := dAd.cell 3 rfl
                have y4 : wx6.cell? ⟨Ba, 4, none⟩ = some (.int .i64 f) := dAd.cell 4 rfl
                have y5 : wx6.cell? ⟨Ba, 5, none⟩ = some (.int .i64 b) := dAd.cell 5 rfl
                have y6 : wx6.cell? ⟨Ba, 6, none⟩ = some (.pointer (some ⟨Bl, 0, none⟩)) := dAd.cell 6 rfl
                have cX := next_step k no l h f b hf3 ok (by omega) Bl base 204 (by omega) w0 wx6 hb0 (by omega) hS
                clear hS dAd dBx
                go_wp2_with fail
                refine cX.mono ?_
                rintro e wx7 ⟨is, rfl, hS⟩
                clear cX y0 y1 y2 y3 y4 y5 y6
                go_wp2_with fail
                go_meet
                exact hS
            case rest =>
            obtain ⟨p, nl, cap, hc, fin⟩ := hcut.some (by omega) hbA lw lw2
            clear hS hcut
            go_wp2_with fail
            go_ret
            exact fin
end Go.Proofs.YtblahbmhbfcggaaGreatDoor
