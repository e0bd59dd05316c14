/- Package tree: what is wrong first, kept by a sync.Once; one goroutine. -/
import Derived.Test.YtkhklndmbfbnoaaGreatDoorTPrim
import Derived.Test.YtkhklndmbfbnoaaGreatDoorLOnce
namespace Go.Proofs.YtkhklndmbfbnoaaGreatDoor
open Go.ChangeShapes Go.WideShapes Go.ChangeAt Go.RowKit Go.Joins Go.Deep
set_option linter.unusedVariables false

def rdF (fd : Value) (en k ar : Nat) (md : Int) (nv : Value) (dn st : Int) (a : Nat) (e : Int) : Array Value :=
  #[fd, .int .i64 (en : Nat), .int .i64 (k : Nat), .int .i64 (ar : Nat), .int .i32 md, nv, .int .u32 dn, .int .i32 st, .int .u32 0, .int .i64 (a : Nat), .int .i64 e]
def RdF (w : World) (rb : Nat) (fd : Value) (en k ar : Nat) (md : Int) (nv : Value) (dn st : Int) (a : Nat) (e : Int) : Prop := At w rb (rdF fd en k ar md nv dn st a e) 77
theorem RdF.at {w : World} {rb : Nat} {fd : Value} {en k ar : Nat} {md : Int} {nv : Value} {dn st : Int} {a : Nat} {e : Int} (h : RdF w rb fd en k ar md nv dn st a e) : At w rb (rdF fd en k ar md nv dn st a e) 77 := h
def FP (rb : Nat) (fd : Value) (en k ar : Nat) (md : Int) (nv : Value) (dn st : Int) (a : Nat) (er : Int) (w : World) (e : Ending) (w' : World) : Prop := e = .returned (.tuple #[]) ∧ RdF w' rb fd en k ar md nv dn st a er ∧ Onl rb w w'
set_option maxRecDepth 100000 in
set_option maxHeartbeats 1600000 in
theorem set_any (rb A E R : Nat) (fd : Value) (en k ar : Nat) (md : Int) (nv : Value) (dn st : Int) (a : Nat) (er : Int) (w : World) (h : RdF w rb fd en k ar md nv dn st 0 0) (hA : At w A #[.int .i64 (a : Nat)] 3) (hE : At w E #[.int .i64 er] 37) (hR : At w R #[.pointer (some ⟨rb, 0, none⟩)] 61) :
    Calls Tryz.prog 118 #[.pointer (some ⟨A, 0, none⟩), .pointer (some ⟨E, 0, none⟩), .pointer (some ⟨R, 0, none⟩)] w (FP rb fd en k ar md nv dn st a er w) := by
  have a0 := hA.cell 0 rfl
  have e0 := hE.cell 0 rfl
  have r0 := hR.cell 0 rfl
  have c9 : w.cell? ⟨rb, 9, none⟩ = some (.int .i64 0) := h.at.cell 9 rfl
  have c10 : w.cell? ⟨rb, 10, none⟩ = some (.int .i64 0) := h.at.cell 10 rfl
  have f9 := At.free h.at 9
  have f10 := At.free h.at 10
  have k1 : RdF (w.setCell ⟨rb, 9, none⟩ (.int .i64 (a : Nat))) rb fd en k ar md nv dn st a 0 := At.set h.at 9 _ (by simp [rdF])
  have k2 : RdF ((w.setCell ⟨rb, 9, none⟩ (.int .i64 (a : Nat))).setCell ⟨rb, 10, none⟩ (.int .i64 er)) rb fd en k ar md nv dn st a er := At.set k1.at 10 _ (by simp [rdF])
  have c10b : (w.setCell ⟨rb, 9, none⟩ (.int .i64 (a : Nat))).cell? ⟨rb, 10, none⟩ = some (.int .i64 0) := k1.at.cell 10 rfl
  have f10b := At.free k1.at 10
  have K2 := Lib.hid k2
  have hO := Lib.hid ((((Onl.refl rb w).set 9 (.int .i64 (a : Nat))).set 10 (.int .i64 er)).drew)
  clear h hA hE hR k1 k2
  go_enter Tryz.func118, Tryz.ntmps118
  go_region
  all_goals
    go_wp2
    go_end0
    exact ⟨rfl, At.drew K2.out, hO.out⟩
set_option maxRecDepth 100000 in
set_option maxHeartbeats 3200000 in
theorem slow_fail (rb A E R : Nat) (fd : Value) (en k ar : Nat) (md : Int) (nv : Value) (a : Nat) (er : Int) (hRA : A ≠ rb ∧ E ≠ rb ∧ R ≠ rb) (w : World) (h : RdF w rb fd en k ar md nv 0 0 0 0) (hA : At w A #[.int .i64 (a : Nat)] 3) (hE : At w E #[.int .i64 er] 37) (hR : At w R #[.pointer (some ⟨rb, 0, none⟩)] 61) :
    Calls Tryz.prog 94 #[.pointer (some ⟨rb, 6, none⟩), .func (.func 118) #[] #[.pointer (some ⟨A, 0, none⟩), .pointer (some ⟨E, 0, none⟩), .pointer (some ⟨R, 0, none⟩)]] w (FP rb fd en k ar md nv 1 0 a er w) := by
  have k1 : RdF (w.setCell ⟨rb, 7, none⟩ (.int .i32 1)) rb fd en k ar md nv 0 1 0 0 := At.set h.at 7 (.int .i32 1) (by simp [rdF])
  have hK1 : Onl rb w (w.setCell ⟨rb, 7, none⟩ (.int .i32 1)) := (Onl.refl rb w).set 7 _
  have hl := run_call_load (P := Tryz.prog) Tryz.func121 (by kernel_rfl) (by kernel_rfl) (by kernel_rfl) .u32 (by kernel_rfl) (w := w.setCell ⟨rb, 7, none⟩ (.int .i32 1)) (a := ⟨rb, 6, none⟩) (x := 0) (k1.at.cell 6 rfl)
  have hnot : ∀ (x : Bool) (w : World), (Op.unary .not (.bool x)).run Tryz.prog w = .ok (.bool (!x)) w := fun _ _ => rfl
  have c7 : w.cell? ⟨rb, 7, none⟩ = some (.int .i32 0) := h.at.cell 7 rfl
  have f7 := At.free h.at 7
  have cM := set_any rb A E R fd en k ar md nv 0 1 a er _ k1 (hK1.at hA hRA.1) (hK1.at hE hRA.2.1) (hK1.at hR hRA.2.2)
  clear hA hE hR hRA
  go_enter_defers Tryz.func94, Tryz.ntmps94
  go_wp2_with (first | (go_at_call 122; refine (lock_free ⟨rb, 7, none⟩ _ (by go_simp) (by go_simp)).mono ?_; rintro e w' ⟨rfl, rfl⟩) | (go_at_call 93; go_in) | (go_at_call 118; refine cM.mono ?_; rintro e w' ⟨rfl, m1, m2⟩))
  refine leaves_cons (f := 124) (args := #[.pointer (some ⟨rb, 6, none⟩), .bool true]) (by simp) (by simp [go_sem]) ?_
  refine (store_deferred ⟨rb, 6, none⟩ (.int .u32 0) .returning _ (m1.at.cell 6 rfl) (At.free m1.at 6)).mono ?_
  rintro e u' w'' ⟨rfl, rfl, rfl⟩
  have n1 : RdF (w'.drew.setCell ⟨rb, 6, none⟩ (.int .u32 1)) rb fd en k ar md nv 1 1 a er := At.set m1.at.drew 6 (.int .u32 1) (by simp [rdF])
  have n2 : Onl rb w (w'.drew.setCell ⟨rb, 6, none⟩ (.int .u32 1)) := ((hK1.trans m2).drew).set 6 _
  generalize w'.drew.setCell ⟨rb, 6, none⟩ (.int .u32 1) = w2 at n1 n2 ⊢
  refine leaves_cons (f := 123) (args := #[.pointer (some ⟨rb, 7, none⟩)]) (by simp [settle]) (by simp [go_sem]) ?_
  refine (unlock_deferred ⟨rb, 7, none⟩ _ _ (n1.at.cell 7 rfl) (At.free n1.at 7)).mono ?_
  rintro e u' w'' ⟨rfl, rfl, rfl⟩
  have o1 : RdF (w2.setCell ⟨rb, 7, none⟩ (.int .i32 0)) rb fd en k ar md nv 1 0 a er := At.set n1.at 7 (.int .i32 0) (by simp [rdF])
  have o2 : Onl rb w (w2.setCell ⟨rb, 7, none⟩ (.int .i32 0)) := n2.set 7 _
  generalize w2.setCell ⟨rb, 7, none⟩ (.int .i32 0) = w3 at o1 o2 ⊢
  have fin : FP rb fd en k ar md nv 1 0 a er w (.returned (.tuple #[])) w3 := ⟨rfl, o1, o2⟩
  simpa [Leaves, settle, results, Tryz.results94] using fin
set_option maxRecDepth 100000 in
set_option maxHeartbeats 1600000 in
theorem do_fail (rb A E R : Nat) (fd : Value) (en k ar : Nat) (md : Int) (nv : Value) (a : Nat) (er : Int) (hRA : A ≠ rb ∧ E ≠ rb ∧ R ≠ rb) (w : World) (h : RdF w rb fd en k ar md nv 0 0 0 0) (hA : At w A #[.int .i64 (a : Nat)] 3) (hE : At w E #[.int .i64 er] 37) (hR : At w R #[.pointer (some ⟨rb, 0, none⟩)] 61) :
    Calls Tryz.prog 69 #[.pointer (some ⟨rb, 6, none⟩), .func (.func 118) #[] #[.pointer (some ⟨A, 0, none⟩), .pointer (some ⟨E, 0, none⟩), .pointer (some ⟨R, 0, none⟩)]] w (FP rb fd en k ar md nv 1 0 a er w) := by
  have hl := run_call_load (P := Tryz.prog) Tryz.func121 (by kernel_rfl) (by kernel_rfl) (by kernel_rfl) .u32 (by kernel_rfl) (w := w) (a := ⟨rb, 6, none⟩) (x := 0) (h.at.cell 6 rfl)
  have hnot : ∀ (x : Bool) (w : World), (Op.unary .not (.bool x)).run Tryz.prog w = .ok (.bool (!x)) w := fun _ _ => rfl
  have cS := slow_fail rb A E R fd en k ar md nv a er hRA w h hA hE hR
  clear h hA hE hR hRA
  go_enter Tryz.func69, Tryz.ntmps69
  go_wp2_with (first | (go_at_call 94; refine cS.mono ?_; rintro e w' ⟨rfl, m1, m2⟩) | (go_at_call 93; go_in))
  go_end0
  exact ⟨rfl, m1, m2⟩
set_option maxRecDepth 100000 in
set_option maxHeartbeats 1600000 in
theorem do_again_fail (rb : Nat) (v : Value) (w : World) (h6 : w.cell? ⟨rb, 6, none⟩ = some (.int .u32 1)) :
    Calls Tryz.prog 69 #[.pointer (some ⟨rb, 6, none⟩), v] w fun e w' => e = .returned (.tuple #[]) ∧ w = w' := by
  have hl := run_call_load (P := Tryz.prog) Tryz.func121 (by kernel_rfl) (by kernel_rfl) (by kernel_rfl) .u32 (by kernel_rfl) (w := w) (a := ⟨rb, 6, none⟩) (x := 1) h6
  have hnot : ∀ (x : Bool) (w : World), (Op.unary .not (.bool x)).run Tryz.prog w = .ok (.bool (!x)) w := fun _ _ => rfl
  go_enter Tryz.func69, Tryz.ntmps69
  go_wp2_with ((go_at_call 93; go_in))
  first | go_end0 | (simp only [Exit.inBlock, Exit.then]; refine bodyPost_ret (results_none rfl _ _ _) rfl ?_) | refine bodyPost_ret (results_none rfl _ _ _) rfl ?_
  exact ⟨rfl, rfl⟩
/-- what a reader is, spelt out -/
theorem rdC_good {fd : Value} {en : Nat} {s : RS} {md : Int} {nv : Value} (h : s.bad = none) : rdC fd en s md nv = rdF fd en s.k s.ar md nv 0 0 0 0 := by
  unfold rdC rdF
  rw [h]; rfl
theorem rdC_bad {fd : Value} {en : Nat} {s : RS} {md : Int} {nv : Value} {a : Nat} {e : Int} (h : s.bad = some (a, e)) : rdC fd en s md nv = rdF fd en s.k s.ar md nv 1 0 a e := by
  unfold rdC rdF
  rw [h]; rfl
set_option maxRecDepth 100000 in
set_option maxHeartbeats 1600000 in
theorem fail_raw (a : Nat) (er : Int) (rb en n k ar cap : Nat) (q : Option Addr) (md : Int) (nv : Value) (w : World) (h : RdF w rb (.slice q n cap) en k ar md nv 0 0 0 0) : Calls Tryz.prog 85 #[.pointer (some ⟨rb, 0, none⟩), .int .i64 (a : Nat), .int .i64 er] w (FP rb (.slice q n cap) en n ar md nv 1 0 a er w) := by
  have hb0 := ((Below.refl w.heap.size w).alloc (Nat.le_refl _) (.cells #[.pointer (some ⟨rb, 0, none⟩)] 61)).alloc (by simp) (.cells #[.int .i64 (a : Nat)] 3)
  have hb1 := hb0.alloc (by simp; omega) (.cells #[.int .i64 er] 37)
  have dR := At.alloc (At.alloc (At.new w #[.pointer (some ⟨rb, 0, none⟩)] 61) (.cells #[.int .i64 (a : Nat)] 3)) (.cells #[.int .i64 er] 37)
  have dA := At.alloc (At.new (w.alloc (.cells #[.pointer (some ⟨rb, 0, none⟩)] 61)) #[.int .i64 (a : Nat)] 3) (.cells #[.int .i64 er] 37)
  have dE := At.new ((w.alloc (.cells #[.pointer (some ⟨rb, 0, none⟩)] 61)).alloc (.cells #[.int .i64 (a : Nat)] 3)) #[.int .i64 er] 37
  have hz1 : (w.alloc (.cells #[.pointer (some ⟨rb, 0, none⟩)] 61)).heap.size = w.heap.size + 1 := by simp
  have hz2 : ((w.alloc (.cells #[.pointer (some ⟨rb, 0, none⟩)] 61)).alloc (.cells #[.int .i64 (a : Nat)] 3)).heap.size = w.heap.size + 1 + 1 := by simp
  rw [hz1] at dA
  rw [hz2] at dE
  clear hz1 hz2 hb0
  have hlt := h.at.lt
  have hO0 : Onl rb w (((w.alloc (.cells #[.pointer (some ⟨rb, 0, none⟩)] 61)).alloc (.cells #[.int .i64 (a : Nat)] 3)).alloc (.cells #[.int .i64 er] 37)) := Onl.of hb1 (Nat.le_of_lt hlt)
  have h3 : RdF (((w.alloc (.cells #[.pointer (some ⟨rb, 0, none⟩)] 61)).alloc (.cells #[.int .i64 (a : Nat)] 3)).alloc (.cells #[.int .i64 er] 37)) rb (.slice q n cap) en k ar md nv 0 0 0 0 := At.below' hb1 h.at
  have HX := Lib.hid hlt
  generalize hW : (((w.alloc (.cells #[.pointer (some ⟨rb, 0, none⟩)] 61)).alloc (.cells #[.int .i64 (a : Nat)] 3)).alloc (.cells #[.int .i64 er] 37)) = w3 at *
  have HW := Lib.hid hW
  have cD := do_fail rb (w.heap.size + 1) (w.heap.size + 1 + 1) w.heap.size (.slice q n cap) en k ar md nv a er ⟨by omega, by omega, by omega⟩ w3 h3 dA dE dR
  have DR := Lib.hid dR
  have r0 := dR.cell 0 rfl
  have HO0 := Lib.hid hO0
  clear h h3 hb1 hO0 dR dA dE hW
  go_enter Tryz.func85, Tryz.ntmps85
  go_upto_region 1 with (fail)
  rw [HW.out]
  have hmf : ∀ (fn : Go.Fn) (first cap : Array Value) (w : World), (Instr.makeFunc fn first cap).run Tryz.prog w = .ok (.func fn first cap) w := fun _ _ _ _ => rfl
  go_wp2_with fail
  refine cD.mono ?_
  rintro e w4 ⟨rfl, hF, hO⟩
  have r1 := (hO.at DR.out (by have := HX.out; omega)).cell 0 rfl
  have c0 : w4.cell? ⟨rb, 0, none⟩ = some (.slice q n cap) := hF.at.cell 0 rfl
  have c2 : w4.cell? ⟨rb, 2, none⟩ = some (.int .i64 (k : Nat)) := hF.at.cell 2 rfl
  have f2 := At.free hF.at 2
  have fin : RdF (w4.setCell ⟨rb, 2, none⟩ (.int .i64 (n : Nat))).drew rb (.slice q n cap) en n ar md nv 1 0 a er := At.drew (At.set hF.at 2 _ (by simp [rdF]))
  have FIN := Lib.hid fin
  have HOF := Lib.hid (((HO0.out.trans hO).set 2 (.int .i64 (n : Nat))).drew)
  clear fin hF hO cD
  go_wp2_with fail
  go_region
  all_goals
    go_wp2
    go_end0
    exact ⟨rfl, FIN.out, HOF.out⟩
/-- a reader whose count of nodes may be one too many -/
theorem fail_from (a : Nat) (er : Int) (her : er ≠ 0) {w0 : Ctx} {fd : Value} {W : List (Tx × Nat)} {en rb : Nat} {g : Option Nat} {s : RS} (w : World) {md : Int} {nv : Value} {X : List NX} (hA : At w rb (rdC fd en s md nv) 77) (n1 : nv.ownBlock = g) (n2 : NRow w0.F w (rb + 1) nv X) (n3 : X.map NX.x = s.t) (n4 : 0 ≤ md ∧ md ≤ 301) (ki : Inv W s) (kb : Below w0.w.heap.size w0.w w) (kba : w0.w.heap.size ≤ rb) (kt : IsToks w0.w fd W) (kr : s.ar ≤ 30) (ksh : ∀ k, (W.getD k ([], 0)).1.length ≤ 100000) (khe : ∀ b, w0.F b → b < w.heap.size) (hg : s.bad = none) : Calls Tryz.prog 85 #[.pointer (some ⟨rb, 0, none⟩), .int .i64 (a : Nat), .int .i64 er] w (NP w0 fd W en rb g (.tuple #[]) (failR W a er s) w) := by
  obtain ⟨q, cap, hfd, _, _⟩ := id kt
  have hA2 := hA
  rw [rdC_good hg, hfd] at hA
  have hs5 : (failR W a er s).bad = some (a, er) := by unfold failR; rw [hg]
  refine (fail_raw a er rb en W.length s.k s.ar cap q md nv w hA).mono ?_
  rintro e w' ⟨he, hF, hO⟩
  refine ⟨he, ⟨⟨md, nv, X, ?_, n1, n2.only hA2 hO, n3, n4.1, n4.2, fun hb => by rw [hs5] at hb; cases hb⟩, ki.fail her, kb.trans (hO.1.mono kba), kba, kt, kr, ksh, fun b h => Nat.lt_of_lt_of_le (khe b h) hO.1.size⟩, hO⟩
  rw [rdC_bad hs5, hfd]
  exact hF
theorem fail_good (a : Nat) (er : Int) (her : er ≠ 0) {w0 : Ctx} {fd : Value} {W : List (Tx × Nat)} {en rb : Nat} {g : Option Nat} {s : RS} (w : World) (h : RdAt w0 fd W en w rb g s) (hg : s.bad = none) : Calls Tryz.prog 85 #[.pointer (some ⟨rb, 0, none⟩), .int .i64 (a : Nat), .int .i64 er] w (NP w0 fd W en rb g (.tuple #[]) (failR W a er s) w) := by
  obtain ⟨⟨md, nv, X, hA, n1, n2, n3, n4, n5, n6⟩, ki, kb, kba, kt, kr, ksh, khe⟩ := h
  exact fail_from a er her w hA n1 n2 n3 ⟨n4, n5⟩ ki kb kba kt kr ksh khe hg
set_option maxRecDepth 100000 in
set_option maxHeartbeats 1600000 in
theorem fail_again (a : Nat) (er : Int) {w0 : Ctx} {fd : Value} {W : List (Tx × Nat)} {en rb : Nat} {g : Option Nat} {s : RS} (w : World) (h : RdAt w0 fd W en w rb g s) (hg : s.bad ≠ none) : Calls Tryz.prog 85 #[.pointer (some ⟨rb, 0, none⟩), .int .i64 (a : Nat), .int .i64 er] w (NP w0 fd W en rb g (.tuple #[]) s w) := by
  have hb0 := ((Below.refl w.heap.size w).alloc (Nat.le_refl _) (.cells #[.pointer (some ⟨rb, 0, none⟩)] 61)).alloc (by simp) (.cells #[.int .i64 (a : Nat)] 3)
  have hb1 := hb0.alloc (by simp; omega) (.cells #[.int .i64 er] 37)
  have dR := At.alloc (At.alloc (At.new w #[.pointer (some ⟨rb, 0, none⟩)] 61) (.cells #[.int .i64 (a : Nat)] 3)) (.cells #[.int .i64 er] 37)
  have hO0 := h.onl hb1
  have h3 := h.grow hb1
  obtain ⟨q, cap, hfd, _, _⟩ := h.toks
  generalize hW : (((w.alloc (.cells #[.pointer (some ⟨rb, 0, none⟩)] 61)).alloc (.cells #[.int .i64 (a : Nat)] 3)).alloc (.cells #[.int .i64 er] 37)) = w3 at *
  have HW := Lib.hid hW
  obtain ⟨md, nv, hRd⟩ := h3.cells
  obtain ⟨⟨a0, e0⟩, hae⟩ : ∃ x, s.bad = some x := by
    cases hb : s.bad with
    | none => exact absurd hb hg
    | some x => exact ⟨x, rfl⟩
  have hk := bad_k h.inv hg
  have hRd2 := hRd
  rw [rdC_bad hae] at hRd
  have h6 : w3.cell? ⟨rb, 6, none⟩ = some (.int .u32 1) := hRd.cell 6 rfl
  have cD := fun v => do_again_fail rb v w3 h6
  have r0 := dR.cell 0 rfl
  have c0 : w3.cell? ⟨rb, 0, none⟩ = some (.slice q W.length cap) := by rw [← hfd]; exact hRd.cell 0 rfl
  have c2 : w3.cell? ⟨rb, 2, none⟩ = some (.int .i64 (s.k : Nat)) := hRd.cell 2 rfl
  have f2 := At.free hRd 2
  have fin : RdAt w0 fd W en (w3.setCell ⟨rb, 2, none⟩ (.int .i64 (W.length : Nat))).drew rb g s := by
    refine h3.next (s' := s) h3.inv rfl (fun h => h) h3.room (((Onl.refl rb w3).set 2 _).drew) (fun md nv hA => ?_)
    have e : rdC fd en s md nv = (rdC fd en s md nv).set! 2 (.int .i64 (W.length : Nat)) := by rw [← hk]; rfl
    rw [e]
    exact At.drew (At.set hA 2 _ (by simp [rdC]))
  have FIN := Lib.hid fin
  have HOF := Lib.hid ((hO0.set 2 (.int .i64 (W.length : Nat))).drew)
  clear fin h h3 hb0 hb1 hO0 hRd hRd2 dR hW hg hae hk h6 hfd
  go_enter Tryz.func85, Tryz.ntmps85
  go_upto_region 1 with (fail)
  rw [HW.out]
  have hmf : ∀ (fn : Go.Fn) (first cap : Array Value) (w : World), (Instr.makeFunc fn first cap).run Tryz.prog w = .ok (.func fn first cap) w := fun _ _ _ _ => rfl
  go_wp2_with fail
  refine (cD _).mono ?_
  rintro e w4 ⟨rfl, rfl⟩
  clear cD
  generalize s.k = k at *
  generalize W.length = n at *
  go_wp2_with fail
  go_region
  all_goals
    go_wp2
    go_end0
    exact ⟨rfl, FIN.out, HOF.out⟩
theorem fail_any (a : Nat) (er : Int) (her : er ≠ 0) {w0 : Ctx} {fd : Value} {W : List (Tx × Nat)} {en rb : Nat} {g : Option Nat} {s : RS} (w : World) (h : RdAt w0 fd W en w rb g s) : Calls Tryz.prog 85 #[.pointer (some ⟨rb, 0, none⟩), .int .i64 (a : Nat), .int .i64 er] w (NP w0 fd W en rb g (.tuple #[]) (failR W a er s) w) := by
  by_cases hg : s.bad = none
  · exact fail_good a er her w h hg
  · rw [failR_bad _ _ h.inv hg]
    exact fail_again a er w h hg
end Go.Proofs.YtkhklndmbfbnoaaGreatDoor
