/-
  PROVED: FnAnswerClientAlarm: for every input the law returns true, and the input reads as it did. No condition.
  The frame is as the kit prints it (proof-skeleton.mjs); the walk is mine.
-/
import Derived.Test.YtigaifnoicnafaaRows
import Derived.Test.YtigaifnoicnafaaCopyD
import Derived.Test.YtigaifnoicnafaaAnswer
import Derived.Test.YtigaifnoicnafaaDrawAn
import Derived.Test.YtigaifnoicnafaaTake
import Derived.WalkKit
import Derived.ProofKit
import Derived.OpenShut
import Derived.ShutString
import Derived.ChangeOld
import Derived.Below
namespace Go.Proofs.Ytigaifnoicnafaa.fnAnswerClientAlarm
open Go.ChangeShapes Go.WideShapes Go.ChangeAt Go.RowKit
open Go.ChangeMaps (open_string shut_string)
set_option linter.unusedVariables false

theorem own : ownKnob Try.prog.godebug = none := by kernel_rfl
theorem laidOut : laidOutB Try.prog = true := by kernel_rfl

/-- WHAT THE WALK IS TOLD OF A SLICE OF INTEGERS THAT CAME IN: it is nil; or it leads to a row of 'cap' cells, the numbers 'zs' (the first 'len' are its elements, the rest its spare room), each fitting its kind. -/
def IsRow (k : IntKind) (w : World) (a : Option Addr) (len cap : Nat) (zs : List Int) : Prop :=
  (a = none ∧ len = 0 ∧ cap = 0 ∧ zs = []) ∨
  ∃ x, a = some x ∧ len ≤ cap ∧ cap ≤ maxLen ∧ zs.length = cap ∧ (∀ i, i < zs.length → w.cell? (x.add i) = some (.int k (zs.getD i 0))) ∧ ∀ n ∈ zs, (Lit.int k n).wf = true

/-! ### STEP 1: THE WALK: the Go text returns true, AND WRITES NOTHING THAT WAS THERE: 'Below w.heap.size w w'' (Derived/Below.lean: '.refl', '.alloc', '.drew', '.setCell' at a new block, '.trans'). Open each 'IsRow' by 'rcases' AHEAD of 'go_enter'; part every test ahead of the walk. -/
set_option maxRecDepth 100000 in
set_option maxHeartbeats 4000000 in
theorem walk (a0 : Option Addr) (len0 cap0 : Nat) (z0 : List Int) (w : World) (w0 : IsRow .u8 w a0 len0 cap0 z0) :
    Calls Try.prog 8 #[.slice a0 len0 cap0] w fun e w' => e = .returned (.bool true) ∧ Below w.heap.size w w' := by
  by_cases hl : 1048576 < len0
  · have hl' : (1048576 : Int) < (len0 : Int) := by omega
    clear w0 hl
    go_enter Try.func8, Try.ntmps8
    go_wp2
    go_ret
    exact ⟨rfl, Below.refl _ _⟩
  have hl' : ¬ (1048576 : Int) < (len0 : Int) := by omega
  obtain ⟨hc, hcap⟩ := code_of w0 (by omega)
  clear w0 hl
  go_enter Try.func8, Try.ntmps8
  go_wp2_with fail
  refine (DrawAnswerClient_any w a0 len0 cap0 hc hcap).mono ?_
  rintro e w1 ⟨x0, x1, x2, x3, x4, x5, x6, x7, r, s, lv, sp, rfl, bl⟩
  clear hc hcap
  have p1 := C8.new w1 x0 x1 x2 x3 x4 x5 x6 x7 25
  have b1 := bl.alloc bl.size (.cells #[.int .i64 x0, .int .i64 x1, .int .i64 x2, .int .i64 x3, .int .i64 x4, .int .i64 x5, .int .i64 x6, .int .i64 x7] 25)
  clear bl
  by_cases hA : D.Ak x0 x1 x2 x3 x4 x5 x6 x7 r s lv sp
  rotate_left
  · have K1 := Lib.hid (fun w' => AN_impl_no x0 x1 x2 x3 x4 x5 x6 x7 r s lv sp hA w')
    have K2 := Lib.hid (fun w' => AN_spec_no x0 x1 x2 x3 x4 x5 x6 x7 r s lv sp hA w')
    clear hA
    have pc0 := p1.c0
    have pc1 := p1.c1
    have pc2 := p1.c2
    have pc3 := p1.c3
    have pc4 := p1.c4
    have pc5 := p1.c5
    have pc6 := p1.c6
    have pc7 := p1.c7
    go_wp2_with fail
    refine (K1.out _).mono ?_
    rintro e w2 ⟨rfl, bb⟩
    clear pc0 pc1 pc2 pc3 pc4 pc5 pc6 pc7
    have p2 := p1.bw bb
    have b2 := b1.trans (bb.mono b1.size)
    clear p1 b1 bb
    replace p2 := p2.al (.cells #[.int .i64 0, .int .i64 0, .int .i64 0, .int .i64 0, .int .i64 0, .int .i64 0, .int .i64 0, .int .i64 0] 25)
    replace b2 := b2.alloc b2.size (.cells #[.int .i64 0, .int .i64 0, .int .i64 0, .int .i64 0, .int .i64 0, .int .i64 0, .int .i64 0, .int .i64 0] 25)
    have q2 := C8.new w2 0 0 0 0 0 0 0 0 25
    have pc0 := p2.c0
    have pc1 := p2.c1
    have pc2 := p2.c2
    have pc3 := p2.c3
    have pc4 := p2.c4
    have pc5 := p2.c5
    have pc6 := p2.c6
    have pc7 := p2.c7
    go_wp2_with fail
    refine (K2.out _).mono ?_
    rintro e w3 ⟨rfl, bb⟩
    clear pc0 pc1 pc2 pc3 pc4 pc5 pc6 pc7
    have p3 := p2.bw bb
    have q3 := q2.bw bb
    have b3 := b2.trans (bb.mono b2.size)
    clear p2 q2 b2 bb
    replace p3 := p3.al (.cells #[.int .i64 0, .int .i64 0, .int .i64 0, .int .i64 0, .int .i64 0, .int .i64 0, .int .i64 0, .int .i64 0] 25)
    replace q3 := q3.al (.cells #[.int .i64 0, .int .i64 0, .int .i64 0, .int .i64 0, .int .i64 0, .int .i64 0, .int .i64 0, .int .i64 0] 25)
    replace b3 := b3.alloc b3.size (.cells #[.int .i64 0, .int .i64 0, .int .i64 0, .int .i64 0, .int .i64 0, .int .i64 0, .int .i64 0, .int .i64 0] 25)
    have v3 := C8.new w3 0 0 0 0 0 0 0 0 25
    have hDq := q3.lt
    have qc0 := q3.c0
    have qc1 := q3.c1
    have qc2 := q3.c2
    have qc3 := q3.c3
    have qc4 := q3.c4
    have qc5 := q3.c5
    have qc6 := q3.c6
    have qc7 := q3.c7
    have vc0 := v3.c0
    have vc1 := v3.c1
    have vc2 := v3.c2
    have vc3 := v3.c3
    have vc4 := v3.c4
    have vc5 := v3.c5
    have vc6 := v3.c6
    have vc7 := v3.c7
    go_wp2
    go_ret
    exact ⟨ret_bool (by first | rfl | (simp; done) | simp_all), b3⟩
  have hvp := D.ans_vp hA
  by_cases hz : lv = 0
  · subst hz
    have e1 : D.le 0 = 3 := rfl
    have e2 : D.su 0 = 0 := rfl
    rw [e1, e2] at hvp
    have K1k := fun w' => AN_impl_yes x0 x1 x2 x3 x4 x5 x6 x7 r s 0 sp hA w'
    simp only [e1, e2] at K1k
    have K1 := Lib.hid K1k
    clear K1k
    have K2k := fun w' => AN_spec_yes x0 x1 x2 x3 x4 x5 x6 x7 r s 0 sp hA w'
    simp only [e1, e2] at K2k
    have K2 := Lib.hid K2k
    clear K2k
    obtain ⟨hp, hb, hlv, hr, hs, hrs, hsp⟩ := hA
    have HP := Lib.hid (And.intro hp (And.intro hb (And.intro hr (And.intro hs (And.intro hrs hsp)))))
    clear hp hb hr hs hrs hsp
    have pc0 := p1.c0
    have pc1 := p1.c1
    have pc2 := p1.c2
    have pc3 := p1.c3
    have pc4 := p1.c4
    have pc5 := p1.c5
    have pc6 := p1.c6
    have pc7 := p1.c7
    go_wp2_with fail
    refine (K1.out _).mono ?_
    rintro e w2 ⟨rfl, bb⟩
    clear pc0 pc1 pc2 pc3 pc4 pc5 pc6 pc7
    have p2 := p1.bw bb
    have b2 := b1.trans (bb.mono b1.size)
    clear p1 b1 bb
    replace p2 := p2.al (.cells #[.int .i64 3, .int .i64 4, .int .i64 0, .int .i64 x3, .int .i64 sp, .int .i64 x7, .int .i64 r, .int .i64 s] 25)
    replace b2 := b2.alloc b2.size (.cells #[.int .i64 3, .int .i64 4, .int .i64 0, .int .i64 x3, .int .i64 sp, .int .i64 x7, .int .i64 r, .int .i64 s] 25)
    have q2 := C8.new w2 3 4 0 x3 sp x7 r s 25
    have pc0 := p2.c0
    have pc1 := p2.c1
    have pc2 := p2.c2
    have pc3 := p2.c3
    have pc4 := p2.c4
    have pc5 := p2.c5
    have pc6 := p2.c6
    have pc7 := p2.c7
    go_wp2_with fail
    refine (K2.out _).mono ?_
    rintro e w3 ⟨rfl, bb⟩
    clear pc0 pc1 pc2 pc3 pc4 pc5 pc6 pc7
    have p3 := p2.bw bb
    have q3 := q2.bw bb
    have b3 := b2.trans (bb.mono b2.size)
    clear p2 q2 b2 bb
    replace p3 := p3.al (.cells #[.int .i64 3, .int .i64 4, .int .i64 0, .int .i64 x3, .int .i64 sp, .int .i64 x7, .int .i64 r, .int .i64 s] 25)
    replace q3 := q3.al (.cells #[.int .i64 3, .int .i64 4, .int .i64 0, .int .i64 x3, .int .i64 sp, .int .i64 x7, .int .i64 r, .int .i64 s] 25)
    replace b3 := b3.alloc b3.size (.cells #[.int .i64 3, .int .i64 4, .int .i64 0, .int .i64 x3, .int .i64 sp, .int .i64 x7, .int .i64 r, .int .i64 s] 25)
    have v3 := C8.new w3 3 4 0 x3 sp x7 r s 25
    have hDq := q3.lt
    have hA0 : D.Ak x0 x1 x2 x3 x4 x5 x6 x7 r s 0 sp := ⟨HP.out.1, HP.out.2.1, by omega, HP.out.2.2.1, HP.out.2.2.2.1, HP.out.2.2.2.2.1, HP.out.2.2.2.2.2⟩
    have K4k := fun w' => AN_impl_yes x0 x1 x2 x3 x4 x5 x6 x7 r s 0 sp hA0 w'
    simp only [e1, e2] at K4k
    have K4 := Lib.hid K4k
    clear K4k
    have hT : ¬ (D.an x7 3 4 0 x3 sp x7 r s = true ∧ T.vs s = true) := fun h => by have := (D.an_of h.1).2.2.2.2.1; omega
    have k3 : ∀ w' : World, Calls Try.prog 19 #[.int .i64 x7, .agg #[.int .i64 3, .int .i64 4, .int .i64 0, .int .i64 x3, .int .i64 sp, .int .i64 x7, .int .i64 r, .int .i64 s], .int .i64 s] w' fun e w'' => e = .returned (.tuple #[.slice none 0 0, .bool false]) ∧ Below w'.heap.size w' w'' := fun w' => (TA_impl x7 s 3 4 0 x3 sp x7 r s w').mono fun e w'' h => by rw [if_neg hT] at h; exact h
    have K3 := Lib.hid k3
    clear k3 hT hvp hA0
    have pc0 := p3.c0
    have pc1 := p3.c1
    have pc2 := p3.c2
    have pc3 := p3.c3
    have pc4 := p3.c4
    have pc5 := p3.c5
    have pc6 := p3.c6
    have pc7 := p3.c7
    have qc0 := q3.c0
    have qc1 := q3.c1
    have qc2 := q3.c2
    have qc3 := q3.c3
    have qc4 := q3.c4
    have qc5 := q3.c5
    have qc6 := q3.c6
    have qc7 := q3.c7
    have vc0 := v3.c0
    have vc1 := v3.c1
    have vc2 := v3.c2
    have vc3 := v3.c3
    have vc4 := v3.c4
    have vc5 := v3.c5
    have vc6 := v3.c6
    have vc7 := v3.c7
    go_wp2_with fail
    refine (K4.out _).mono ?_
    rintro e w4 ⟨rfl, bb⟩
    clear pc0 pc1 pc2 pc3 pc4 pc5 pc6 pc7 qc0 qc1 qc2 qc3 qc4 qc5 qc6 qc7 vc0 vc1 vc2 vc3 vc4 vc5 vc6 vc7
    have p4 := p3.bw bb
    have q4 := q3.bw bb
    have v4 := v3.bw bb
    have b4 := b3.trans (bb.mono b3.size)
    clear p3 q3 v3 b3 bb
    replace p4 := p4.al (.cells #[.int .i64 3, .int .i64 4, .int .i64 0, .int .i64 x3, .int .i64 sp, .int .i64 x7, .int .i64 r, .int .i64 s] 25)
    replace q4 := q4.al (.cells #[.int .i64 3, .int .i64 4, .int .i64 0, .int .i64 x3, .int .i64 sp, .int .i64 x7, .int .i64 r, .int .i64 s] 25)
    replace v4 := v4.al (.cells #[.int .i64 3, .int .i64 4, .int .i64 0, .int .i64 x3, .int .i64 sp, .int .i64 x7, .int .i64 r, .int .i64 s] 25)
    replace b4 := b4.alloc b4.size (.cells #[.int .i64 3, .int .i64 4, .int .i64 0, .int .i64 x3, .int .i64 sp, .int .i64 x7, .int .i64 r, .int .i64 s] 25)
    have u4 := C8.new w4 3 4 0 x3 sp x7 r s 25
    clear v4
    clear q4
    have pc0 := p4.c0
    have pc1 := p4.c1
    have pc2 := p4.c2
    have pc3 := p4.c3
    have pc4 := p4.c4
    have pc5 := p4.c5
    have pc6 := p4.c6
    have pc7 := p4.c7
    have uc0 := u4.c0
    have uc1 := u4.c1
    have uc2 := u4.c2
    have uc3 := u4.c3
    have uc4 := u4.c4
    have uc5 := u4.c5
    have uc6 := u4.c6
    have uc7 := u4.c7
    go_wp2_with fail
    refine (K3.out _).mono ?_
    rintro e w5 ⟨rfl, bb⟩
    clear pc0 pc1 pc2 pc3 pc4 pc5 pc6 pc7 uc0 uc1 uc2 uc3 uc4 uc5 uc6 uc7
    have p5 := p4.bw bb
    have u5 := u4.bw bb
    have b5 := b4.trans (bb.mono b4.size)
    clear p4 u4 b4 bb
    clear p5
    have uc0 := u5.c0
    have uc1 := u5.c1
    have uc2 := u5.c2
    have uc3 := u5.c3
    have uc4 := u5.c4
    have uc5 := u5.c5
    have uc6 := u5.c6
    have uc7 := u5.c7
    go_wp2
    go_ret
    exact ⟨ret_bool (by first | rfl | (simp; done) | simp_all), b5⟩
  · have e1 : D.le lv = 0 := if_neg hz
    have e2 : D.su lv = 1 := if_neg hz
    have hz1 : (lv == 0) = false := by rw [beq_eq_false_iff_ne]; exact hz
    have hz2 : (lv != 0) = true := by rw [bne_iff_ne]; exact hz
    rw [e1, e2] at hvp
    have K1k := fun w' => AN_impl_yes x0 x1 x2 x3 x4 x5 x6 x7 r s lv sp hA w'
    simp only [e1, e2] at K1k
    have K1 := Lib.hid K1k
    clear K1k
    have K2k := fun w' => AN_spec_yes x0 x1 x2 x3 x4 x5 x6 x7 r s lv sp hA w'
    simp only [e1, e2] at K2k
    have K2 := Lib.hid K2k
    clear K2k
    obtain ⟨hp, hb, hlv, hr, hs, hrs, hsp⟩ := hA
    have HP := Lib.hid (And.intro hp (And.intro hb (And.intro hr (And.intro hs (And.intro hrs hsp)))))
    clear hp hb hr hs hrs hsp hz
    have pc0 := p1.c0
    have pc1 := p1.c1
    have pc2 := p1.c2
    have pc3 := p1.c3
    have pc4 := p1.c4
    have pc5 := p1.c5
    have pc6 := p1.c6
    have pc7 := p1.c7
    go_wp2_with fail
    refine (K1.out _).mono ?_
    rintro e w2 ⟨rfl, bb⟩
    clear pc0 pc1 pc2 pc3 pc4 pc5 pc6 pc7
    have p2 := p1.bw bb
    have b2 := b1.trans (bb.mono b1.size)
    clear p1 b1 bb
    replace p2 := p2.al (.cells #[.int .i64 0, .int .i64 4, .int .i64 1, .int .i64 x3, .int .i64 sp, .int .i64 x7, .int .i64 r, .int .i64 s] 25)
    replace b2 := b2.alloc b2.size (.cells #[.int .i64 0, .int .i64 4, .int .i64 1, .int .i64 x3, .int .i64 sp, .int .i64 x7, .int .i64 r, .int .i64 s] 25)
    have q2 := C8.new w2 0 4 1 x3 sp x7 r s 25
    have pc0 := p2.c0
    have pc1 := p2.c1
    have pc2 := p2.c2
    have pc3 := p2.c3
    have pc4 := p2.c4
    have pc5 := p2.c5
    have pc6 := p2.c6
    have pc7 := p2.c7
    go_wp2_with fail
    refine (K2.out _).mono ?_
    rintro e w3 ⟨rfl, bb⟩
    clear pc0 pc1 pc2 pc3 pc4 pc5 pc6 pc7
    have p3 := p2.bw bb
    have q3 := q2.bw bb
    have b3 := b2.trans (bb.mono b2.size)
    clear p2 q2 b2 bb
    replace p3 := p3.al (.cells #[.int .i64 0, .int .i64 4, .int .i64 1, .int .i64 x3, .int .i64 sp, .int .i64 x7, .int .i64 r, .int .i64 s] 25)
    replace q3 := q3.al (.cells #[.int .i64 0, .int .i64 4, .int .i64 1, .int .i64 x3, .int .i64 sp, .int .i64 x7, .int .i64 r, .int .i64 s] 25)
    replace b3 := b3.alloc b3.size (.cells #[.int .i64 0, .int .i64 4, .int .i64 1, .int .i64 x3, .int .i64 sp, .int .i64 x7, .int .i64 r, .int .i64 s] 25)
    have v3 := C8.new w3 0 4 1 x3 sp x7 r s 25
    have hDq := q3.lt
    have hA0 : D.Ak x0 x1 x2 x3 x4 x5 x6 x7 r s 0 sp := ⟨HP.out.1, HP.out.2.1, by omega, HP.out.2.2.1, HP.out.2.2.2.1, HP.out.2.2.2.2.1, HP.out.2.2.2.2.2⟩
    have f1 : D.le 0 = 3 := rfl
    have f2 : D.su 0 = 0 := rfl
    have K4k := fun w' => AN_impl_yes x0 x1 x2 x3 x4 x5 x6 x7 r s 0 sp hA0 w'
    simp only [f1, f2] at K4k
    have K4 := Lib.hid K4k
    clear K4k
    have hT : ¬ (D.an x7 3 4 0 x3 sp x7 r s = true ∧ T.vs s = true) := fun h => by have := (D.an_of h.1).2.2.2.2.1; omega
    have k3 : ∀ w' : World, Calls Try.prog 19 #[.int .i64 x7, .agg #[.int .i64 3, .int .i64 4, .int .i64 0, .int .i64 x3, .int .i64 sp, .int .i64 x7, .int .i64 r, .int .i64 s], .int .i64 s] w' fun e w'' => e = .returned (.tuple #[.slice none 0 0, .bool false]) ∧ Below w'.heap.size w' w'' := fun w' => (TA_impl x7 s 3 4 0 x3 sp x7 r s w').mono fun e w'' h => by rw [if_neg hT] at h; exact h
    have K3 := Lib.hid k3
    clear k3 hT hvp hA0
    have pc0 := p3.c0
    have pc1 := p3.c1
    have pc2 := p3.c2
    have pc3 := p3.c3
    have pc4 := p3.c4
    have pc5 := p3.c5
    have pc6 := p3.c6
    have pc7 := p3.c7
    have qc0 := q3.c0
    have qc1 := q3.c1
    have qc2 := q3.c2
    have qc3 := q3.c3
    have qc4 := q3.c4
    have qc5 := q3.c5
    have qc6 := q3.c6
    have qc7 := q3.c7
    have vc0 := v3.c0
    have vc1 := v3.c1
    have vc2 := v3.c2
    have vc3 := v3.c3
    have vc4 := v3.c4
    have vc5 := v3.c5
    have vc6 := v3.c6
    have vc7 := v3.c7
    go_wp2_with fail
    refine (K4.out _).mono ?_
    rintro e w4 ⟨rfl, bb⟩
    clear pc0 pc1 pc2 pc3 pc4 pc5 pc6 pc7 qc0 qc1 qc2 qc3 qc4 qc5 qc6 qc7 vc0 vc1 vc2 vc3 vc4 vc5 vc6 vc7
    have p4 := p3.bw bb
    have q4 := q3.bw bb
    have v4 := v3.bw bb
    have b4 := b3.trans (bb.mono b3.size)
    clear p3 q3 v3 b3 bb
    replace p4 := p4.al (.cells #[.int .i64 3, .int .i64 4, .int .i64 0, .int .i64 x3, .int .i64 sp, .int .i64 x7, .int .i64 r, .int .i64 s] 25)
    replace q4 := q4.al (.cells #[.int .i64 3, .int .i64 4, .int .i64 0, .int .i64 x3, .int .i64 sp, .int .i64 x7, .int .i64 r, .int .i64 s] 25)
    replace v4 := v4.al (.cells #[.int .i64 3, .int .i64 4, .int .i64 0, .int .i64 x3, .int .i64 sp, .int .i64 x7, .int .i64 r, .int .i64 s] 25)
    replace b4 := b4.alloc b4.size (.cells #[.int .i64 3, .int .i64 4, .int .i64 0, .int .i64 x3, .int .i64 sp, .int .i64 x7, .int .i64 r, .int .i64 s] 25)
    have u4 := C8.new w4 3 4 0 x3 sp x7 r s 25
    clear v4
    clear q4
    have pc0 := p4.c0
    have pc1 := p4.c1
    have pc2 := p4.c2
    have pc3 := p4.c3
    have pc4 := p4.c4
    have pc5 := p4.c5
    have pc6 := p4.c6
    have pc7 := p4.c7
    have uc0 := u4.c0
    have uc1 := u4.c1
    have uc2 := u4.c2
    have uc3 := u4.c3
    have uc4 := u4.c4
    have uc5 := u4.c5
    have uc6 := u4.c6
    have uc7 := u4.c7
    go_wp2_with fail
    refine (K3.out _).mono ?_
    rintro e w5 ⟨rfl, bb⟩
    clear pc0 pc1 pc2 pc3 pc4 pc5 pc6 pc7 uc0 uc1 uc2 uc3 uc4 uc5 uc6 uc7
    have p5 := p4.bw bb
    have u5 := u4.bw bb
    have b5 := b4.trans (bb.mono b4.size)
    clear p4 u4 b4 bb
    clear p5
    have uc0 := u5.c0
    have uc1 := u5.c1
    have uc2 := u5.c2
    have uc3 := u5.c3
    have uc4 := u5.c4
    have uc5 := u5.c5
    have uc6 := u5.c6
    have uc7 := u5.c7
    go_wp2
    go_ret
    exact ⟨ret_bool (by first | rfl | (simp; done) | simp_all), b5⟩

/-! ### THE ROW's STEP: WRITTEN OUT: LEAVE IT -/
set_option maxRecDepth 100000 in
theorem lifted (os : Os) (started : os.Started) (H : Type) (enc : TypeId × Value → H) :
    ReturnsInHanded {} Try.checked os 8 .any (Rows.fnAnswerClientAlarmSpec.pre6 enc Try.prog Try.f8 Rows.fnAnswerClientAlarmRow.domain false) (Rows.fnAnswerClientAlarmSpec.post enc Try.prog Try.f8 false true false false) := by
  refine returnsInHanded_of_change (C := Try.checked) own started (by kernel_rfl) Try.func8
    (ChangeSpec.witness6 (enc := enc) (C := Try.checked) false ⟨#[], #[.slice none 0 0], []⟩ 8 (by kernel_rfl) (by kernel_rfl) (by kernel_rfl) (by kernel_rfl)) ?_
  intro W base args ds gs before hval0 hW hcnd _
  have hval : ∀ (j : Nat) t v, Try.f8.params[j]? = some t → args[j]? = some v → Value.okWide Try.prog W .any base t v := hval0
  have hW' := hW
  obtain ⟨p, q, hA0, hV, rfl, hfz, hnd⟩ := hW
  have hA : DataW.TrodAll enc Try.prog W 0 (fun _ => true) true Try.f8.params.toList args.toList ds p := hA0
  rw [Try.params8] at hA hval
  obtain ⟨v0, vs0, d0, ds0, p0, q0, hargs, rfl, rfl, h0, r0⟩ := trodAll_cons hA
  obtain ⟨rfl, rfl, rfl⟩ := trodAll_nil r0
  obtain rfl : args = #[v0] := by cases args; simp_all
  obtain ⟨rfl, rfl⟩ := trodVars_none hV
  obtain ⟨a0, len0, cap0, rfl⟩ := okWide_slice Try.underlying22 (hval 0 22 v0 rfl rfl)
  have k0 := h0
  have lt0 : ∀ x ∈ p0, x.block < W.heap.size := by obtain ⟨m, hm⟩ := k0; exact DataW.trod_lt m _ _ _ hm
  obtain ⟨z0, w0⟩ : ∃ zs, IsRow .u8 W a0 len0 cap0 zs := by
    obtain ⟨fuel, hf⟩ := h0
    rcases open_ints Try.underlying22 Try.underlying5 (by kernel_rfl) hf with ⟨hcs, _⟩ | ⟨x, l, c, zs, hcs, _, hl, hm, hz, _, hcell, hwz⟩
    · simp [Value.cells] at hcs
      obtain ⟨rfl, rfl, rfl⟩ := hcs
      exact ⟨[], .inl ⟨rfl, rfl, rfl, rfl⟩⟩
    · simp [Value.cells] at hcs
      obtain ⟨rfl, rfl, rfl⟩ := hcs
      exact ⟨zs, .inr ⟨_, rfl, hl, hm, by simpa using hz, hcell, hwz⟩⟩
  clear hA0 hval0
  refine (walk a0 len0 cap0 z0 W w0).mono fun e W' ⟨he, bel⟩ => ?_
  subst he
  exact ⟨_, rfl, _, _, _, [], _, [], hW', trodAll_mk1 (shut_bool Try.underlying4 _), (trodAll_cons_mk (Below.trod laidOut (by kernel_rfl) (of_decide_eq_true (by kernel_rfl)) k0 bel lt0) trodAll_mk0), rfl, bel.frame _, fun h => by cases h⟩

theorem over : Rows.fnAnswerClientAlarmRow.holds Try.pinned (OpenSpec.ofChange Rows.fnAnswerClientAlarmSpec) :=
  OpenClaim.holds_of_wide 8 Try.f8 rfl rfl rfl rfl rfl rfl rfl ⟨rfl, rfl, rfl, rfl, rfl⟩ rfl rfl rfl rfl rfl (by kernel_rfl) Try.func8 (by kernel_rfl)
    (of_decide_eq_true (by kernel_rfl)) (by unfold Func.isWrapper; first | (rw [if_pos (by decide +kernel)]; kernel_rfl) | (rw [if_neg (by decide +kernel)]; exact ⟨rfl, rfl⟩))
    (fun os started H enc _ => lifted os started H enc)

/-- ████ THE STATEMENT ████ -/
theorem proved : Rows.FnAnswerClientAlarmSaid := over
#print axioms proved
end Go.Proofs.Ytigaifnoicnafaa.fnAnswerClientAlarm
