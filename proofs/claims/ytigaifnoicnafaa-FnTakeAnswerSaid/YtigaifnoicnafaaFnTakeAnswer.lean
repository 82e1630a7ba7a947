/-
  PROVED: FnTakeAnswer: for every input the law returns true, and the input reads as it did. No condition.
  The frame is as the kit prints it (proof-skeleton.mjs); the walk is mine.
-/
import Derived.Test.YtigaifnoicnafaaRows
import Derived.Test.YtigaifnoicnafaaCopyD
import Derived.Test.YtigaifnoicnafaaTake
import Derived.Test.YtigaifnoicnafaaDrawAn
import Derived.Test.YtigaifnoicnafaaMarkI
import Derived.Test.YtigaifnoicnafaaLq
import Derived.WalkKit
import Derived.ProofKit
import Derived.OpenShut
import Derived.ShutString
import Derived.ChangeOld
import Derived.Below
namespace Go.Proofs.Ytigaifnoicnafaa.fnTakeAnswer
open Go.ChangeShapes Go.WideShapes Go.ChangeAt Go.RowKit
open Go.ChangeMaps (open_string shut_string)
set_option linter.unusedVariables false

theorem own : ownKnob Try.prog.godebug = none := by kernel_rfl
theorem laidOut : laidOutB Try.prog = true := by kernel_rfl

/-- WHAT THE WALK IS TOLD OF A SLICE OF INTEGERS THAT CAME IN: it is nil; or it leads to a row of 'cap' cells, the numbers 'zs' (the first 'len' are its elements, the rest its spare room), each fitting its kind. -/
def IsRow (k : IntKind) (w : World) (a : Option Addr) (len cap : Nat) (zs : List Int) : Prop :=
  (a = none ∧ len = 0 ∧ cap = 0 ∧ zs = []) ∨
  ∃ x, a = some x ∧ len ≤ cap ∧ cap ≤ maxLen ∧ zs.length = cap ∧ (∀ i, i < zs.length → w.cell? (x.add i) = some (.int k (zs.getD i 0))) ∧ ∀ n ∈ zs, (Lit.int k n).wf = true

/-! ### STEP 1: THE WALK: the Go text returns true, AND WRITES NOTHING THAT WAS THERE: 'Below w.heap.size w w'' (Derived/Below.lean: '.refl', '.alloc', '.drew', '.setCell' at a new block, '.trans'). Open each 'IsRow' by 'rcases' AHEAD of 'go_enter'; part every test ahead of the walk. -/
set_option maxRecDepth 100000 in
set_option maxHeartbeats 4000000 in
theorem walk (a0 : Option Addr) (len0 cap0 : Nat) (z0 : List Int) (w : World) (w0 : IsRow .u8 w a0 len0 cap0 z0) :
    Calls Try.prog 6 #[.slice a0 len0 cap0] w fun e w' => e = .returned (.bool true) ∧ Below w.heap.size w w' := by
  by_cases hl : 1048576 < len0
  · have hl' : (1048576 : Int) < (len0 : Int) := by omega
    clear w0 hl
    go_enter Try.func6, Try.ntmps6
    go_wp2
    go_ret
    exact ⟨rfl, Below.refl _ _⟩
  have hl' : ¬ (1048576 : Int) < (len0 : Int) := by omega
  obtain ⟨hc, hcap⟩ := code_of w0 (by omega)
  clear w0 hl
  go_enter Try.func6, Try.ntmps6
  go_wp2_with fail
  refine (DrawTakeAnswer_any w a0 len0 cap0 hc hcap).mono ?_
  rintro e w1 ⟨q, x0, x1, x2, x3, x4, x5, x6, x7, r, rfl, bl⟩
  clear hc hcap
  have p1 := C8.new w1 x0 x1 x2 x3 x4 x5 x6 x7 25
  have b1 := bl.alloc bl.size (.cells #[.int .i64 x0, .int .i64 x1, .int .i64 x2, .int .i64 x3, .int .i64 x4, .int .i64 x5, .int .i64 x6, .int .i64 x7] 25)
  clear bl
  by_cases hT : D.an q x0 x1 x2 x3 x4 x5 x6 x7 = true ∧ T.vs r = true
  rotate_left
  · have K1 : Hid (∀ w' : World, Calls Try.prog 19 #[.int .i64 q, .agg #[.int .i64 x0, .int .i64 x1, .int .i64 x2, .int .i64 x3, .int .i64 x4, .int .i64 x5, .int .i64 x6, .int .i64 x7], .int .i64 r] w' fun e w'' => e = .returned (.tuple #[.slice none 0 0, .bool false]) ∧ Below w'.heap.size w' w'') := Lib.hid (fun w' => (TA_impl q r x0 x1 x2 x3 x4 x5 x6 x7 w').mono fun e w'' h => by rw [if_neg hT] at h; exact h)
    have K2 : Hid (∀ w' : World, Calls Try.prog 22 #[.int .i64 q, .agg #[.int .i64 x0, .int .i64 x1, .int .i64 x2, .int .i64 x3, .int .i64 x4, .int .i64 x5, .int .i64 x6, .int .i64 x7], .int .i64 r] w' fun e w'' => e = .returned (.tuple #[.slice none 0 0, .bool false]) ∧ Below w'.heap.size w' w'') := Lib.hid (fun w' => (TA_spec q r x0 x1 x2 x3 x4 x5 x6 x7 w').mono fun e w'' h => by rw [if_neg hT] at h; exact h)
    clear hT
    have pc0 := p1.c0
    have pc1 := p1.c1
    have pc2 := p1.c2
    have pc3 := p1.c3
    have pc4 := p1.c4
    have pc5 := p1.c5
    have pc6 := p1.c6
    have pc7 := p1.c7
    go_wp2_with fail
    refine (K1.out _).mono ?_
    rintro e w2 ⟨rfl, bb⟩
    clear pc0 pc1 pc2 pc3 pc4 pc5 pc6 pc7
    have p2 := p1.bw bb
    have b2 := b1.trans (bb.mono b1.size)
    clear p1 b1 bb
    have pc0 := p2.c0
    have pc1 := p2.c1
    have pc2 := p2.c2
    have pc3 := p2.c3
    have pc4 := p2.c4
    have pc5 := p2.c5
    have pc6 := p2.c6
    have pc7 := p2.c7
    go_wp2_with fail
    refine (K2.out _).mono ?_
    rintro e w3 ⟨rfl, bb⟩
    clear pc0 pc1 pc2 pc3 pc4 pc5 pc6 pc7
    have p3 := p2.bw bb
    have b3 := b2.trans (bb.mono b2.size)
    clear p2 b2 bb
    go_wp2_with fail
    refine (equalInts_any 0 0 0 0 none none [] _ (Lst.none_ _ _ _) (Lst.none_ _ _ _)).mono ?_
    rintro e w4 ⟨rfl, qq⟩
    have bb : Below w3.heap.size w3 w4 := qq.below
    clear qq
    have p4 := p3.bw bb
    have b4 := b3.trans (bb.mono b3.size)
    clear p3 b3 bb
    go_wp2_with fail
    refine (equalInts_any 0 0 0 0 none none [] _ (Lst.none_ _ _ _) (Lst.none_ _ _ _)).mono ?_
    rintro e w5 ⟨rfl, qq⟩
    have bb : Below w4.heap.size w4 w5 := qq.below
    clear qq
    have p5 := p4.bw bb
    have b5 := b4.trans (bb.mono b4.size)
    clear p4 b4 bb
    go_wp2
    go_ret
    exact ⟨ret_bool (by first | rfl | (simp; done) | simp_all), b5⟩
  obtain ⟨hA, hr⟩ := hT
  have hA' := hA
  obtain ⟨hp, hb, rfl, hk, hc, ha⟩ := D.an_of hA'
  obtain ⟨_, _, v3, _, _, v6, v7, v8⟩ := D.vp_of hp
  have t5 := T.vs_of v6
  have t6 := T.vs_of v7
  have t7 := T.vs_of v8
  have t8 := T.vs_of hr
  clear hA' ha hb v6 v7 v8
  have K1 : Hid (∀ w' : World, Calls Try.prog 19 #[.int .i64 x5, .agg #[.int .i64 x0, .int .i64 x1, .int .i64 x2, .int .i64 x3, .int .i64 x4, .int .i64 x5, .int .i64 x6, .int .i64 x7], .int .i64 r] w' (Taken w' x5 x6 x7 r)) := Lib.hid (fun w' => (TA_impl x5 r x0 x1 x2 x3 x4 x5 x6 x7 w').mono fun e w'' h => by rw [if_pos ⟨hA, hr⟩] at h; exact h)
  have K2 : Hid (∀ w' : World, Calls Try.prog 22 #[.int .i64 x5, .agg #[.int .i64 x0, .int .i64 x1, .int .i64 x2, .int .i64 x3, .int .i64 x4, .int .i64 x5, .int .i64 x6, .int .i64 x7], .int .i64 r] w' (Taken w' x5 x6 x7 r)) := Lib.hid (fun w' => (TA_spec x5 r x0 x1 x2 x3 x4 x5 x6 x7 w').mono fun e w'' h => by rw [if_pos ⟨hA, hr⟩] at h; exact h)
  have hN : ¬ (D.an (x5 + 1) x0 x1 x2 x3 x4 x5 x6 x7 = true ∧ T.vs r = true) := fun h => by have := (D.an_of h.1).2.2.1; omega
  have K3 : Hid (∀ w' : World, Calls Try.prog 19 #[.int .i64 (x5 + 1), .agg #[.int .i64 x0, .int .i64 x1, .int .i64 x2, .int .i64 x3, .int .i64 x4, .int .i64 x5, .int .i64 x6, .int .i64 x7], .int .i64 r] w' fun e w'' => e = .returned (.tuple #[.slice none 0 0, .bool false]) ∧ Below w'.heap.size w' w'') := Lib.hid (fun w' => (TA_impl (x5 + 1) r x0 x1 x2 x3 x4 x5 x6 x7 w').mono fun e w'' h => by rw [if_neg hN] at h; exact h)
  have HV := Lib.hid (O.vo_four t5 t6 t7 t8)
  have hc2 : 0 < x2 := by omega
  have hgk : x6 ≤ x7 := by omega
  clear hN hA hr hp hk hc
  have pc0 := p1.c0
  have pc1 := p1.c1
  have pc2 := p1.c2
  have pc3 := p1.c3
  have pc4 := p1.c4
  have pc5 := p1.c5
  have pc6 := p1.c6
  have pc7 := p1.c7
  go_wp2_with fail
  refine (K1.out _).mono ?_
  rintro e w2 ⟨E, hE1, rfl, q4, bb⟩
  clear pc0 pc1 pc2 pc3 pc4 pc5 pc6 pc7
  have p2 := p1.bw bb
  have b2 := b1.trans (bb.mono b1.size)
  clear p1 b1 bb
  have e2 := q4
  clear q4
  have pc0 := p2.c0
  have pc1 := p2.c1
  have pc2 := p2.c2
  have pc3 := p2.c3
  have pc4 := p2.c4
  have pc5 := p2.c5
  have pc6 := p2.c6
  have pc7 := p2.c7
  go_wp2_with fail
  refine (K2.out _).mono ?_
  rintro e w3 ⟨F, hE2, rfl, q4, bb⟩
  clear pc0 pc1 pc2 pc3 pc4 pc5 pc6 pc7
  have p3 := p2.bw bb
  have e3 := e2.b bb
  have b3 := b2.trans (bb.mono b2.size)
  clear p2 e2 b2 bb
  have f3 := q4
  clear q4
  go_wp2_with fail
  refine (equalInts_any 4 _ _ _ _ _ _ _ e3.lst f3.lst).mono ?_
  rintro e w4 ⟨rfl, qq⟩
  have bb : Below w3.heap.size w3 w4 := qq.below
  clear qq
  have p4 := p3.bw bb
  have e4 := e3.b bb
  have f4 := f3.b bb
  have b4 := b3.trans (bb.mono b3.size)
  clear p3 e3 f3 b3 bb
  clear f4
  have pc0 := p4.c0
  have pc1 := p4.c1
  have pc2 := p4.c2
  have pc3 := p4.c3
  have pc4 := p4.c4
  have pc5 := p4.c5
  have pc6 := p4.c6
  have pc7 := p4.c7
  go_wp2_with fail
  refine (K3.out _).mono ?_
  rintro e w5 ⟨rfl, bb⟩
  clear pc0 pc1 pc2 pc3 pc4 pc5 pc6 pc7
  have p5 := p4.bw bb
  have e5 := e4.b bb
  have b5 := b4.trans (bb.mono b4.size)
  clear p4 e4 b4 bb
  go_wp2_with fail
  refine (OFi_yes _ _ _ _ _ _ HV.out e5.lst (Nat.le_refl _)).mono ?_
  rintro e w6 ⟨rfl, bb⟩
  have p6 := p5.bw bb
  have e6 := e5.b bb
  have b6 := b5.trans (bb.mono b5.size)
  clear p5 e5 b5 bb
  have y2 := p6.c2
  have y5 := p6.c5
  have z1 := e6.c1
  have z2 := e6.c2
  have b7 := Lib.hid b6
  clear p6 e6 b6
  go_wp2
  go_quiet (fail)
  go_wp2
  go_ret
  exact ⟨ret_bool (by first | rfl | (simp; done) | simp_all), below_drewN b7.out _⟩

/-! ### THE ROW's STEP: WRITTEN OUT: LEAVE IT -/
set_option maxRecDepth 100000 in
theorem lifted (os : Os) (started : os.Started) (H : Type) (enc : TypeId × Value → H) :
    ReturnsInHanded {} Try.checked os 6 .any (Rows.fnTakeAnswerSpec.pre6 enc Try.prog Try.f6 Rows.fnTakeAnswerRow.domain false) (Rows.fnTakeAnswerSpec.post enc Try.prog Try.f6 false true false false) := by
  refine returnsInHanded_of_change (C := Try.checked) own started (by kernel_rfl) Try.func6
    (ChangeSpec.witness6 (enc := enc) (C := Try.checked) false ⟨#[], #[.slice none 0 0], []⟩ 8 (by kernel_rfl) (by kernel_rfl) (by kernel_rfl) (by kernel_rfl)) ?_
  intro W base args ds gs before hval0 hW hcnd _
  have hval : ∀ (j : Nat) t v, Try.f6.params[j]? = some t → args[j]? = some v → Value.okWide Try.prog W .any base t v := hval0
  have hW' := hW
  obtain ⟨p, q, hA0, hV, rfl, hfz, hnd⟩ := hW
  have hA : DataW.TrodAll enc Try.prog W 0 (fun _ => true) true Try.f6.params.toList args.toList ds p := hA0
  rw [Try.params6] at hA hval
  obtain ⟨v0, vs0, d0, ds0, p0, q0, hargs, rfl, rfl, h0, r0⟩ := trodAll_cons hA
  obtain ⟨rfl, rfl, rfl⟩ := trodAll_nil r0
  obtain rfl : args = #[v0] := by cases args; simp_all
  obtain ⟨rfl, rfl⟩ := trodVars_none hV
  obtain ⟨a0, len0, cap0, rfl⟩ := okWide_slice Try.underlying22 (hval 0 22 v0 rfl rfl)
  have k0 := h0
  have lt0 : ∀ x ∈ p0, x.block < W.heap.size := by obtain ⟨m, hm⟩ := k0; exact DataW.trod_lt m _ _ _ hm
  obtain ⟨z0, w0⟩ : ∃ zs, IsRow .u8 W a0 len0 cap0 zs := by
    obtain ⟨fuel, hf⟩ := h0
    rcases open_ints Try.underlying22 Try.underlying5 (by kernel_rfl) hf with ⟨hcs, _⟩ | ⟨x, l, c, zs, hcs, _, hl, hm, hz, _, hcell, hwz⟩
    · simp [Value.cells] at hcs
      obtain ⟨rfl, rfl, rfl⟩ := hcs
      exact ⟨[], .inl ⟨rfl, rfl, rfl, rfl⟩⟩
    · simp [Value.cells] at hcs
      obtain ⟨rfl, rfl, rfl⟩ := hcs
      exact ⟨zs, .inr ⟨_, rfl, hl, hm, by simpa using hz, hcell, hwz⟩⟩
  clear hA0 hval0
  refine (walk a0 len0 cap0 z0 W w0).mono fun e W' ⟨he, bel⟩ => ?_
  subst he
  exact ⟨_, rfl, _, _, _, [], _, [], hW', trodAll_mk1 (shut_bool Try.underlying4 _), (trodAll_cons_mk (Below.trod laidOut (by kernel_rfl) (of_decide_eq_true (by kernel_rfl)) k0 bel lt0) trodAll_mk0), rfl, bel.frame _, fun h => by cases h⟩

theorem over : Rows.fnTakeAnswerRow.holds Try.pinned (OpenSpec.ofChange Rows.fnTakeAnswerSpec) :=
  OpenClaim.holds_of_wide 6 Try.f6 rfl rfl rfl rfl rfl rfl rfl ⟨rfl, rfl, rfl, rfl, rfl⟩ rfl rfl rfl rfl rfl (by kernel_rfl) Try.func6 (by kernel_rfl)
    (of_decide_eq_true (by kernel_rfl)) (by unfold Func.isWrapper; first | (rw [if_pos (by decide +kernel)]; kernel_rfl) | (rw [if_neg (by decide +kernel)]; exact ⟨rfl, rfl⟩))
    (fun os started H enc _ => lifted os started H enc)

/-- ████ THE STATEMENT ████ -/
theorem proved : Rows.FnTakeAnswerSaid := over
#print axioms proved
end Go.Proofs.Ytigaifnoicnafaa.fnTakeAnswer
