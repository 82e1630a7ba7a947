/-
  PROVED: FnErrorAtSteady: for every input the law returns true, and the input reads as it did. No condition.
  The frame is as the kit prints it (proof-skeleton.mjs); the walk is mine.
-/
import Derived.Test.YtinckfakmipmlaaRows
import Derived.Test.YtinckfakmipmlaaCopyK
import Derived.Test.YtinckfakmipmlaaDrawH
import Derived.Test.YtinckfakmipmlaaHoldB
import Derived.WalkKit
import Derived.ProofKit
import Derived.OpenShut
import Derived.ShutString
import Derived.ChangeOld
import Derived.Below
namespace Go.Proofs.Ytinckfakmipmlaa.fnErrorAtSteady
open Go.ChangeShapes Go.WideShapes Go.ChangeAt Go.RowKit
open Go.ChangeMaps (open_string shut_string)
set_option linter.unusedVariables false

theorem own : ownKnob Try.prog.godebug = none := by kernel_rfl
theorem laidOut : laidOutB Try.prog = true := by kernel_rfl

/-- WHAT THE WALK IS TOLD OF A SLICE OF INTEGERS THAT CAME IN: it is nil; or it leads to a row of 'cap' cells, the numbers 'zs' (the first 'len' are its elements, the rest its spare room), each fitting its kind. -/
def IsRow (k : IntKind) (w : World) (a : Option Addr) (len cap : Nat) (zs : List Int) : Prop :=
  (a = none ∧ len = 0 ∧ cap = 0 ∧ zs = []) ∨
  ∃ x, a = some x ∧ len ≤ cap ∧ cap ≤ maxLen ∧ zs.length = cap ∧ (∀ i, i < zs.length → w.cell? (x.add i) = some (.int k (zs.getD i 0))) ∧ ∀ n ∈ zs, (Lit.int k n).wf = true

/-! ### STEP 1: THE WALK: the Go text returns true, AND WRITES NOTHING THAT WAS THERE: 'Below w.heap.size w w'' (Derived/Below.lean: '.refl', '.alloc', '.drew', '.setCell' at a new block, '.trans'). Open each 'IsRow' by 'rcases' AHEAD of 'go_enter'; part every test ahead of the walk. -/
set_option maxRecDepth 100000 in
set_option maxHeartbeats 4000000 in
theorem walk (a0 : Option Addr) (len0 cap0 : Nat) (z0 : List Int) (w : World) (w0 : IsRow .u8 w a0 len0 cap0 z0) :
    Calls Try.prog 5 #[.slice a0 len0 cap0] w fun e w' => e = .returned (.bool true) ∧ Below w.heap.size w w' := by
  by_cases hl : 1048576 < len0
  · have hl' : (1048576 : Int) < (len0 : Int) := by omega
    clear w0 hl
    go_enter Try.func5, Try.ntmps5
    go_wp2
    go_ret
    exact ⟨rfl, Below.refl _ _⟩
  have hl' : ¬ (1048576 : Int) < (len0 : Int) := by omega
  obtain ⟨hc, hcap⟩ := code_of w0 (by omega)
  clear w0 hl
  go_enter Try.func5, Try.ntmps5
  go_wp2_with fail
  refine (DrawErrorAt_any w a0 len0 cap0 hc hcap).mono ?_
  rintro e w1 ⟨o, p, c, t, rfl, ho, hp, hc, ht, bl⟩
  clear hc hcap
  have st1 := Kq.new bl o p c 24
  have r10 := st1.here.c0
  have r11 := st1.here.c1
  have r12 := st1.here.c2
  clear bl
  have k1 := fun w' => EA_impl o p c t w'
  have k2 := fun w' => EA_spec o p c t w'
  rcases hv : H.ok o p c t with _ | _
  · simp only [H.ea_no hv] at k1 k2
    have K1 := Lib.hid k1
    have K2 := Lib.hid k2
    clear k1 k2 hv
    go_wp2_with fail
    refine (K1.out _).mono ?_
    rintro e w2 ⟨rfl, b2⟩
    have st2 := st1.b b2
    have r20 := st2.here.c0
    have r21 := st2.here.c1
    have r22 := st2.here.c2
    clear st1 b2 r10 r11 r12
    go_wp2_with fail
    refine (K2.out _).mono ?_
    rintro e w3 ⟨rfl, b3⟩
    have st3 := st2.b b3
    have r30 := st3.here.c0
    have r31 := st3.here.c1
    have r32 := st3.here.c2
    clear st2 b3 r20 r21 r22
    go_wp2_with fail
    refine (K2.out _).mono ?_
    rintro e w4 ⟨rfl, b4⟩
    have st4 := st3.b b4
    have r40 := st4.here.c0
    have r41 := st4.here.c1
    have r42 := st4.here.c2
    clear st3 b4 r30 r31 r32
    go_wp2
    go_ret
    exact ⟨ret_bool (by first | rfl | simp), st4.bel⟩
  · have hb := H.er_bd hv
    have h0 := H.ok_of hv
    have hvv := H.vs_of h0.1
    have hmul := H.mul_in (w := p) (d := t - c) hvv.2.1 (by omega)
    have hs : H.ok o 0 c t = true := H.ok_yes ⟨H.vs_yes ⟨hvv.1, by omega, hvv.2.2⟩, h0.2⟩
    have hse : H.er o 0 c t = o := by unfold H.er; rw [Int.zero_mul]; omega
    have k3 := fun w' => EA_impl o 0 c t w'
    simp only [H.ea_yes hs, hse] at k3
    simp only [H.ea_yes hv] at k1 k2
    have e1 : IntKind.i64.wrap (t - c) = t - c := IntWalk.i64_in _ (by omega)
    have e2 : IntKind.i64.wrap (p * (t - c)) = p * (t - c) := IntWalk.i64_in _ (by omega)
    have e3 : IntKind.i64.wrap (o + p * (t - c)) = o + p * (t - c) := IntWalk.i64_in _ (by omega)
    have hdef : H.er o p c t = min (o + p * (t - c)) 1000000 := rfl
    have HM := Lib.hid hmul
    have HD := Lib.hid hdef
    have K3 := Lib.hid k3
    clear k3 hv hs hse hmul hdef
    obtain ⟨g3, g4, g5⟩ := hb
    by_cases hX : o + p * (t - c) ≤ 1000000
    · have hd : H.er o p c t = o + p * (t - c) := by rw [HD.out]; omega
      simp only [hd] at k1 k2 g3 g4 g5
      have K1 := Lib.hid k1
      have K2 := Lib.hid k2
      have gX : min 1000000 (o + p * (t - c)) = o + p * (t - c) := by omega
      clear k1 k2 hd h0 hvv
      go_wp2_with fail
      refine (K1.out _).mono ?_
      rintro e w2 ⟨rfl, b2⟩
      have st2 := st1.b b2
      have r20 := st2.here.c0
      have r21 := st2.here.c1
      have r22 := st2.here.c2
      clear st1 b2 r10 r11 r12
      go_wp2_with fail
      refine (K2.out _).mono ?_
      rintro e w3 ⟨rfl, b3⟩
      have st3 := st2.b b3
      have r30 := st3.here.c0
      have r31 := st3.here.c1
      have r32 := st3.here.c2
      clear st2 b3 r20 r21 r22
      go_wp2_with fail
      have hSt := And.intro st3.bel (And.intro st3.here.lt (And.intro r30 (And.intro r31 r32)))
      clear st3
      go_region_held3 (fun w' => Below w.heap.size w w' ∧ w1.heap.size < w'.heap.size ∧ w'.cell? ⟨w1.heap.size, 0, none⟩ = some (.int .i64 o) ∧ w'.cell? ⟨w1.heap.size, 1, none⟩ = some (.int .i64 p) ∧ w'.cell? ⟨w1.heap.size, 2, none⟩ = some (.int .i64 c))
        (first | assumption | exact hSt | exact ⟨hSt.1.drew, hSt.2⟩ | exact keepC hb (by assumption))
        ((first | (go_at_call 17; refine (K3.out _).mono ?_; rintro e w5 ⟨rfl, hb⟩)))
      all_goals go_wp2
      all_goals
        go_ret
        exact ⟨ret_bool (by first | rfl | (simp; done) | (simp; omega)), (‹Below w.heap.size w w5 ∧ _›).1⟩
    · have hd : H.er o p c t = 1000000 := by rw [HD.out]; omega
      simp only [hd] at k1 k2 g3 g4 g5
      have K1 := Lib.hid k1
      have K2 := Lib.hid k2
      have gX : min 1000000 (o + p * (t - c)) = 1000000 := by omega
      clear k1 k2 hd h0 hvv
      go_wp2_with fail
      refine (K1.out _).mono ?_
      rintro e w2 ⟨rfl, b2⟩
      have st2 := st1.b b2
      have r20 := st2.here.c0
      have r21 := st2.here.c1
      have r22 := st2.here.c2
      clear st1 b2 r10 r11 r12
      go_wp2_with fail
      refine (K2.out _).mono ?_
      rintro e w3 ⟨rfl, b3⟩
      have st3 := st2.b b3
      have r30 := st3.here.c0
      have r31 := st3.here.c1
      have r32 := st3.here.c2
      clear st2 b3 r20 r21 r22
      go_wp2_with fail
      have hSt := And.intro st3.bel (And.intro st3.here.lt (And.intro r30 (And.intro r31 r32)))
      clear st3
      go_region_held3 (fun w' => Below w.heap.size w w' ∧ w1.heap.size < w'.heap.size ∧ w'.cell? ⟨w1.heap.size, 0, none⟩ = some (.int .i64 o) ∧ w'.cell? ⟨w1.heap.size, 1, none⟩ = some (.int .i64 p) ∧ w'.cell? ⟨w1.heap.size, 2, none⟩ = some (.int .i64 c))
        (first | assumption | exact hSt | exact ⟨hSt.1.drew, hSt.2⟩ | exact keepC hb (by assumption))
        ((first | (go_at_call 17; refine (K3.out _).mono ?_; rintro e w5 ⟨rfl, hb⟩)))
      all_goals go_wp2
      all_goals
        go_ret
        exact ⟨ret_bool (by first | rfl | (simp; done) | (simp; omega)), (‹Below w.heap.size w w5 ∧ _›).1⟩

/-! ### THE ROW's STEP: WRITTEN OUT: LEAVE IT -/
set_option maxRecDepth 100000 in
theorem lifted (os : Os) (started : os.Started) (H : Type) (enc : TypeId × Value → H) :
    ReturnsInHanded {} Try.checked os 5 .any (Rows.fnErrorAtSteadySpec.pre6 enc Try.prog Try.f5 Rows.fnErrorAtSteadyRow.domain false) (Rows.fnErrorAtSteadySpec.post enc Try.prog Try.f5 false true false false) := by
  refine returnsInHanded_of_change (C := Try.checked) own started (by kernel_rfl) Try.func5
    (ChangeSpec.witness6 (enc := enc) (C := Try.checked) false ⟨#[], #[.slice none 0 0], []⟩ 8 (by kernel_rfl) (by kernel_rfl) (by kernel_rfl) (by kernel_rfl)) ?_
  intro W base args ds gs before hval0 hW hcnd _
  have hval : ∀ (j : Nat) t v, Try.f5.params[j]? = some t → args[j]? = some v → Value.okWide Try.prog W .any base t v := hval0
  have hW' := hW
  obtain ⟨p, q, hA0, hV, rfl, hfz, hnd⟩ := hW
  have hA : DataW.TrodAll enc Try.prog W 0 (fun _ => true) true Try.f5.params.toList args.toList ds p := hA0
  rw [Try.params5] at hA hval
  obtain ⟨v0, vs0, d0, ds0, p0, q0, hargs, rfl, rfl, h0, r0⟩ := trodAll_cons hA
  obtain ⟨rfl, rfl, rfl⟩ := trodAll_nil r0
  obtain rfl : args = #[v0] := by cases args; simp_all
  obtain ⟨rfl, rfl⟩ := trodVars_none hV
  obtain ⟨a0, len0, cap0, rfl⟩ := okWide_slice Try.underlying22 (hval 0 22 v0 rfl rfl)
  have k0 := h0
  have lt0 : ∀ x ∈ p0, x.block < W.heap.size := by obtain ⟨m, hm⟩ := k0; exact DataW.trod_lt m _ _ _ hm
  obtain ⟨z0, w0⟩ : ∃ zs, IsRow .u8 W a0 len0 cap0 zs := by
    obtain ⟨fuel, hf⟩ := h0
    rcases open_ints Try.underlying22 Try.underlying5 (by kernel_rfl) hf with ⟨hcs, _⟩ | ⟨x, l, c, zs, hcs, _, hl, hm, hz, _, hcell, hwz⟩
    · simp [Value.cells] at hcs
      obtain ⟨rfl, rfl, rfl⟩ := hcs
      exact ⟨[], .inl ⟨rfl, rfl, rfl, rfl⟩⟩
    · simp [Value.cells] at hcs
      obtain ⟨rfl, rfl, rfl⟩ := hcs
      exact ⟨zs, .inr ⟨_, rfl, hl, hm, by simpa using hz, hcell, hwz⟩⟩
  clear hA0 hval0
  refine (walk a0 len0 cap0 z0 W w0).mono fun e W' ⟨he, bel⟩ => ?_
  subst he
  exact ⟨_, rfl, _, _, _, [], _, [], hW', trodAll_mk1 (shut_bool Try.underlying4 _), (trodAll_cons_mk (Below.trod laidOut (by kernel_rfl) (of_decide_eq_true (by kernel_rfl)) k0 bel lt0) trodAll_mk0), rfl, bel.frame _, fun h => by cases h⟩

theorem over : Rows.fnErrorAtSteadyRow.holds Try.pinned (OpenSpec.ofChange Rows.fnErrorAtSteadySpec) :=
  OpenClaim.holds_of_wide 5 Try.f5 rfl rfl rfl rfl rfl rfl rfl ⟨rfl, rfl, rfl, rfl, rfl⟩ rfl rfl rfl rfl rfl (by kernel_rfl) Try.func5 (by kernel_rfl)
    (of_decide_eq_true (by kernel_rfl)) (by unfold Func.isWrapper; first | (rw [if_pos (by decide +kernel)]; kernel_rfl) | (rw [if_neg (by decide +kernel)]; exact ⟨rfl, rfl⟩))
    (fun os started H enc _ => lifted os started H enc)

/-- ████ THE STATEMENT ████ -/
theorem proved : Rows.FnErrorAtSteadySaid := over
#print axioms proved
end Go.Proofs.Ytinckfakmipmlaa.fnErrorAtSteady
