/-
  PROVED: FnCrossesZero: for every input the law returns true, and the input reads as it did. No condition.
  The frame is as the kit prints it (proof-skeleton.mjs); the walk is mine.
-/
import Derived.Test.YtmkeddcaeaaoaacRows
import Derived.Test.YtmkeddcaeaaoaacCopyK
import Derived.Test.YtmkeddcaeaaoaacDrawK2
import Derived.Test.YtmkeddcaeaaoaacCrossS
import Derived.WalkKit
import Derived.ProofKit
import Derived.OpenShut
import Derived.ShutString
import Derived.ChangeOld
import Derived.Below
namespace Go.Proofs.Ytmkeddcaeaaoaac.fnCrossesZero
open Go.ChangeShapes Go.WideShapes Go.ChangeAt Go.RowKit
open Go.ChangeMaps (open_string shut_string)
set_option linter.unusedVariables false

theorem own : ownKnob Try.prog.godebug = none := by kernel_rfl
theorem laidOut : laidOutB Try.prog = true := by kernel_rfl

/-- WHAT THE WALK IS TOLD OF A SLICE OF INTEGERS THAT CAME IN: it is nil; or it leads to a row of 'cap' cells, the numbers 'zs' (the first 'len' are its elements, the rest its spare room), each fitting its kind. -/
def IsRow (k : IntKind) (w : World) (a : Option Addr) (len cap : Nat) (zs : List Int) : Prop :=
  (a = none ∧ len = 0 ∧ cap = 0 ∧ zs = []) ∨
  ∃ x, a = some x ∧ len ≤ cap ∧ cap ≤ maxLen ∧ zs.length = cap ∧ (∀ i, i < zs.length → w.cell? (x.add i) = some (.int k (zs.getD i 0))) ∧ ∀ n ∈ zs, (Lit.int k n).wf = true

/-! ### STEP 1: THE WALK: the Go text returns true, AND WRITES NOTHING THAT WAS THERE: 'Below w.heap.size w w'' (Derived/Below.lean: '.refl', '.alloc', '.drew', '.setCell' at a new block, '.trans'). Open each 'IsRow' by 'rcases' AHEAD of 'go_enter'; part every test ahead of the walk. -/
set_option maxRecDepth 100000 in
set_option maxHeartbeats 4000000 in
theorem walk (a0 : Option Addr) (len0 cap0 : Nat) (z0 : List Int) (w : World) (w0 : IsRow .u8 w a0 len0 cap0 z0) :
    Calls Try.prog 3 #[.slice a0 len0 cap0] w fun e w' => e = .returned (.bool true) ∧ Below w.heap.size w w' := by
  by_cases hl : 1048576 < len0
  · have hl' : (1048576 : Int) < (len0 : Int) := by omega
    clear w0 hl
    go_enter Try.func3, Try.ntmps3
    go_wp2
    go_ret
    exact ⟨rfl, Below.refl _ _⟩
  have hl' : ¬ (1048576 : Int) < (len0 : Int) := by omega
  obtain ⟨hc, hcap⟩ := code_of w0 (by omega)
  clear w0 hl
  go_enter Try.func3, Try.ntmps3
  go_wp2_with fail
  refine (DrawCrossesZero_any w a0 len0 cap0 hc hcap).mono ?_
  rintro e w1 ⟨o, p, c, rfl, ho, hp, hc, bl⟩
  clear hc hcap
  have st1 := Kq.new bl o p c 24
  have r10 := st1.here.c0
  have r11 := st1.here.c1
  have r12 := st1.here.c2
  clear bl
  have k1 := fun w' => CZ_impl o p c w'
  have k2 := fun w' => CZ_spec o p c w'
  by_cases hk : K.vc o p c = true ∧ K.near o p = true ∧ c + (K.fp o p c : Int) ≤ K.last c
  · obtain ⟨hv, hn, hle⟩ := id hk
    have hz := K.cz_yes hk
    have hvc := K.vc_of hv
    have hl := K.last_bd hv
    have hcr := K.cr_ex (a := c) hn
    obtain ⟨q, hq⟩ : ∃ q, K.fp o p c = q := ⟨_, rfl⟩
    rw [hq] at hz hle hcr
    have x0 : K.xd o p c 0 = false := by
      unfold K.xd
      rw [show c + ((0 : Nat) : Int) = c by omega, K.off_self, hn]
      rfl
    have hq1 : 1 ≤ q := by
      rcases Nat.eq_zero_or_pos q with h | h
      · subst h; have := hcr.hi (by omega); rw [x0] at this; cases this
      · exact h
    have xq := hcr.hi (by omega)
    have xb := hcr.lo (q - 1) (by omega)
    have t1 : K.told o p c (c + (q : Int)) = true := K.told_yes ⟨hv, by omega, hle⟩
    have t2 : K.told o p c (c + (q : Int) - 1) = true := K.told_yes ⟨hv, by omega, by omega⟩
    have ob1 := K.off_told t1
    have ob2 := K.off_told t2
    have eb : c + ((q - 1 : Nat) : Int) = c + (q : Int) - 1 := by omega
    have k3 := fun w' => OA_impl o p c (c + (q : Int)) w'
    have k4 := fun w' => OA_impl o p c (c + (q : Int) - 1) w'
    simp only [t1, K.oa_yes t1] at k3
    simp only [t2, K.oa_yes t2] at k4
    simp only [hz] at k1 k2
    have K1 := Lib.hid k1
    have K2 := Lib.hid k2
    have K3 := Lib.hid k3
    have K4 := Lib.hid k4
    have hcq : 0 ≤ c + (q : Int) := by omega
    have hcq2 : c + (q : Int) ≤ 3786479999 := by omega
    rcases K.near_of hn with h | h
    · rw [K.xd_neg h, decide_eq_true_eq] at xq
      rw [K.xd_neg h, decide_eq_false_iff_not, eb] at xb
      have xb' : K.off o p c (c + (q : Int) - 1) < 0 := by omega
      have x1 : decide (0 < o) = false := decide_eq_false (by omega)
      clear k1 k2 k3 k4 hz hk hq hcr hv hn hl hle x0 t1 t2 xb eb
      generalize K.off o p c (c + (q : Int)) = n1 at *
      generalize K.off o p c (c + (q : Int) - 1) = n2 at *
      generalize c + (q : Int) = t at *
      go_wp2_with fail
      refine (K1.out _).mono ?_
      rintro e w2 ⟨rfl, b2⟩
      have st2 := st1.b b2
      have r20 := st2.here.c0
      have r21 := st2.here.c1
      have r22 := st2.here.c2
      clear st1 b2 r10 r11 r12
      go_wp2_with fail
      refine (K2.out _).mono ?_
      rintro e w3 ⟨rfl, b3⟩
      have st3 := st2.b b3
      have r30 := st3.here.c0
      have r31 := st3.here.c1
      have r32 := st3.here.c2
      clear st2 b3 r20 r21 r22
      go_wp2_with fail
      refine (K3.out _).mono ?_
      rintro e w4 ⟨rfl, b4⟩
      have st4 := st3.b b4
      have r40 := st4.here.c0
      have r41 := st4.here.c1
      have r42 := st4.here.c2
      clear st3 b4 r30 r31 r32
      go_wp2_with fail
      refine (K4.out _).mono ?_
      rintro e w5 ⟨rfl, b5⟩
      have st5 := st4.b b5
      have r50 := st5.here.c0
      have r51 := st5.here.c1
      have r52 := st5.here.c2
      clear st4 b5 r40 r41 r42
      go_wp2
      go_ret
      exact ⟨ret_bool (by first | rfl | simp), st5.bel⟩
    · rw [K.xd_pos h, decide_eq_true_eq] at xq
      rw [K.xd_pos h, decide_eq_false_iff_not, eb] at xb
      have xb' : 0 < K.off o p c (c + (q : Int) - 1) := by omega
      clear k1 k2 k3 k4 hz hk hq hcr hv hn hl hle x0 t1 t2 xb eb
      generalize K.off o p c (c + (q : Int)) = n1 at *
      generalize K.off o p c (c + (q : Int) - 1) = n2 at *
      generalize c + (q : Int) = t at *
      go_wp2_with fail
      refine (K1.out _).mono ?_
      rintro e w2 ⟨rfl, b2⟩
      have st2 := st1.b b2
      have r20 := st2.here.c0
      have r21 := st2.here.c1
      have r22 := st2.here.c2
      clear st1 b2 r10 r11 r12
      go_wp2_with fail
      refine (K2.out _).mono ?_
      rintro e w3 ⟨rfl, b3⟩
      have st3 := st2.b b3
      have r30 := st3.here.c0
      have r31 := st3.here.c1
      have r32 := st3.here.c2
      clear st2 b3 r20 r21 r22
      go_wp2_with fail
      refine (K3.out _).mono ?_
      rintro e w4 ⟨rfl, b4⟩
      have st4 := st3.b b4
      have r40 := st4.here.c0
      have r41 := st4.here.c1
      have r42 := st4.here.c2
      clear st3 b4 r30 r31 r32
      go_wp2_with fail
      refine (K4.out _).mono ?_
      rintro e w5 ⟨rfl, b5⟩
      have st5 := st4.b b5
      have r50 := st5.here.c0
      have r51 := st5.here.c1
      have r52 := st5.here.c2
      clear st4 b5 r40 r41 r42
      go_wp2
      go_ret
      exact ⟨ret_bool (by first | rfl | simp), st5.bel⟩
  · have hz := K.cz_no hk
    simp only [hz] at k1 k2
    have K1 := Lib.hid k1
    have K2 := Lib.hid k2
    clear k1 k2 hz hk
    go_wp2_with fail
    refine (K1.out _).mono ?_
    rintro e w2 ⟨rfl, b2⟩
    have st2 := st1.b b2
    have r20 := st2.here.c0
    have r21 := st2.here.c1
    have r22 := st2.here.c2
    clear st1 b2 r10 r11 r12
    go_wp2_with fail
    refine (K2.out _).mono ?_
    rintro e w3 ⟨rfl, b3⟩
    have st3 := st2.b b3
    have r30 := st3.here.c0
    have r31 := st3.here.c1
    have r32 := st3.here.c2
    clear st2 b3 r20 r21 r22
    go_wp2_with fail
    refine (K2.out _).mono ?_
    rintro e w4 ⟨rfl, b4⟩
    have st4 := st3.b b4
    have r40 := st4.here.c0
    have r41 := st4.here.c1
    have r42 := st4.here.c2
    clear st3 b4 r30 r31 r32
    go_wp2
    go_ret
    exact ⟨ret_bool (by first | rfl | simp), st4.bel⟩

/-! ### THE ROW's STEP: WRITTEN OUT: LEAVE IT -/
set_option maxRecDepth 100000 in
theorem lifted (os : Os) (started : os.Started) (H : Type) (enc : TypeId × Value → H) :
    ReturnsInHanded {} Try.checked os 3 .any (Rows.fnCrossesZeroSpec.pre6 enc Try.prog Try.f3 Rows.fnCrossesZeroRow.domain false) (Rows.fnCrossesZeroSpec.post enc Try.prog Try.f3 false true false false) := by
  refine returnsInHanded_of_change (C := Try.checked) own started (by kernel_rfl) Try.func3
    (ChangeSpec.witness6 (enc := enc) (C := Try.checked) false ⟨#[], #[.slice none 0 0], []⟩ 8 (by kernel_rfl) (by kernel_rfl) (by kernel_rfl) (by kernel_rfl)) ?_
  intro W base args ds gs before hval0 hW hcnd _
  have hval : ∀ (j : Nat) t v, Try.f3.params[j]? = some t → args[j]? = some v → Value.okWide Try.prog W .any base t v := hval0
  have hW' := hW
  obtain ⟨p, q, hA0, hV, rfl, hfz, hnd⟩ := hW
  have hA : DataW.TrodAll enc Try.prog W 0 (fun _ => true) true Try.f3.params.toList args.toList ds p := hA0
  rw [Try.params3] at hA hval
  obtain ⟨v0, vs0, d0, ds0, p0, q0, hargs, rfl, rfl, h0, r0⟩ := trodAll_cons hA
  obtain ⟨rfl, rfl, rfl⟩ := trodAll_nil r0
  obtain rfl : args = #[v0] := by cases args; simp_all
  obtain ⟨rfl, rfl⟩ := trodVars_none hV
  obtain ⟨a0, len0, cap0, rfl⟩ := okWide_slice Try.underlying22 (hval 0 22 v0 rfl rfl)
  have k0 := h0
  have lt0 : ∀ x ∈ p0, x.block < W.heap.size := by obtain ⟨m, hm⟩ := k0; exact DataW.trod_lt m _ _ _ hm
  obtain ⟨z0, w0⟩ : ∃ zs, IsRow .u8 W a0 len0 cap0 zs := by
    obtain ⟨fuel, hf⟩ := h0
    rcases open_ints Try.underlying22 Try.underlying5 (by kernel_rfl) hf with ⟨hcs, _⟩ | ⟨x, l, c, zs, hcs, _, hl, hm, hz, _, hcell, hwz⟩
    · simp [Value.cells] at hcs
      obtain ⟨rfl, rfl, rfl⟩ := hcs
      exact ⟨[], .inl ⟨rfl, rfl, rfl, rfl⟩⟩
    · simp [Value.cells] at hcs
      obtain ⟨rfl, rfl, rfl⟩ := hcs
      exact ⟨zs, .inr ⟨_, rfl, hl, hm, by simpa using hz, hcell, hwz⟩⟩
  clear hA0 hval0
  refine (walk a0 len0 cap0 z0 W w0).mono fun e W' ⟨he, bel⟩ => ?_
  subst he
  exact ⟨_, rfl, _, _, _, [], _, [], hW', trodAll_mk1 (shut_bool Try.underlying4 _), (trodAll_cons_mk (Below.trod laidOut (by kernel_rfl) (of_decide_eq_true (by kernel_rfl)) k0 bel lt0) trodAll_mk0), rfl, bel.frame _, fun h => by cases h⟩

theorem over : Rows.fnCrossesZeroRow.holds Try.pinned (OpenSpec.ofChange Rows.fnCrossesZeroSpec) :=
  OpenClaim.holds_of_wide 3 Try.f3 rfl rfl rfl rfl rfl rfl rfl ⟨rfl, rfl, rfl, rfl, rfl⟩ rfl rfl rfl rfl rfl (by kernel_rfl) Try.func3 (by kernel_rfl)
    (of_decide_eq_true (by kernel_rfl)) (by unfold Func.isWrapper; first | (rw [if_pos (by decide +kernel)]; kernel_rfl) | (rw [if_neg (by decide +kernel)]; exact ⟨rfl, rfl⟩))
    (fun os started H enc _ => lifted os started H enc)

/-- ████ THE STATEMENT ████ -/
theorem proved : Rows.FnCrossesZeroSaid := over
#print axioms proved
end Go.Proofs.Ytmkeddcaeaaoaac.fnCrossesZero
