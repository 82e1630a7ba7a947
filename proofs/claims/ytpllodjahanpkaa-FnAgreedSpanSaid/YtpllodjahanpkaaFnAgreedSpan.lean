/-
  PROVED: FnAgreedSpan: for every input the law returns true, and the input reads as it did. No condition.
  The frame is as the kit prints it (proof-skeleton.mjs); the walk is mine.
-/
import Derived.Test.YtpllodjahanpkaaRows
import Derived.Test.YtpllodjahanpkaaSt
import Derived.Test.YtpllodjahanpkaaISpan
import Derived.Test.YtpllodjahanpkaaIAg
import Derived.Test.YtpllodjahanpkaaDrawV
import Derived.WalkKit
import Derived.WalkSpells
import Derived.ProofKit
import Derived.OpenShut
import Derived.ShutString
import Derived.ChangeOld
import Derived.Below
namespace Go.Proofs.Ytpllodjahanpkaa.fnAgreedSpan
open Go.ChangeShapes Go.WideShapes Go.ChangeAt Go.RowKit
open Go.ChangeMaps (open_string shut_string)
set_option linter.unusedVariables false

theorem own : ownKnob Try.prog.godebug = none := by kernel_rfl
theorem laidOut : laidOutB Try.prog = true := by kernel_rfl

/-- WHAT THE WALK IS TOLD OF A SLICE OF INTEGERS THAT CAME IN: it is nil; or it leads to a row of 'cap' cells, the numbers 'zs' (the first 'len' are its elements, the rest its spare room), each fitting its kind. -/
def IsRow (k : IntKind) (w : World) (a : Option Addr) (len cap : Nat) (zs : List Int) : Prop :=
  (a = none ∧ len = 0 ∧ cap = 0 ∧ zs = []) ∨
  ∃ x, a = some x ∧ len ≤ cap ∧ cap ≤ maxLen ∧ zs.length = cap ∧ (∀ i, i < zs.length → w.cell? (x.add i) = some (.int k (zs.getD i 0))) ∧ ∀ n ∈ zs, (Lit.int k n).wf = true

/-! ### STEP 1: THE WALK: the Go text returns true, AND WRITES NOTHING THAT WAS THERE: 'Below w.heap.size w w'' (Derived/Below.lean: '.refl', '.alloc', '.drew', '.setCell' at a new block, '.trans'). Open each 'IsRow' by 'rcases' AHEAD of 'go_enter'; part every test ahead of the walk. -/
set_option maxHeartbeats 4000000 in
theorem walk (a0 : Option Addr) (len0 cap0 : Nat) (z0 : List Int) (w : World) (w0 : IsRow .u8 w a0 len0 cap0 z0) :
    Calls Try.prog 7 #[.slice a0 len0 cap0] w fun e w' => e = .returned (.bool true) ∧ Below w.heap.size w w' := by
  by_cases hl : 1048576 < len0
  · have hl' : (1048576 : Int) < (len0 : Int) := by omega
    clear w0 hl
    go_enter Try.func7, Try.ntmps7
    go_wp2
    go_ret
    exact ⟨rfl, Below.refl _ _⟩
  have hl' : ¬ (1048576 : Int) < (len0 : Int) := by omega
  obtain ⟨hc, hcap⟩ := code_of w0 (by omega)
  clear w0 hl
  go_enter Try.func7, Try.ntmps7
  go_wp2_with fail
  refine (DrawAgreedSpan_any w a0 len0 cap0 hc hcap).mono ?_
  rintro e w1 ⟨a, c, l, rfl, hl8, hlc, hcm, hS, hsm, bl, hfr⟩
  clear hc hcap
  have st := St.mk hS bl
  clear hS bl hfr hsm
  unfold maxLen at hcm
  have hbd := V.r_bd l
  go_wp2_with fail
  refine (ag_impl _ _ _ _ _ _ st.here (Nat.le_refl _)).mono ?_
  rintro e w2 ⟨rfl, b2⟩
  have st2 := (st.b b2).al (Obj.cells #[.int .i64 (V.rlo l), .int .i64 (V.rhi l)] 31)
  have x2 := Bx.new w2 (V.rlo l) (V.rhi l) 31
  clear st b2
  go_wp2_with fail
  refine (ag_spec _ _ _ _ _ _ st2.here (Nat.le_refl _)).mono ?_
  rintro e w3 ⟨rfl, b3⟩
  have st3 := (st2.b b3).al (Obj.cells #[.int .i64 (V.rlo l), .int .i64 (V.rhi l)] 31)
  have x3 := (x2.b b3).al (Obj.cells #[.int .i64 (V.rlo l), .int .i64 (V.rhi l)] 31)
  have c0 := (x2.b b3).c0
  have c1 := (x2.b b3).c1
  have clt := (x2.b b3).lt
  clear st2 b3 x2
  rcases hv : V.agB l with _ | _
  · go_wp2
    go_ret
    exact ⟨ret_bool (by first | rfl | simp), st3.bel⟩
  · have hvs := (V.agB_of hv).1
    have hmm := (V.agB_of hv).2
    have A := V.agr hvs
    have e2 := V.r_yes hv
    have hmv := V.mv_yes hvs
    have v1 : V.vf l (V.rlo l) = V.mv l := by rw [V.vf_yes hvs, V.mv_yes hvs, A.all (by omega) (by have := A.le; omega)]
    have v2 : V.vf l (V.rhi l) = V.mv l := by rw [V.vf_yes hvs, V.mv_yes hvs, A.all (by have := A.le; omega) (by omega)]
    have v3 : V.vf l (V.rlo l - 1) < V.mv l := by rw [V.vf_yes hvs, V.mv_yes hvs]; have := A.least (V.rlo l - 1) (by omega); omega
    have v4 : (l.length : Int) < 2 * V.mv l := by omega
    have hm7 : V.mv l ≤ 7 := by have := V.most_le l; have := (V.vs_of hvs).1; omega
    have hm0 : 0 ≤ V.mv l := by omega
    have HV := Lib.hid (And.intro v1 v2)
    clear v1 v2 A e2 hmm hmv
    generalize V.rlo l = x at *
    generalize V.rhi l = y at *
    go_wp2_with fail
    refine (MV_impl _ _ _ _ _ _ st3.here (Nat.le_refl _)).mono ?_
    rintro e w4 ⟨rfl, b4⟩
    have st4 := st3.b b4
    have x4 := x3.b b4
    have d0 := x4.c0
    have d1 := x4.c1
    clear st3 b4 c0 c1 clt x3
    go_wp2_with fail
    refine (VF_impl _ _ _ _ _ _ _ st4.here (Nat.le_refl _)).mono ?_
    rintro e w5 ⟨rfl, b5⟩
    have st5 := st4.b b5
    have x5 := x4.b b5
    clear d0 d1
    have d0 := x5.c0
    have d1 := x5.c1
    clear st4 b5 x4
    rw [HV.out.1]
    go_wp2_with fail
    refine (VF_impl _ _ _ _ _ _ _ st5.here (Nat.le_refl _)).mono ?_
    rintro e w6 ⟨rfl, b6⟩
    have st6 := st5.b b6
    have x6 := x5.b b6
    clear d0 d1
    have d0 := x6.c0
    have d1 := x6.c1
    clear st5 b6 x5
    rw [HV.out.2]
    go_wp2_with fail
    refine (VF_impl _ _ _ _ _ _ _ st6.here (Nat.le_refl _)).mono ?_
    rintro e w7 ⟨rfl, b7⟩
    have st7 := st6.b b7
    clear d0 d1 st6 b7 x6
    go_wp2
    go_ret
    exact ⟨ret_bool (by first | rfl | simp), st7.bel⟩

/-! ### THE ROW's STEP: WRITTEN OUT: LEAVE IT -/
set_option maxRecDepth 100000 in
theorem lifted (os : Os) (started : os.Started) (H : Type) (enc : TypeId × Value → H) :
    ReturnsInHanded {} Try.checked os 7 .any (Rows.fnAgreedSpanSpec.pre6 enc Try.prog Try.f7 Rows.fnAgreedSpanRow.domain false) (Rows.fnAgreedSpanSpec.post enc Try.prog Try.f7 false true false false) := by
  refine returnsInHanded_of_change (C := Try.checked) own started (by kernel_rfl) Try.func7
    (ChangeSpec.witness6 (enc := enc) (C := Try.checked) false ⟨#[], #[.slice none 0 0], []⟩ 8 (by kernel_rfl) (by kernel_rfl) (by kernel_rfl) (by kernel_rfl)) ?_
  intro W base args ds gs before hval0 hW hcnd _
  have hval : ∀ (j : Nat) t v, Try.f7.params[j]? = some t → args[j]? = some v → Value.okWide Try.prog W .any base t v := hval0
  have hW' := hW
  obtain ⟨p, q, hA0, hV, rfl, hfz, hnd⟩ := hW
  have hA : DataW.TrodAll enc Try.prog W 0 (fun _ => true) true Try.f7.params.toList args.toList ds p := hA0
  rw [Try.params7] at hA hval
  obtain ⟨v0, vs0, d0, ds0, p0, q0, hargs, rfl, rfl, h0, r0⟩ := trodAll_cons hA
  obtain ⟨rfl, rfl, rfl⟩ := trodAll_nil r0
  obtain rfl : args = #[v0] := by cases args; simp_all
  obtain ⟨rfl, rfl⟩ := trodVars_none hV
  obtain ⟨a0, len0, cap0, rfl⟩ := okWide_slice Try.underlying22 (hval 0 22 v0 rfl rfl)
  have k0 := h0
  have lt0 : ∀ x ∈ p0, x.block < W.heap.size := by obtain ⟨m, hm⟩ := k0; exact DataW.trod_lt m _ _ _ hm
  obtain ⟨z0, w0⟩ : ∃ zs, IsRow .u8 W a0 len0 cap0 zs := by
    obtain ⟨fuel, hf⟩ := h0
    rcases open_ints Try.underlying22 Try.underlying5 (by kernel_rfl) hf with ⟨hcs, _⟩ | ⟨x, l, c, zs, hcs, _, hl, hm, hz, _, hcell, hwz⟩
    · simp [Value.cells] at hcs
      obtain ⟨rfl, rfl, rfl⟩ := hcs
      exact ⟨[], .inl ⟨rfl, rfl, rfl, rfl⟩⟩
    · simp [Value.cells] at hcs
      obtain ⟨rfl, rfl, rfl⟩ := hcs
      exact ⟨zs, .inr ⟨_, rfl, hl, hm, by simpa using hz, hcell, hwz⟩⟩
  clear hA0 hval0
  refine (walk a0 len0 cap0 z0 W w0).mono fun e W' ⟨he, bel⟩ => ?_
  subst he
  exact ⟨_, rfl, _, _, _, [], _, [], hW', trodAll_mk1 (shut_bool Try.underlying4 _), (trodAll_cons_mk (Below.trod laidOut (by kernel_rfl) (of_decide_eq_true (by kernel_rfl)) k0 bel lt0) trodAll_mk0), rfl, bel.frame _, fun h => by cases h⟩

theorem over : Rows.fnAgreedSpanRow.holds Try.pinned (OpenSpec.ofChange Rows.fnAgreedSpanSpec) :=
  OpenClaim.holds_of_wide 7 Try.f7 rfl rfl rfl rfl rfl rfl rfl ⟨rfl, rfl, rfl, rfl, rfl⟩ rfl rfl rfl rfl rfl (by kernel_rfl) Try.func7 (by kernel_rfl)
    (of_decide_eq_true (by kernel_rfl)) (by unfold Func.isWrapper; first | (rw [if_pos (by decide +kernel)]; kernel_rfl) | (rw [if_neg (by decide +kernel)]; exact ⟨rfl, rfl⟩))
    (fun os started H enc _ => lifted os started H enc)

/-- ████ THE STATEMENT ████ -/
theorem proved : Rows.FnAgreedSpanSaid := over
#print axioms proved
end Go.Proofs.Ytpllodjahanpkaa.fnAgreedSpan
