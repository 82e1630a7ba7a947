/-
  PROVED: FnMiddleOf: for every input the law returns true, and the input reads as it did. No condition.
  The frame is as the kit prints it (proof-skeleton.mjs); the walk is mine.
-/
import Derived.Test.YtpllodjahanpkaaRows
import Derived.Test.YtpllodjahanpkaaSt
import Derived.Test.YtpllodjahanpkaaISpan
import Derived.Test.YtpllodjahanpkaaIAg
import Derived.Test.YtpllodjahanpkaaDrawV
import Derived.WalkKit
import Derived.WalkSpells
import Derived.ProofKit
import Derived.OpenShut
import Derived.ShutString
import Derived.ChangeOld
import Derived.Below
namespace Go.Proofs.Ytpllodjahanpkaa.fnMiddleOf
open Go.ChangeShapes Go.WideShapes Go.ChangeAt Go.RowKit
open Go.ChangeMaps (open_string shut_string)
set_option linter.unusedVariables false

theorem own : ownKnob Try.prog.godebug = none := by kernel_rfl
theorem laidOut : laidOutB Try.prog = true := by kernel_rfl

/-- WHAT THE WALK IS TOLD OF A SLICE OF INTEGERS THAT CAME IN: it is nil; or it leads to a row of 'cap' cells, the numbers 'zs' (the first 'len' are its elements, the rest its spare room), each fitting its kind. -/
def IsRow (k : IntKind) (w : World) (a : Option Addr) (len cap : Nat) (zs : List Int) : Prop :=
  (a = none ∧ len = 0 ∧ cap = 0 ∧ zs = []) ∨
  ∃ x, a = some x ∧ len ≤ cap ∧ cap ≤ maxLen ∧ zs.length = cap ∧ (∀ i, i < zs.length → w.cell? (x.add i) = some (.int k (zs.getD i 0))) ∧ ∀ n ∈ zs, (Lit.int k n).wf = true

/-! ### STEP 1: THE WALK: the Go text returns true, AND WRITES NOTHING THAT WAS THERE: 'Below w.heap.size w w'' (Derived/Below.lean: '.refl', '.alloc', '.drew', '.setCell' at a new block, '.trans'). Open each 'IsRow' by 'rcases' AHEAD of 'go_enter'; part every test ahead of the walk. -/
set_option maxHeartbeats 2000000 in
theorem walk (a0 : Option Addr) (len0 cap0 : Nat) (z0 : List Int) (w : World) (w0 : IsRow .u8 w a0 len0 cap0 z0) :
    Calls Try.prog 11 #[.slice a0 len0 cap0] w fun e w' => e = .returned (.bool true) ∧ Below w.heap.size w w' := by
  by_cases hl : 1048576 < len0
  · have hl' : (1048576 : Int) < (len0 : Int) := by omega
    clear w0 hl
    go_enter Try.func11, Try.ntmps11
    go_wp2
    go_ret
    exact ⟨rfl, Below.refl _ _⟩
  have hl' : ¬ (1048576 : Int) < (len0 : Int) := by omega
  obtain ⟨hc, hcap⟩ := code_of w0 (by omega)
  clear w0 hl
  go_enter Try.func11, Try.ntmps11
  go_wp2_with fail
  refine (DrawMiddleOf_any w a0 len0 cap0 hc hcap).mono ?_
  rintro e w1 ⟨a, c, l, rfl, hl8, hlc, hcm, hS, hsm, bl, hfr⟩
  clear hc hcap
  have st := St.mk hS bl
  clear hS bl hfr hsm
  unfold maxLen at hcm
  have hbd := V.r_bd l
  rcases hv : V.agB l with _ | _
  · go_wp2_with (first | (go_at_call 31; refine (MO_impl _ _ _ _ _ _ (St.here (by first | assumption | exact St.al (by assumption) _ | exact St.al (St.al (by assumption) _) _ | exact St.dr (by assumption) _)) (Nat.le_refl _)).mono ?_; rintro e w' ⟨rfl, hb⟩; have st' := St.b (by first | assumption | exact St.al (by assumption) _ | exact St.al (St.al (by assumption) _) _ | exact St.dr (by assumption) _) hb) | (go_at_call 32; refine (MO_spec _ _ _ _ _ _ (St.here (by first | assumption | exact St.al (by assumption) _ | exact St.al (St.al (by assumption) _) _ | exact St.dr (by assumption) _)) (Nat.le_refl _)).mono ?_; rintro e w' ⟨rfl, hb⟩; have st' := St.b (by first | assumption | exact St.al (by assumption) _ | exact St.al (St.al (by assumption) _) _ | exact St.dr (by assumption) _) hb))
    go_ret
    exact ⟨ret_bool (by simp), St.bel (by assumption)⟩
  · have e1 := V.mid_yes hv
    have e2 := V.r_yes hv
    have hvs := (V.agB_of hv).1
    have A := V.agr hvs
    have m0 : V.rlo l ≤ V.mid l := by omega
    have m1 : V.mid l ≤ V.rhi l := by omega
    have hd : (V.rhi l - V.mid l - (V.mid l - V.rlo l) = 0) ∨ (V.rhi l - V.mid l - (V.mid l - V.rlo l) = 1) := by omega
    have hvt : V.vf l (V.mid l) = V.mv l := by rw [V.vf_yes hvs, V.mv_yes hvs, A.all (by omega) (by omega)]
    have HV := Lib.hid hvt
    clear e1 e2 A hvt
    go_wp2_with fail
    refine (MO_impl _ _ _ _ _ _ (st).here (Nat.le_refl _)).mono ?_
    rintro e w2 ⟨rfl, b2⟩
    have st2 := (st).b b2
    clear st b2
    go_wp2_with fail
    refine (MO_spec _ _ _ _ _ _ (st2).here (Nat.le_refl _)).mono ?_
    rintro e w3 ⟨rfl, b3⟩
    have st3 := (st2).b b3
    clear st2 b3
    go_wp2_with fail
    refine (ag_impl _ _ _ _ _ _ st3.here (Nat.le_refl _)).mono ?_
    rintro e w4 ⟨rfl, b4⟩
    have st4 := (st3.b b4).al (Obj.cells #[.int .i64 (V.rlo l), .int .i64 (V.rhi l)] 31)
    clear st3 b4
    generalize V.mid l = m at *
    generalize V.rlo l = x at *
    generalize V.rhi l = y at *
    rcases hd with hd | hd
    · have hd' : (y - m - (m - x) == 0) = true := by rw [hd]; rfl
      clear hd
      go_wp2_with fail
      refine (VF_impl _ _ _ _ _ _ _ st4.here (Nat.le_refl _)).mono ?_
      rintro e w5 ⟨rfl, b5⟩
      have st5 := st4.b b5
      clear st4 b5
      go_wp2_with fail
      refine (MV_impl _ _ _ _ _ _ (st5).here (Nat.le_refl _)).mono ?_
      rintro e w6 ⟨rfl, b6⟩
      have st6 := (st5).b b6
      clear st5 b6
      rw [HV.out]
      go_wp2
      go_ret
      exact ⟨ret_bool (by first | rfl | simp), st6.bel⟩
    · have hd' : (y - m - (m - x) == 0) = false := by rw [hd]; rfl
      have hd2 : (y - m - (m - x) == 1) = true := by rw [hd]; rfl
      clear hd
      go_wp2_with fail
      refine (VF_impl _ _ _ _ _ _ _ st4.here (Nat.le_refl _)).mono ?_
      rintro e w5 ⟨rfl, b5⟩
      have st5 := st4.b b5
      clear st4 b5
      go_wp2_with fail
      refine (MV_impl _ _ _ _ _ _ (st5).here (Nat.le_refl _)).mono ?_
      rintro e w6 ⟨rfl, b6⟩
      have st6 := (st5).b b6
      clear st5 b6
      rw [HV.out]
      go_wp2
      go_ret
      exact ⟨ret_bool (by first | rfl | simp), st6.bel⟩

/-! ### THE ROW's STEP: WRITTEN OUT: LEAVE IT -/
set_option maxRecDepth 100000 in
theorem lifted (os : Os) (started : os.Started) (H : Type) (enc : TypeId × Value → H) :
    ReturnsInHanded {} Try.checked os 11 .any (Rows.fnMiddleOfSpec.pre6 enc Try.prog Try.f11 Rows.fnMiddleOfRow.domain false) (Rows.fnMiddleOfSpec.post enc Try.prog Try.f11 false true false false) := by
  refine returnsInHanded_of_change (C := Try.checked) own started (by kernel_rfl) Try.func11
    (ChangeSpec.witness6 (enc := enc) (C := Try.checked) false ⟨#[], #[.slice none 0 0], []⟩ 8 (by kernel_rfl) (by kernel_rfl) (by kernel_rfl) (by kernel_rfl)) ?_
  intro W base args ds gs before hval0 hW hcnd _
  have hval : ∀ (j : Nat) t v, Try.f11.params[j]? = some t → args[j]? = some v → Value.okWide Try.prog W .any base t v := hval0
  have hW' := hW
  obtain ⟨p, q, hA0, hV, rfl, hfz, hnd⟩ := hW
  have hA : DataW.TrodAll enc Try.prog W 0 (fun _ => true) true Try.f11.params.toList args.toList ds p := hA0
  rw [Try.params11] at hA hval
  obtain ⟨v0, vs0, d0, ds0, p0, q0, hargs, rfl, rfl, h0, r0⟩ := trodAll_cons hA
  obtain ⟨rfl, rfl, rfl⟩ := trodAll_nil r0
  obtain rfl : args = #[v0] := by cases args; simp_all
  obtain ⟨rfl, rfl⟩ := trodVars_none hV
  obtain ⟨a0, len0, cap0, rfl⟩ := okWide_slice Try.underlying22 (hval 0 22 v0 rfl rfl)
  have k0 := h0
  have lt0 : ∀ x ∈ p0, x.block < W.heap.size := by obtain ⟨m, hm⟩ := k0; exact DataW.trod_lt m _ _ _ hm
  obtain ⟨z0, w0⟩ : ∃ zs, IsRow .u8 W a0 len0 cap0 zs := by
    obtain ⟨fuel, hf⟩ := h0
    rcases open_ints Try.underlying22 Try.underlying5 (by kernel_rfl) hf with ⟨hcs, _⟩ | ⟨x, l, c, zs, hcs, _, hl, hm, hz, _, hcell, hwz⟩
    · simp [Value.cells] at hcs
      obtain ⟨rfl, rfl, rfl⟩ := hcs
      exact ⟨[], .inl ⟨rfl, rfl, rfl, rfl⟩⟩
    · simp [Value.cells] at hcs
      obtain ⟨rfl, rfl, rfl⟩ := hcs
      exact ⟨zs, .inr ⟨_, rfl, hl, hm, by simpa using hz, hcell, hwz⟩⟩
  clear hA0 hval0
  refine (walk a0 len0 cap0 z0 W w0).mono fun e W' ⟨he, bel⟩ => ?_
  subst he
  exact ⟨_, rfl, _, _, _, [], _, [], hW', trodAll_mk1 (shut_bool Try.underlying4 _), (trodAll_cons_mk (Below.trod laidOut (by kernel_rfl) (of_decide_eq_true (by kernel_rfl)) k0 bel lt0) trodAll_mk0), rfl, bel.frame _, fun h => by cases h⟩

theorem over : Rows.fnMiddleOfRow.holds Try.pinned (OpenSpec.ofChange Rows.fnMiddleOfSpec) :=
  OpenClaim.holds_of_wide 11 Try.f11 rfl rfl rfl rfl rfl rfl rfl ⟨rfl, rfl, rfl, rfl, rfl⟩ rfl rfl rfl rfl rfl (by kernel_rfl) Try.func11 (by kernel_rfl)
    (of_decide_eq_true (by kernel_rfl)) (by unfold Func.isWrapper; first | (rw [if_pos (by decide +kernel)]; kernel_rfl) | (rw [if_neg (by decide +kernel)]; exact ⟨rfl, rfl⟩))
    (fun os started H enc _ => lifted os started H enc)

/-- ████ THE STATEMENT ████ -/
theorem proved : Rows.FnMiddleOfSaid := over
#print axioms proved
end Go.Proofs.Ytpllodjahanpkaa.fnMiddleOf
