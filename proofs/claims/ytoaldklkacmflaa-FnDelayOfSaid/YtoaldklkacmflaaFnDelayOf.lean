/-
  PROVED: FnDelayOf: for every input the law returns true, and the input reads as it did. No condition.
  The frame is as the kit prints it (proof-skeleton.mjs); the walk is mine.
-/
import Derived.Test.YtoaldklkacmflaaRows
import Derived.Test.YtoaldklkacmflaaLq
import Derived.Test.YtoaldklkacmflaaDrawO
import Derived.WalkKit
import Derived.ProofKit
import Derived.OpenShut
import Derived.ShutString
import Derived.ChangeOld
import Derived.Below
namespace Go.Proofs.Ytoaldklkacmflaa.fnDelayOf
open Go.ChangeShapes Go.WideShapes Go.ChangeAt Go.RowKit
open Go.ChangeMaps (open_string shut_string)
set_option linter.unusedVariables false

theorem own : ownKnob Try.prog.godebug = none := by kernel_rfl
theorem laidOut : laidOutB Try.prog = true := by kernel_rfl

/-- WHAT THE WALK IS TOLD OF A SLICE OF INTEGERS THAT CAME IN: it is nil; or it leads to a row of 'cap' cells, the numbers 'zs' (the first 'len' are its elements, the rest its spare room), each fitting its kind. -/
def IsRow (k : IntKind) (w : World) (a : Option Addr) (len cap : Nat) (zs : List Int) : Prop :=
  (a = none ∧ len = 0 ∧ cap = 0 ∧ zs = []) ∨
  ∃ x, a = some x ∧ len ≤ cap ∧ cap ≤ maxLen ∧ zs.length = cap ∧ (∀ i, i < zs.length → w.cell? (x.add i) = some (.int k (zs.getD i 0))) ∧ ∀ n ∈ zs, (Lit.int k n).wf = true

/-! ### STEP 1: THE WALK: the Go text returns true, AND WRITES NOTHING THAT WAS THERE: 'Below w.heap.size w w'' (Derived/Below.lean: '.refl', '.alloc', '.drew', '.setCell' at a new block, '.trans'). Open each 'IsRow' by 'rcases' AHEAD of 'go_enter'; part every test ahead of the walk. -/
set_option maxRecDepth 100000 in
set_option maxHeartbeats 4000000 in
theorem walk (a0 : Option Addr) (len0 cap0 : Nat) (z0 : List Int) (w : World) (w0 : IsRow .u8 w a0 len0 cap0 z0) :
    Calls Try.prog 5 #[.slice a0 len0 cap0] w fun e w' => e = .returned (.bool true) ∧ Below w.heap.size w w' := by
  by_cases hl : 1048576 < len0
  · have hl' : (1048576 : Int) < (len0 : Int) := by omega
    clear w0 hl
    go_enter Try.func5, Try.ntmps5
    go_wp2
    go_ret
    exact ⟨rfl, Below.refl _ _⟩
  have hl' : ¬ (1048576 : Int) < (len0 : Int) := by omega
  obtain ⟨hc, hcap⟩ := code_of w0 (by omega)
  clear w0 hl
  go_enter Try.func5, Try.ntmps5
  go_wp2_with fail
  refine (DrawDelayOf_any w a0 len0 cap0 hc hcap).mono ?_
  rintro e w1 ⟨a, n, c, l, rfl, hL, hk, hnc, hcm, hsm, bl⟩
  clear hc hcap
  have st := Lq.mk hL bl
  clear hL bl hsm hk
  rcases hv : O.vo l with _ | _
  · go_wp2_with fail
    refine (DEi_no _ _ _ _ _ _ hv st.here (Nat.le_refl _)).mono ?_
    rintro e w2 ⟨rfl, b2⟩
    have st2 := st.b b2
    clear st b2
    go_wp2_with fail
    refine (DEs_no _ _ _ _ _ _ hv st2.here).mono ?_
    rintro e w3 ⟨rfl, b3⟩
    have st3 := st2.s b3
    clear st2 b3
    go_wp2_with fail
    refine (DEs_no _ _ _ _ _ _ hv st3.here).mono ?_
    rintro e w4 ⟨rfl, b4⟩
    have st4 := st3.s b4
    clear st3 b4 hv
    go_wp2
    go_ret
    exact ⟨rfl, st4.bel⟩
  obtain ⟨hl, h0, h1, h2, h3⟩ := O.vo_at hv
  obtain ⟨rfl, b, off, rfl, s1⟩ := L4.of st hl
  have hbd := O.o_bd hv
  clear st hl
  go_wp2_with fail
  refine (DEi_yes _ _ _ _ _ _ hv s1.q.here (Nat.le_refl _)).mono ?_
  rintro e w2 ⟨rfl, b2⟩
  have s2 := s1.b b2
  clear s1 b2
  go_wp2_with fail
  refine (DEs_yes _ _ _ _ _ _ hv s2.q.here).mono ?_
  rintro e w3 ⟨rfl, b3⟩
  have s3 := s2.s b3
  clear s2 b3
  have c2 := s3.c2
  have c3 := s3.c3
  by_cases d2 : 200000000999999 < L.g l 2 + 5
  · go_wp2_with fail
    refine (DEs_yes _ _ _ _ _ _ hv s3.q.here).mono ?_
    rintro e w4 ⟨rfl, b4⟩
    have s4 := s3.s b4
    clear s3 b4 c2 c3
    go_wp2
    go_ret
    exact ⟨by first | rfl | simp, s4.q.bel⟩
  by_cases d3 : 200000000999999 < L.g l 3 + 5
  · go_wp2_with fail
    refine (DEs_yes _ _ _ _ _ _ hv s3.q.here).mono ?_
    rintro e w4 ⟨rfl, b4⟩
    have s4 := s3.s b4
    clear s3 b4 c2 c3
    go_wp2
    go_ret
    exact ⟨by first | rfl | simp, s4.q.bel⟩
  have hv' : O.vo [L.g l 0, L.g l 1, L.g l 2 + 5, L.g l 3 + 5] = true := O.vo_four h0 (by omega) (by omega) (by omega)
  have hd : O.de [L.g l 0, L.g l 1, L.g l 2 + 5, L.g l 3 + 5] = O.de l := by show O.de4 _ _ _ _ = O.de4 _ _ _ _; simp only [O.de4, L.g, List.getD_cons_zero, List.getD_cons_succ]; omega
  have HD := Lib.hid hd
  clear hd
  go_wp2_with fail
  have c0 := s3.c0
  have c1 := s3.c1
  have e2 : IntKind.i64.wrap (L.g l 2 + 5) = L.g l 2 + 5 := IntWalk.i64_in _ (by omega)
  have e3 : IntKind.i64.wrap (L.g l 3 + 5) = L.g l 3 + 5 := IntWalk.i64_in _ (by omega)
  go_region_held3 (fun w' => w'.cell? ⟨b, off, none⟩ = some (.int .i64 (L.g l 0)) ∧ w'.cell? ⟨b, off + 1, none⟩ = some (.int .i64 (L.g l 1)) ∧ w'.cell? ⟨b, off + 2, none⟩ = some (.int .i64 (L.g l 2)) ∧ w'.cell? ⟨b, off + 3, none⟩ = some (.int .i64 (L.g l 3)) ∧ L4 w w' b off l)
    (first | assumption | exact (s3.drew).all | exact L4.all (L4.al (last5 (by assumption)) _) | exact (L4.b (last5 (by assumption)) hb).all)
    ((go_at_call 15; refine (DEi_yes _ _ _ _ _ _ hv' (lst_fourD _ _ _ _ _ _) (by simp)).mono ?_; rintro e w7 ⟨rfl, hb⟩))
  have s7 := last5 (‹w7.cell? ⟨b, off, none⟩ = some (.int .i64 (L.g l 0)) ∧ _›)
  rw [HD.out]
  clear s3 c0 c1 c2 c3
  go_wp2
  go_ret
  exact ⟨by first | rfl | simp, s7.q.bel⟩

/-! ### THE ROW's STEP: WRITTEN OUT: LEAVE IT -/
set_option maxRecDepth 100000 in
theorem lifted (os : Os) (started : os.Started) (H : Type) (enc : TypeId × Value → H) :
    ReturnsInHanded {} Try.checked os 5 .any (Rows.fnDelayOfSpec.pre6 enc Try.prog Try.f5 Rows.fnDelayOfRow.domain false) (Rows.fnDelayOfSpec.post enc Try.prog Try.f5 false true false false) := by
  refine returnsInHanded_of_change (C := Try.checked) own started (by kernel_rfl) Try.func5
    (ChangeSpec.witness6 (enc := enc) (C := Try.checked) false ⟨#[], #[.slice none 0 0], []⟩ 8 (by kernel_rfl) (by kernel_rfl) (by kernel_rfl) (by kernel_rfl)) ?_
  intro W base args ds gs before hval0 hW hcnd _
  have hval : ∀ (j : Nat) t v, Try.f5.params[j]? = some t → args[j]? = some v → Value.okWide Try.prog W .any base t v := hval0
  have hW' := hW
  obtain ⟨p, q, hA0, hV, rfl, hfz, hnd⟩ := hW
  have hA : DataW.TrodAll enc Try.prog W 0 (fun _ => true) true Try.f5.params.toList args.toList ds p := hA0
  rw [Try.params5] at hA hval
  obtain ⟨v0, vs0, d0, ds0, p0, q0, hargs, rfl, rfl, h0, r0⟩ := trodAll_cons hA
  obtain ⟨rfl, rfl, rfl⟩ := trodAll_nil r0
  obtain rfl : args = #[v0] := by cases args; simp_all
  obtain ⟨rfl, rfl⟩ := trodVars_none hV
  obtain ⟨a0, len0, cap0, rfl⟩ := okWide_slice Try.underlying22 (hval 0 22 v0 rfl rfl)
  have k0 := h0
  have lt0 : ∀ x ∈ p0, x.block < W.heap.size := by obtain ⟨m, hm⟩ := k0; exact DataW.trod_lt m _ _ _ hm
  obtain ⟨z0, w0⟩ : ∃ zs, IsRow .u8 W a0 len0 cap0 zs := by
    obtain ⟨fuel, hf⟩ := h0
    rcases open_ints Try.underlying22 Try.underlying5 (by kernel_rfl) hf with ⟨hcs, _⟩ | ⟨x, l, c, zs, hcs, _, hl, hm, hz, _, hcell, hwz⟩
    · simp [Value.cells] at hcs
      obtain ⟨rfl, rfl, rfl⟩ := hcs
      exact ⟨[], .inl ⟨rfl, rfl, rfl, rfl⟩⟩
    · simp [Value.cells] at hcs
      obtain ⟨rfl, rfl, rfl⟩ := hcs
      exact ⟨zs, .inr ⟨_, rfl, hl, hm, by simpa using hz, hcell, hwz⟩⟩
  clear hA0 hval0
  refine (walk a0 len0 cap0 z0 W w0).mono fun e W' ⟨he, bel⟩ => ?_
  subst he
  exact ⟨_, rfl, _, _, _, [], _, [], hW', trodAll_mk1 (shut_bool Try.underlying4 _), (trodAll_cons_mk (Below.trod laidOut (by kernel_rfl) (of_decide_eq_true (by kernel_rfl)) k0 bel lt0) trodAll_mk0), rfl, bel.frame _, fun h => by cases h⟩

theorem over : Rows.fnDelayOfRow.holds Try.pinned (OpenSpec.ofChange Rows.fnDelayOfSpec) :=
  OpenClaim.holds_of_wide 5 Try.f5 rfl rfl rfl rfl rfl rfl rfl ⟨rfl, rfl, rfl, rfl, rfl⟩ rfl rfl rfl rfl rfl (by kernel_rfl) Try.func5 (by kernel_rfl)
    (of_decide_eq_true (by kernel_rfl)) (by unfold Func.isWrapper; first | (rw [if_pos (by decide +kernel)]; kernel_rfl) | (rw [if_neg (by decide +kernel)]; exact ⟨rfl, rfl⟩))
    (fun os started H enc _ => lifted os started H enc)

/-- ████ THE STATEMENT ████ -/
theorem proved : Rows.FnDelayOfSaid := over
#print axioms proved
end Go.Proofs.Ytoaldklkacmflaa.fnDelayOf
