/-
  PROVED: FnGainOf: for every input the law returns true, and the input reads as it did. No condition.
  The frame is as the kit prints it (proof-skeleton.mjs); the walk is mine.
-/
import Derived.Test.YtiogcaalapoehaaRows
import Derived.Test.YtiogcaalapoehaaGain
import Derived.Test.YtiogcaalapoehaaDrawU
import Derived.Test.YtiogcaalapoehaaSt
import Derived.Test.YtiogcaalapoehaaJoin
import Derived.WalkKit
import Derived.ProofKit
import Derived.OpenShut
import Derived.ShutString
import Derived.ChangeOld
import Derived.Below
namespace Go.Proofs.Ytiogcaalapoehaa.fnGainOf
open Go.ChangeShapes Go.WideShapes Go.ChangeAt Go.RowKit
open Go.ChangeMaps (open_string shut_string)
set_option linter.unusedVariables false

theorem own : ownKnob Try.prog.godebug = none := by kernel_rfl
theorem laidOut : laidOutB Try.prog = true := by kernel_rfl

/-- WHAT THE WALK IS TOLD OF A SLICE OF INTEGERS THAT CAME IN: it is nil; or it leads to a row of 'cap' cells, the numbers 'zs' (the first 'len' are its elements, the rest its spare room), each fitting its kind. -/
def IsRow (k : IntKind) (w : World) (a : Option Addr) (len cap : Nat) (zs : List Int) : Prop :=
  (a = none ∧ len = 0 ∧ cap = 0 ∧ zs = []) ∨
  ∃ x, a = some x ∧ len ≤ cap ∧ cap ≤ maxLen ∧ zs.length = cap ∧ (∀ i, i < zs.length → w.cell? (x.add i) = some (.int k (zs.getD i 0))) ∧ ∀ n ∈ zs, (Lit.int k n).wf = true

/-! ### STEP 1: THE WALK: the Go text returns true, AND WRITES NOTHING THAT WAS THERE: 'Below w.heap.size w w'' (Derived/Below.lean: '.refl', '.alloc', '.drew', '.setCell' at a new block, '.trans'). Open each 'IsRow' by 'rcases' AHEAD of 'go_enter'; part every test ahead of the walk. -/
set_option maxRecDepth 100000 in
set_option maxHeartbeats 4000000 in
theorem walk (a0 : Option Addr) (len0 cap0 : Nat) (z0 : List Int) (w : World) (w0 : IsRow .u8 w a0 len0 cap0 z0) :
    Calls Try.prog 8 #[.slice a0 len0 cap0] w fun e w' => e = .returned (.bool true) ∧ Below w.heap.size w w' := by
  by_cases hl : 1048576 < len0
  · have hl' : (1048576 : Int) < (len0 : Int) := by omega
    clear w0 hl
    go_enter Try.func8, Try.ntmps8
    go_wp2
    go_ret
    exact ⟨rfl, Below.refl _ _⟩
  have hl' : ¬ (1048576 : Int) < (len0 : Int) := by omega
  obtain ⟨hc, hcap⟩ := code_of w0 (by omega)
  clear w0 hl
  go_enter Try.func8, Try.ntmps8
  go_wp2_with fail
  refine (DrawGainOf_any w a0 len0 cap0 hc hcap).mono ?_
  rintro e w1 ⟨a, c, l, rfl, hl18, hlc, hcm, hS, bl⟩
  clear hc hcap
  have st1 : St w w1 a l.length l := ⟨hS, bl⟩
  clear hS bl
  unfold maxLen at hcm
  have k1 := fun n c a w' (h : Sps w'.heap.size w' a n l) => GN_impl n c a l w' h
  have k2 := fun n c a w' (h : Sps w'.heap.size w' a n l) => GN_spec n c a l w' h
  rcases hok : G.gok l with _ | _
  · unfold Gtold at k1 k2
    simp only [hok] at k1 k2
    have K1 := Lib.hid k1
    have K2 := Lib.hid k2
    clear k1 k2 hok hl18 hlc hcm
    go_wp2_with fail
    refine (K1.out _ _ _ _ st1.here).mono ?_
    rintro e w2 ⟨rfl, b2⟩
    have st2 := st1.b b2
    clear st1 b2
    go_wp2_with fail
    refine (K2.out _ _ _ _ st2.here).mono ?_
    rintro e w3 ⟨rfl, b3⟩
    have HB := Lib.hid (st2.b b3).bel
    clear st2 b3
    go_wp2
    go_ret
    exact ⟨ret_bool (by first | rfl | simp), HB.out⟩
  have h2 := (G.gok_of hok).1
  unfold Gtold at k1 k2
  simp only [hok] at k1 k2
  by_cases h3 : l.length < 3
  · have h3' : decide ((l.length : Int) < 3) = true := decide_eq_true (by omega)
    have K1 := Lib.hid k1
    have K2 := Lib.hid k2
    clear k1 k2 hok hl18 hlc hcm
    go_wp2_with fail
    refine (K1.out _ _ _ _ st1.here).mono ?_
    rintro e w2 ⟨rfl, b2⟩
    have st2 := st1.b b2
    clear st1 b2
    go_wp2_with fail
    refine (K2.out _ _ _ _ st2.here).mono ?_
    rintro e w3 ⟨rfl, b3⟩
    have HB := Lib.hid (st2.b b3).bel
    clear st2 b3
    go_wp2
    go_ret
    exact ⟨ret_bool (by first | rfl | simp), HB.out⟩
  have h3' : decide ((l.length : Int) < 3) = false := decide_eq_false (by omega)
  obtain ⟨k, hk⟩ : ∃ k, l.length / 2 = k := ⟨_, rfl⟩
  have hk1 : 1 ≤ k := by omega
  have hk2 : k + 1 < l.length := by omega
  have hq : (l.length : Int).tdiv 2 = (k : Int) := by rw [Int.tdiv_eq_ediv_of_nonneg (by omega)]; omega
  have hp := G.gn_parts hok hk1 hk2
  have k3 := fun c a w' (h : Sps w'.heap.size w' a (k + 1) (V.tk l (k + 1))) => GN_impl (k + 1) c a _ w' h
  have k4 := fun c a w' (h : Sps w'.heap.size w' a (l.length - k) (V.dr l k)) => GN_impl (l.length - k) c a _ w' h
  unfold Gtold at k3 k4
  simp only [hp.1] at k3
  simp only [hp.2.1] at k4
  have hg := G.gv l
  have hsum := hp.2.2
  have b0 : -1000000000000000000 ≤ G.gn l ∧ G.gn l ≤ 1000000000000000000 := by
    obtain ⟨_, hv, _⟩ := G.gok_of hok
    rw [G.gn_yes hok]
    unfold G.gv
    have := G.rng hv (i := 0) (by omega)
    have := G.rng hv (i := l.length - 1) (by omega)
    omega
  generalize G.gn (V.tk l (k + 1)) = x at *
  generalize G.gn (V.dr l k) = y at *
  generalize G.gn l = z at *
  have K1 := Lib.hid k1
  have K2 := Lib.hid k2
  have K3 := Lib.hid k3
  have K4 := Lib.hid k4
  have HS := Lib.hid hsum
  obtain ⟨b, off, rfl, _, _⟩ := st1.here.at_ 0 (by omega)
  have i1 : (0 : Int) ≤ (k : Int) := by omega
  have i2 : (k : Int) ≤ (l.length : Int) := by omega
  have i3 : (0 : Int) ≤ (k : Int) + 1 := by omega
  have i4 : (k : Int) + 1 ≤ (c : Int) := by omega
  have i5 : ((k : Int) + 1).toNat = k + 1 := by omega
  have i6 : ¬ c = k := by omega
  have t1 : -9223372036854775808 ≤ (k : Int) + 1 ∧ (k : Int) + 1 ≤ 9223372036854775807 := by omega
  have t2 : -9223372036854775808 ≤ z ∧ z ≤ 9223372036854775807 := by omega
  have T2 := Lib.hid t2
  clear t2
  have t3 : -9223372036854775808 ≤ (k : Int) ∧ (k : Int) ≤ 9223372036854775807 := by omega
  have HKL := Lib.hid (show k + 1 ≤ l.length ∧ k < l.length by omega)
  clear k1 k2 k3 k4 hok hl18 hlc hcm h2 h3 hk hk1 hk2 hp hg hsum b0
  go_wp2_with fail
  refine (K1.out _ _ _ _ st1.here).mono ?_
  rintro e w2 ⟨rfl, b2⟩
  have st2 := st1.b b2
  clear st1 b2
  go_wp2_with fail
  refine (K2.out _ _ _ _ st2.here).mono ?_
  rintro e w3 ⟨rfl, b3⟩
  have st3 := st2.b b3
  clear st2 b3
  have u1 := IntWalk.wrap64_in _ t1
  have u3 := IntWalk.wrap64_in _ t3
  clear t1 t3
  go_wp2_with fail
  refine (K3.out _ _ _ (st3.take (k + 1) HKL.out.1).here).mono ?_
  rintro e w4 ⟨rfl, b4⟩
  have st4 := st3.b b4
  clear st3 b4
  go_wp2_with fail
  refine (K4.out _ _ _ (st4.drop k HKL.out.2).here).mono ?_
  rintro e w5 ⟨rfl, b5⟩
  have HB := Lib.hid (st4.b b5).bel
  clear st4 b5 u1 u3 i1 i2 i3 i4 i5 i6
  have u2 := IntWalk.wrap64_in _ T2.out
  rw [← HS.out] at u2
  go_wp2
  go_ret
  exact ⟨ret_bool (by have := HS.out; first | rfl | (simp; omega) | simp_all), HB.out⟩

/-! ### THE ROW's STEP: WRITTEN OUT: LEAVE IT -/
set_option maxRecDepth 100000 in
theorem lifted (os : Os) (started : os.Started) (H : Type) (enc : TypeId × Value → H) :
    ReturnsInHanded {} Try.checked os 8 .any (Rows.fnGainOfSpec.pre6 enc Try.prog Try.f8 Rows.fnGainOfRow.domain false) (Rows.fnGainOfSpec.post enc Try.prog Try.f8 false true false false) := by
  refine returnsInHanded_of_change (C := Try.checked) own started (by kernel_rfl) Try.func8
    (ChangeSpec.witness6 (enc := enc) (C := Try.checked) false ⟨#[], #[.slice none 0 0], []⟩ 8 (by kernel_rfl) (by kernel_rfl) (by kernel_rfl) (by kernel_rfl)) ?_
  intro W base args ds gs before hval0 hW hcnd _
  have hval : ∀ (j : Nat) t v, Try.f8.params[j]? = some t → args[j]? = some v → Value.okWide Try.prog W .any base t v := hval0
  have hW' := hW
  obtain ⟨p, q, hA0, hV, rfl, hfz, hnd⟩ := hW
  have hA : DataW.TrodAll enc Try.prog W 0 (fun _ => true) true Try.f8.params.toList args.toList ds p := hA0
  rw [Try.params8] at hA hval
  obtain ⟨v0, vs0, d0, ds0, p0, q0, hargs, rfl, rfl, h0, r0⟩ := trodAll_cons hA
  obtain ⟨rfl, rfl, rfl⟩ := trodAll_nil r0
  obtain rfl : args = #[v0] := by cases args; simp_all
  obtain ⟨rfl, rfl⟩ := trodVars_none hV
  obtain ⟨a0, len0, cap0, rfl⟩ := okWide_slice Try.underlying22 (hval 0 22 v0 rfl rfl)
  have k0 := h0
  have lt0 : ∀ x ∈ p0, x.block < W.heap.size := by obtain ⟨m, hm⟩ := k0; exact DataW.trod_lt m _ _ _ hm
  obtain ⟨z0, w0⟩ : ∃ zs, IsRow .u8 W a0 len0 cap0 zs := by
    obtain ⟨fuel, hf⟩ := h0
    rcases open_ints Try.underlying22 Try.underlying5 (by kernel_rfl) hf with ⟨hcs, _⟩ | ⟨x, l, c, zs, hcs, _, hl, hm, hz, _, hcell, hwz⟩
    · simp [Value.cells] at hcs
      obtain ⟨rfl, rfl, rfl⟩ := hcs
      exact ⟨[], .inl ⟨rfl, rfl, rfl, rfl⟩⟩
    · simp [Value.cells] at hcs
      obtain ⟨rfl, rfl, rfl⟩ := hcs
      exact ⟨zs, .inr ⟨_, rfl, hl, hm, by simpa using hz, hcell, hwz⟩⟩
  clear hA0 hval0
  refine (walk a0 len0 cap0 z0 W w0).mono fun e W' ⟨he, bel⟩ => ?_
  subst he
  exact ⟨_, rfl, _, _, _, [], _, [], hW', trodAll_mk1 (shut_bool Try.underlying4 _), (trodAll_cons_mk (Below.trod laidOut (by kernel_rfl) (of_decide_eq_true (by kernel_rfl)) k0 bel lt0) trodAll_mk0), rfl, bel.frame _, fun h => by cases h⟩

theorem closed : joinedFacts Try.pinned.checked.prog 8 Try.f8 Rows.fnGainOfSpec Rows.fnGainOfRow = true := by
  unfold joinedFacts
  rw [mayJ, liftsJ, makeJ]
  kernel_rfl

theorem over : Rows.fnGainOfRow.holds Try.pinned (OpenSpec.ofChange Rows.fnGainOfSpec) :=
  OpenClaim.holds_of_wide 8 Try.f8 rfl rfl rfl rfl rfl rfl rfl ⟨rfl, rfl, rfl, rfl, rfl⟩ rfl rfl rfl rfl rfl (by kernel_rfl) Try.func8 closed
    (of_decide_eq_true (by kernel_rfl)) (by unfold Func.isWrapper; first | (rw [if_pos (by decide +kernel)]; kernel_rfl) | (rw [if_neg (by decide +kernel)]; exact ⟨rfl, rfl⟩))
    (fun os started H enc _ => lifted os started H enc)

/-- ████ THE STATEMENT ████ -/
theorem proved : Rows.FnGainOfSaid := over
#print axioms proved
end Go.Proofs.Ytiogcaalapoehaa.fnGainOf
