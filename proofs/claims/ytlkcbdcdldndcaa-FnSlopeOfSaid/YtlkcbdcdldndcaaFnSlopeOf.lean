/-
  PROVED: FnSlopeOf: for every input the law returns true, and the input reads as it did. No condition.
  The frame is as the kit prints it (proof-skeleton.mjs); the walk is mine.
-/
import Derived.Test.YtlkcbdcdldndcaaRows
import Derived.Test.YtlkcbdcdldndcaaPhase
import Derived.Test.YtlkcbdcdldndcaaDrawP
import Derived.WalkKit
import Derived.ProofKit
import Derived.OpenShut
import Derived.ShutString
import Derived.ChangeOld
import Derived.Below
namespace Go.Proofs.Ytlkcbdcdldndcaa.fnSlopeOf
open Go.ChangeShapes Go.WideShapes Go.ChangeAt Go.RowKit
open Go.ChangeMaps (open_string shut_string)
set_option linter.unusedVariables false

theorem own : ownKnob Try.prog.godebug = none := by kernel_rfl
theorem laidOut : laidOutB Try.prog = true := by kernel_rfl

/-- WHAT THE WALK IS TOLD OF A SLICE OF INTEGERS THAT CAME IN: it is nil; or it leads to a row of 'cap' cells, the numbers 'zs' (the first 'len' are its elements, the rest its spare room), each fitting its kind. -/
def IsRow (k : IntKind) (w : World) (a : Option Addr) (len cap : Nat) (zs : List Int) : Prop :=
  (a = none ∧ len = 0 ∧ cap = 0 ∧ zs = []) ∨
  ∃ x, a = some x ∧ len ≤ cap ∧ cap ≤ maxLen ∧ zs.length = cap ∧ (∀ i, i < zs.length → w.cell? (x.add i) = some (.int k (zs.getD i 0))) ∧ ∀ n ∈ zs, (Lit.int k n).wf = true

/-! ### STEP 1: THE WALK: the Go text returns true, AND WRITES NOTHING THAT WAS THERE: 'Below w.heap.size w w'' (Derived/Below.lean: '.refl', '.alloc', '.drew', '.setCell' at a new block, '.trans'). Open each 'IsRow' by 'rcases' AHEAD of 'go_enter'; part every test ahead of the walk. -/
set_option maxRecDepth 100000 in
set_option maxHeartbeats 2000000 in
theorem walk (a0 : Option Addr) (len0 cap0 : Nat) (z0 : List Int) (w : World) (w0 : IsRow .u8 w a0 len0 cap0 z0) :
    Calls Try.prog 3 #[.slice a0 len0 cap0] w fun e w' => e = .returned (.bool true) ∧ Below w.heap.size w w' := by
  by_cases hl : 1048576 < len0
  · have hl' : (1048576 : Int) < (len0 : Int) := by omega
    clear w0 hl
    go_enter Try.func3, Try.ntmps3
    go_wp2
    go_ret
    exact ⟨rfl, Below.refl _ _⟩
  have hl' : ¬ (1048576 : Int) < (len0 : Int) := by omega
  obtain ⟨hc, hcap⟩ := code_of w0 (by omega)
  clear w0 hl
  go_enter Try.func3, Try.ntmps3
  go_wp2_with fail
  refine (DrawSlopeOf_any w a0 len0 cap0 hc hcap).mono ?_
  rintro e w1 ⟨a, n, c, l, rfl, hL, hn18, hnc, hcm, hS, bl⟩
  clear hc hcap
  have hl := hL.1
  have k1 := fun w' h => SL_impl w1.heap.size n c a l w' h
  have k2 := fun w' h => SL_spec w1.heap.size n c a l w' h
  rcases hv : F.sok l with _ | _
  · simp only [hv, F.sn_no hv] at k1 k2
    have K1 := Lib.hid k1
    have K2 := Lib.hid k2
    clear k1 k2 hv
    go_wp2_with fail
    refine (K1.out _ hL).mono ?_
    rintro e w2 ⟨rfl, q2⟩
    go_wp2_with fail
    refine (K2.out _ (hL.same q2)).mono ?_
    rintro e w3 ⟨rfl, q3⟩
    have HB := Lib.hid (bel_same (bel_same bl q2) q3)
    clear q2 q3
    go_wp2
    go_ret
    exact ⟨ret_bool (by first | rfl | simp), HB.out⟩
  · have hvp := F.vp_of (F.sok_of hv).1
    have h2 := (F.sok_of hv).2
    obtain ⟨m, rfl⟩ : ∃ m, n = m + 1 := ⟨n - 1, by omega⟩
    have hm1 : 1 ≤ m := by omega
    have g0 := hvp.2 0 (by omega)
    have g1 := hvp.2 m (by omega)
    have hsl : F.sl l = (L.g l m - L.g l 0) / (m : Int) := by unfold F.sl; rw [hl]; simp
    simp only [hv, F.sn_yes hv] at k1 k2
    have K1 := Lib.hid k1
    have K2 := Lib.hid k2
    have hm16 : m ≤ 15 := by omega
    have HV := Lib.hid (And.intro hvp hv)
    clear k1 k2 hv hvp hl
    have hd1 := Int.mul_ediv_add_emod (L.g l m - L.g l 0) (m : Int)
    have hd2 := Int.emod_nonneg (L.g l m - L.g l 0) (show (m : Int) ≠ 0 by omega)
    have hd3 := Int.emod_lt_of_pos (L.g l m - L.g l 0) (show 0 < (m : Int) by omega)
    have hmul : F.sl l * (m : Int) = (m : Int) * ((L.g l m - L.g l 0) / (m : Int)) := by rw [hsl, Int.mul_comm]
    generalize F.sl l = s at *
    have hs : -2000015 ≤ s * (m : Int) ∧ s * (m : Int) ≤ 2000015 := by omega
    have e1 : IntKind.i64.wrap (L.g l m - L.g l 0) = L.g l m - L.g l 0 := IntWalk.i64_in _ (by omega)
    have e2 : IntKind.i64.wrap ((m : Int) + 1 - 1) = (m : Int) := by rw [show (m : Int) + 1 - 1 = m by omega]; exact IntWalk.i64_in _ (by omega)
    have e3 : IntKind.i64.wrap (s * (m : Int)) = s * (m : Int) := IntWalk.i64_in _ (by omega)
    have e4 : IntKind.i64.wrap (L.g l m - L.g l 0 - s * (m : Int)) = L.g l m - L.g l 0 - s * (m : Int) := IntWalk.i64_in _ (by omega)
    have f1 : 0 ≤ L.g l m - L.g l 0 - s * (m : Int) := by omega
    have f2 : L.g l m - L.g l 0 - s * (m : Int) < (m : Int) := by omega
    clear hd1 hd2 hd3 hmul hs hsl
    obtain ⟨b, off, rfl, hb, hcl⟩ := hL.at_ 0 (by omega)
    have HC := Lib.hid hcl
    clear hcl
    go_wp2_with fail
    refine (K1.out _ hL).mono ?_
    rintro e w2 ⟨rfl, q2⟩
    have hL2 := hL.same q2
    go_wp2_with fail
    refine (K2.out _ hL2).mono ?_
    rintro e w3 ⟨rfl, q3⟩
    have HB := Lib.hid (bel_same (bel_same bl q2) q3)
    have x0 : w3.cell? ⟨b, off, none⟩ = some (.int .i64 (L.g l 0)) := by obtain ⟨p, rfl⟩ := q2; obtain ⟨p, rfl⟩ := q3; simpa using HC.out 0 (by omega)
    have xm : w3.cell? ⟨b, off + m, none⟩ = some (.int .i64 (L.g l m)) := by obtain ⟨p, rfl⟩ := q2; obtain ⟨p, rfl⟩ := q3; exact HC.out m (by omega)
    clear q2 q3 hL hL2 bl
    go_wp2_with fail
    first
    | (go_quiet (fail)
       go_wp2
       go_ret
       exact ⟨ret_bool (by first | rfl | simp), below_drewN HB.out _⟩)
    | (go_wp2
       go_ret
       exact ⟨ret_bool (by first | rfl | simp), HB.out⟩)

/-! ### THE ROW's STEP: WRITTEN OUT: LEAVE IT -/
set_option maxRecDepth 100000 in
theorem lifted (os : Os) (started : os.Started) (H : Type) (enc : TypeId × Value → H) :
    ReturnsInHanded {} Try.checked os 3 .any (Rows.fnSlopeOfSpec.pre6 enc Try.prog Try.f3 Rows.fnSlopeOfRow.domain false) (Rows.fnSlopeOfSpec.post enc Try.prog Try.f3 false true false false) := by
  refine returnsInHanded_of_change (C := Try.checked) own started (by kernel_rfl) Try.func3
    (ChangeSpec.witness6 (enc := enc) (C := Try.checked) false ⟨#[], #[.slice none 0 0], []⟩ 8 (by kernel_rfl) (by kernel_rfl) (by kernel_rfl) (by kernel_rfl)) ?_
  intro W base args ds gs before hval0 hW hcnd _
  have hval : ∀ (j : Nat) t v, Try.f3.params[j]? = some t → args[j]? = some v → Value.okWide Try.prog W .any base t v := hval0
  have hW' := hW
  obtain ⟨p, q, hA0, hV, rfl, hfz, hnd⟩ := hW
  have hA : DataW.TrodAll enc Try.prog W 0 (fun _ => true) true Try.f3.params.toList args.toList ds p := hA0
  rw [Try.params3] at hA hval
  obtain ⟨v0, vs0, d0, ds0, p0, q0, hargs, rfl, rfl, h0, r0⟩ := trodAll_cons hA
  obtain ⟨rfl, rfl, rfl⟩ := trodAll_nil r0
  obtain rfl : args = #[v0] := by cases args; simp_all
  obtain ⟨rfl, rfl⟩ := trodVars_none hV
  obtain ⟨a0, len0, cap0, rfl⟩ := okWide_slice Try.underlying22 (hval 0 22 v0 rfl rfl)
  have k0 := h0
  have lt0 : ∀ x ∈ p0, x.block < W.heap.size := by obtain ⟨m, hm⟩ := k0; exact DataW.trod_lt m _ _ _ hm
  obtain ⟨z0, w0⟩ : ∃ zs, IsRow .u8 W a0 len0 cap0 zs := by
    obtain ⟨fuel, hf⟩ := h0
    rcases open_ints Try.underlying22 Try.underlying5 (by kernel_rfl) hf with ⟨hcs, _⟩ | ⟨x, l, c, zs, hcs, _, hl, hm, hz, _, hcell, hwz⟩
    · simp [Value.cells] at hcs
      obtain ⟨rfl, rfl, rfl⟩ := hcs
      exact ⟨[], .inl ⟨rfl, rfl, rfl, rfl⟩⟩
    · simp [Value.cells] at hcs
      obtain ⟨rfl, rfl, rfl⟩ := hcs
      exact ⟨zs, .inr ⟨_, rfl, hl, hm, by simpa using hz, hcell, hwz⟩⟩
  clear hA0 hval0
  refine (walk a0 len0 cap0 z0 W w0).mono fun e W' ⟨he, bel⟩ => ?_
  subst he
  exact ⟨_, rfl, _, _, _, [], _, [], hW', trodAll_mk1 (shut_bool Try.underlying4 _), (trodAll_cons_mk (Below.trod laidOut (by kernel_rfl) (of_decide_eq_true (by kernel_rfl)) k0 bel lt0) trodAll_mk0), rfl, bel.frame _, fun h => by cases h⟩

theorem over : Rows.fnSlopeOfRow.holds Try.pinned (OpenSpec.ofChange Rows.fnSlopeOfSpec) :=
  OpenClaim.holds_of_wide 3 Try.f3 rfl rfl rfl rfl rfl rfl rfl ⟨rfl, rfl, rfl, rfl, rfl⟩ rfl rfl rfl rfl rfl (by kernel_rfl) Try.func3 (by kernel_rfl)
    (of_decide_eq_true (by kernel_rfl)) (by unfold Func.isWrapper; first | (rw [if_pos (by decide +kernel)]; kernel_rfl) | (rw [if_neg (by decide +kernel)]; exact ⟨rfl, rfl⟩))
    (fun os started H enc _ => lifted os started H enc)

/-- ████ THE STATEMENT ████ -/
theorem proved : Rows.FnSlopeOfSaid := over
#print axioms proved
end Go.Proofs.Ytlkcbdcdldndcaa.fnSlopeOf
