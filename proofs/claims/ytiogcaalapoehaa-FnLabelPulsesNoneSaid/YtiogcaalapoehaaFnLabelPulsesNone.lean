/-
  PROVED: FnLabelPulsesNone: for every input the law returns true, and the input reads as it did. No condition.
  The frame is as the kit prints it (proof-skeleton.mjs); the walk is mine.
-/
import Derived.Test.YtiogcaalapoehaaRows
import Derived.Test.YtiogcaalapoehaaLabs
import Derived.Test.YtiogcaalapoehaaDrawU
import Derived.Test.YtiogcaalapoehaaEqLb
import Derived.Test.YtiogcaalapoehaaJoin
import Derived.WalkKit
import Derived.ProofKit
import Derived.OpenShut
import Derived.ShutString
import Derived.ChangeOld
import Derived.Below
namespace Go.Proofs.Ytiogcaalapoehaa.fnLabelPulsesNone
open Go.ChangeShapes Go.WideShapes Go.ChangeAt Go.RowKit
open Go.ChangeMaps (open_string shut_string)
set_option linter.unusedVariables false

theorem own : ownKnob Try.prog.godebug = none := by kernel_rfl
theorem laidOut : laidOutB Try.prog = true := by kernel_rfl

/-- WHAT THE WALK IS TOLD OF A SLICE OF INTEGERS THAT CAME IN: it is nil; or it leads to a row of 'cap' cells, the numbers 'zs' (the first 'len' are its elements, the rest its spare room), each fitting its kind. -/
def IsRow (k : IntKind) (w : World) (a : Option Addr) (len cap : Nat) (zs : List Int) : Prop :=
  (a = none ∧ len = 0 ∧ cap = 0 ∧ zs = []) ∨
  ∃ x, a = some x ∧ len ≤ cap ∧ cap ≤ maxLen ∧ zs.length = cap ∧ (∀ i, i < zs.length → w.cell? (x.add i) = some (.int k (zs.getD i 0))) ∧ ∀ n ∈ zs, (Lit.int k n).wf = true

/-! ### STEP 1: THE WALK: the Go text returns true, AND WRITES NOTHING THAT WAS THERE: 'Below w.heap.size w w'' (Derived/Below.lean: '.refl', '.alloc', '.drew', '.setCell' at a new block, '.trans'). Open each 'IsRow' by 'rcases' AHEAD of 'go_enter'; part every test ahead of the walk. -/
set_option maxRecDepth 100000 in
set_option maxHeartbeats 4000000 in
theorem walk (a0 : Option Addr) (len0 cap0 : Nat) (z0 : List Int) (w : World) (w0 : IsRow .u8 w a0 len0 cap0 z0) :
    Calls Try.prog 14 #[.slice a0 len0 cap0] w fun e w' => e = .returned (.bool true) ∧ Below w.heap.size w w' := by
  by_cases hl : 1048576 < len0
  · have hl' : (1048576 : Int) < (len0 : Int) := by omega
    clear w0 hl
    go_enter Try.func14, Try.ntmps14
    go_wp2
    go_ret
    exact ⟨rfl, Below.refl _ _⟩
  have hl' : ¬ (1048576 : Int) < (len0 : Int) := by omega
  obtain ⟨hc, hcap⟩ := code_of w0 (by omega)
  clear w0 hl
  go_enter Try.func14, Try.ntmps14
  go_wp2_with fail
  refine (DrawLabelPulses_any w a0 len0 cap0 hc hcap).mono ?_
  rintro e w1 ⟨a, n, c, ps, a', c', ls, rfl, hL, hn18, hnc, hcm, hl18, hlc, hcm', hS, bl⟩
  clear hc hcap
  have hdl := (G.lp_len ps ls).2
  have k1 := fun c c' a a' n m w' (h : Lst w'.heap.size w' a n ps) (g : Sps w'.heap.size w' a' m ls) => LP_impl n c m c' a a' ps ls w' h g
  have k2 := fun c c' a a' n m w' (h : Lst w'.heap.size w' a n ps) (g : Sps w'.heap.size w' a' m ls) => LP_spec n c m c' a a' ps ls w' h g
  have k3 := fun c c' a' m w' (g : Sps w'.heap.size w' a' m ls) => LP_impl 0 c m c' none a' [] ls w' (Lst.none_ _ _ _) g
  have k4 := fun c c' a n w' (h : Lst w'.heap.size w' a n ps) => LP_impl n c 0 c' a none ps [] w' h ⟨rfl, by omega, .inl rfl⟩
  simp only [G.lp_nil1] at k3
  simp only [G.lp_nil2] at k4
  generalize G.lp ps ls = d at *
  obtain ⟨q, hq⟩ : ∃ q, d.length = q := ⟨_, rfl⟩
  have HQ := Lib.hid hq
  rw [hq] at hdl
  have K1 := Lib.hid k1
  have K2 := Lib.hid k2
  have K3 := Lib.hid k3
  have K4 := Lib.hid k4
  clear k1 k2 k3 k4 hq hn18 hnc hcm hl18 hlc hcm'
  go_wp2_with fail
  refine (K1.out _ _ _ _ _ _ _ hL hS).mono ?_
  rintro e w2 ⟨a2, c2, rfl, N2, b2⟩
  have M2 := prs_sps' N2 (by have := HQ.out; omega)
  rw [HQ.out] at M2 ⊢
  have hL2 := lst_same hL b2 (Nat.le_refl _)
  have hS2 := hS.keepB b2
  have bl2 := bl.trans (b2.mono bl.size)
  clear N2 b2 bl hL hS
  go_wp2_with fail
  refine (K2.out _ _ _ _ _ _ _ hL2 hS2).mono ?_
  rintro e w3 ⟨a3, c3, rfl, N3, b3⟩
  have M3 := prs_sps' N3 (by have := HQ.out; omega)
  rw [HQ.out] at M3 ⊢
  have P3 := M2.keepB b3
  have hL3 := lst_same hL2 b3 (Nat.le_refl _)
  have hS3 := hS2.keepB b3
  have bl3 := bl2.trans (b3.mono bl2.size)
  clear N3 b3 bl2 hL2 hS2 M2
  go_wp2_with fail
  refine (equalLabels_any q c2 c3 _ a2 a3 d w3 P3 M3).mono ?_
  rintro e w4 ⟨rfl, q4⟩
  have bl4 := bel_same bl3 q4
  have hL4 := lst_same hL3 q4.below (Nat.le_refl _)
  have hS4 := hS3.keepB q4.below
  clear q4 bl3 P3 M3 hL3 hS3
  go_wp2_with fail
  refine (K3.out _ _ _ _ _ hS4).mono ?_
  rintro e w5 ⟨a5, c5, rfl, N5, b5⟩
  have hL5 := lst_same hL4 b5 (Nat.le_refl _)
  have bl5 := bl4.trans (b5.mono bl4.size)
  clear N5 b5 bl4 hL4 hS4
  go_wp2_with fail
  refine (K4.out _ _ _ _ _ hL5).mono ?_
  rintro e w6 ⟨a6, c6, rfl, N6, b6⟩
  have HB := Lib.hid (bl5.trans (b6.mono bl5.size))
  clear N6 b6 bl5 hL5
  go_wp2
  go_ret
  exact ⟨ret_bool (by first | rfl | simp), HB.out⟩

/-! ### THE ROW's STEP: WRITTEN OUT: LEAVE IT -/
set_option maxRecDepth 100000 in
theorem lifted (os : Os) (started : os.Started) (H : Type) (enc : TypeId × Value → H) :
    ReturnsInHanded {} Try.checked os 14 .any (Rows.fnLabelPulsesNoneSpec.pre6 enc Try.prog Try.f14 Rows.fnLabelPulsesNoneRow.domain false) (Rows.fnLabelPulsesNoneSpec.post enc Try.prog Try.f14 false true false false) := by
  refine returnsInHanded_of_change (C := Try.checked) own started (by kernel_rfl) Try.func14
    (ChangeSpec.witness6 (enc := enc) (C := Try.checked) false ⟨#[], #[.slice none 0 0], []⟩ 8 (by kernel_rfl) (by kernel_rfl) (by kernel_rfl) (by kernel_rfl)) ?_
  intro W base args ds gs before hval0 hW hcnd _
  have hval : ∀ (j : Nat) t v, Try.f14.params[j]? = some t → args[j]? = some v → Value.okWide Try.prog W .any base t v := hval0
  have hW' := hW
  obtain ⟨p, q, hA0, hV, rfl, hfz, hnd⟩ := hW
  have hA : DataW.TrodAll enc Try.prog W 0 (fun _ => true) true Try.f14.params.toList args.toList ds p := hA0
  rw [Try.params14] at hA hval
  obtain ⟨v0, vs0, d0, ds0, p0, q0, hargs, rfl, rfl, h0, r0⟩ := trodAll_cons hA
  obtain ⟨rfl, rfl, rfl⟩ := trodAll_nil r0
  obtain rfl : args = #[v0] := by cases args; simp_all
  obtain ⟨rfl, rfl⟩ := trodVars_none hV
  obtain ⟨a0, len0, cap0, rfl⟩ := okWide_slice Try.underlying22 (hval 0 22 v0 rfl rfl)
  have k0 := h0
  have lt0 : ∀ x ∈ p0, x.block < W.heap.size := by obtain ⟨m, hm⟩ := k0; exact DataW.trod_lt m _ _ _ hm
  obtain ⟨z0, w0⟩ : ∃ zs, IsRow .u8 W a0 len0 cap0 zs := by
    obtain ⟨fuel, hf⟩ := h0
    rcases open_ints Try.underlying22 Try.underlying5 (by kernel_rfl) hf with ⟨hcs, _⟩ | ⟨x, l, c, zs, hcs, _, hl, hm, hz, _, hcell, hwz⟩
    · simp [Value.cells] at hcs
      obtain ⟨rfl, rfl, rfl⟩ := hcs
      exact ⟨[], .inl ⟨rfl, rfl, rfl, rfl⟩⟩
    · simp [Value.cells] at hcs
      obtain ⟨rfl, rfl, rfl⟩ := hcs
      exact ⟨zs, .inr ⟨_, rfl, hl, hm, by simpa using hz, hcell, hwz⟩⟩
  clear hA0 hval0
  refine (walk a0 len0 cap0 z0 W w0).mono fun e W' ⟨he, bel⟩ => ?_
  subst he
  exact ⟨_, rfl, _, _, _, [], _, [], hW', trodAll_mk1 (shut_bool Try.underlying4 _), (trodAll_cons_mk (Below.trod laidOut (by kernel_rfl) (of_decide_eq_true (by kernel_rfl)) k0 bel lt0) trodAll_mk0), rfl, bel.frame _, fun h => by cases h⟩

theorem closed : joinedFacts Try.pinned.checked.prog 14 Try.f14 Rows.fnLabelPulsesNoneSpec Rows.fnLabelPulsesNoneRow = true := by
  unfold joinedFacts
  rw [mayJ, liftsJ, makeJ]
  kernel_rfl

theorem over : Rows.fnLabelPulsesNoneRow.holds Try.pinned (OpenSpec.ofChange Rows.fnLabelPulsesNoneSpec) :=
  OpenClaim.holds_of_wide 14 Try.f14 rfl rfl rfl rfl rfl rfl rfl ⟨rfl, rfl, rfl, rfl, rfl⟩ rfl rfl rfl rfl rfl (by kernel_rfl) Try.func14 closed
    (of_decide_eq_true (by kernel_rfl)) (by unfold Func.isWrapper; first | (rw [if_pos (by decide +kernel)]; kernel_rfl) | (rw [if_neg (by decide +kernel)]; exact ⟨rfl, rfl⟩))
    (fun os started H enc _ => lifted os started H enc)

/-- ████ THE STATEMENT ████ -/
theorem proved : Rows.FnLabelPulsesNoneSaid := over
#print axioms proved
end Go.Proofs.Ytiogcaalapoehaa.fnLabelPulsesNone
