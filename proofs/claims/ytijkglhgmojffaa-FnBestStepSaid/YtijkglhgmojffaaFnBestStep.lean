/-
  PROVED: FnBestStep: for every input the law returns true, and the input reads as it did. No condition.
  The frame is as the kit prints it (proof-skeleton.mjs); the walk is mine.
-/
import Derived.Test.YtijkglhgmojffaaRows
import Derived.Test.YtijkglhgmojffaaDev
import Derived.Test.YtijkglhgmojffaaDrawP
import Derived.Test.YtijkglhgmojffaaMarkI
import Derived.WalkKit
import Derived.ProofKit
import Derived.OpenShut
import Derived.ShutString
import Derived.ChangeOld
import Derived.Below
namespace Go.Proofs.Ytijkglhgmojffaa.fnBestStep
open Go.ChangeShapes Go.WideShapes Go.ChangeAt Go.RowKit
open Go.ChangeMaps (open_string shut_string)
set_option linter.unusedVariables false

theorem own : ownKnob Try.prog.godebug = none := by kernel_rfl
theorem laidOut : laidOutB Try.prog = true := by kernel_rfl

/-- WHAT THE WALK IS TOLD OF A SLICE OF INTEGERS THAT CAME IN: it is nil; or it leads to a row of 'cap' cells, the numbers 'zs' (the first 'len' are its elements, the rest its spare room), each fitting its kind. -/
def IsRow (k : IntKind) (w : World) (a : Option Addr) (len cap : Nat) (zs : List Int) : Prop :=
  (a = none ∧ len = 0 ∧ cap = 0 ∧ zs = []) ∨
  ∃ x, a = some x ∧ len ≤ cap ∧ cap ≤ maxLen ∧ zs.length = cap ∧ (∀ i, i < zs.length → w.cell? (x.add i) = some (.int k (zs.getD i 0))) ∧ ∀ n ∈ zs, (Lit.int k n).wf = true

/-! ### STEP 1: THE WALK: the Go text returns true, AND WRITES NOTHING THAT WAS THERE: 'Below w.heap.size w w'' (Derived/Below.lean: '.refl', '.alloc', '.drew', '.setCell' at a new block, '.trans'). Open each 'IsRow' by 'rcases' AHEAD of 'go_enter'; part every test ahead of the walk. -/
set_option maxRecDepth 100000 in
set_option maxHeartbeats 8000000 in
theorem walk (a0 : Option Addr) (len0 cap0 : Nat) (z0 : List Int) (w : World) (w0 : IsRow .u8 w a0 len0 cap0 z0) :
    Calls Try.prog 8 #[.slice a0 len0 cap0] w fun e w' => e = .returned (.bool true) ∧ Below w.heap.size w w' := by
  by_cases hl : 1048576 < len0
  · have hl' : (1048576 : Int) < (len0 : Int) := by omega
    clear w0 hl
    go_enter Try.func8, Try.ntmps8
    go_wp2
    go_ret
    exact ⟨rfl, Below.refl _ _⟩
  have hl' : ¬ (1048576 : Int) < (len0 : Int) := by omega
  obtain ⟨hc, hcap⟩ := code_of w0 (by omega)
  clear w0 hl
  go_enter Try.func8, Try.ntmps8
  go_wp2_with fail
  refine (DrawBestStep_any w a0 len0 cap0 hc hcap).mono ?_
  rintro e w1 ⟨a, n, c, l, rfl, hL, hn18, hnc, hcm, hS, bl⟩
  clear hc hcap
  have hln := hL.1
  have k1 := fun w' (h : Lst w'.heap.size w' a n l) => BS_impl n c a l w' h
  have k2 := fun w' (h : Lst w'.heap.size w' a n l) => BS_spec n c a l w' h
  have hb := F.best l 16
  have hbs : F.bs l = (F.bl l 16).1 := rfl
  rw [← hbs] at hb
  generalize (F.bl l 16).2 = m at hb
  generalize F.bs l = B at *
  have hblo := hb.lo
  have hbhi := hb.hi
  have HBE := Lib.hid hb
  have HLN := Lib.hid hln
  have K1 := Lib.hid k1
  have K2 := Lib.hid k2
  clear k1 k2 hln hb hbs
  go_wp2_with fail
  refine (K1.out _ hL).mono ?_
  rintro e w2 ⟨rfl, b2⟩
  have hL2 := lst_same hL b2 (Nat.le_refl _)
  have bl2 := bl.trans (b2.mono bl.size)
  clear b2 bl hL K1
  go_wp2_with fail
  refine (K2.out _ hL2).mono ?_
  rintro e w3 ⟨rfl, b3⟩
  have hL3 := lst_same hL2 b3 (Nat.le_refl _)
  have bl3 := bl2.trans (b3.mono bl2.size)
  clear b3 bl2 hL2
  by_cases h0 : B < 1
  · have h0' : decide (B < 1) = true := decide_eq_true h0
    go_wp2_with fail
    refine (K2.out _ hL3).mono ?_
    rintro e w5 ⟨rfl, b5⟩
    have HB := Lib.hid (bl3.trans (b5.mono bl3.size))
    clear b5 bl3 hL3
    go_wp2
    go_ret
    exact ⟨ret_bool (by first | rfl | simp), HB.out⟩
  obtain ⟨j0, rfl⟩ : ∃ j0 : Nat, B = (j0 : Int) := ⟨B.toNat, by omega⟩
  have h1 : 1 ≤ j0 := by omega
  have h16 : j0 ≤ 16 := by push_cast at hbhi; omega
  have hso := HBE.out.some_ (by omega)
  have hd := F.dev_in l (j0 : Int)
  have h2 := F.dev_pos_len hso.1
  have hsq := F.sq_nat (j := j0) h1 (by omega)
  rw [HLN.out] at h2
  have k3 := fun w' (h : Lst w'.heap.size w' a n l) => DV_impl n c (j0 : Int) a l w' h
  have K4 := Lib.hid (fun w' (h : Lst w'.heap.size w' a n l) (st : Int) => DV_impl n c st a l w' h)
  obtain ⟨hs1, hs2, hs3⟩ := hso
  generalize F.dev l (j0 : Int) = D0 at *
  have HS3 := Lib.hid hs3
  have HS2 := Lib.hid hs2
  have K3 := Lib.hid k3
  have hm := F.div_in hs1 hsq.1 hd.2
  rw [← hs2] at hm
  obtain ⟨M, hM⟩ : ∃ M, D0 / ((j0 : Int) * (j0 : Int)) = M := ⟨_, rfl⟩
  obtain rfl : m = M := hs2.trans hM
  have w1' : IntKind.i64.wrap ((j0 : Int) * (j0 : Int)) = (j0 : Int) * (j0 : Int) := IntWalk.i64_in _ (by omega)
  have h0' : ¬ ((j0 : Int) < 1) := h0
  have HMM := Lib.hid hM
  clear k3 hs3 hs2 hbhi h0 hblo hM
  go_wp2_with fail
  refine (K3.out _ hL3).mono ?_
  rintro e w4 ⟨rfl, b4⟩
  have hL4 := lst_same hL3 b4 (Nat.le_refl _)
  have bl4 := bl3.trans (b4.mono bl3.size)
  clear b4 bl3 hL3 K3
  go_wp2_with fail
  clear w1'
  rw [HMM.out]
  go_loopw [6] (fun i wr => ∃ j : Nat, 1 ≤ j ∧ j ≤ 17 ∧ i = .int .i64 j ∧ Below w.heap.size w wr ∧ Lst wr.heap.size wr a n l) (fun i _ => 17 - (intOf i).toNat)
  case atStart => exact ⟨1, by omega, by omega, rfl, bl4, hL4⟩
  case round =>
    obtain ⟨j, hj1, hj2, rfl, hB, hL⟩ := hrel
    clear bl4 hL4
    by_cases hlt : j ≤ 16
    · have hj3 : (j : Int) ≤ 16 := by omega
      have hdi := F.dev_in l (j : Int)
      have hsq2 := F.sq_nat hj1 hj2
      have w1' : IntKind.i64.wrap ((j : Int) * (j : Int)) = (j : Int) * (j : Int) := IntWalk.i64_in _ (by omega)
      have k1 := K4.out wr hL (j : Int)
      have t1 := HS3.out j hj1 hlt
      generalize F.dev l (j : Int) = D at *
      have T1 := Lib.hid t1
      have KK := Lib.hid k1
      clear k1 t1 hlt
      go_wp2_with fail
      refine KK.out.mono ?_
      rintro e w5 ⟨rfl, b5⟩
      have HB2 := Lib.hid (And.intro (hB.trans (b5.mono hB.size)) (lst_same hL b5 (Nat.le_refl _)))
      clear b5 hB hL KK
      rcases Int.lt_or_le D 0 with hD | hD
      · have hD' : ¬ 0 ≤ D := by omega
        have hD'' : D ≤ -1 := by omega
        go_wp2
        go_roundw
        case rel => exact ⟨j + 1, by omega, by omega, by go_num, HB2.out.1, HB2.out.2⟩
        case measure => simp [intOf]; omega
      · obtain ⟨E, hE⟩ : ∃ E, D / ((j : Int) * (j : Int)) = E := ⟨_, rfl⟩
        have hEi := F.div_in hD hsq2.1 hdi.2
        have ht := T1.out hD
        rw [hE] at hEi ht
        rcases ht with ht | ⟨ht, hjj⟩
        · have x1 : ¬ E < m := by omega
          have x2 : (E == m) = false := by rw [beq_eq_false_iff_ne]; omega
          have x3 : m ≤ E := by omega
          go_wp2
          go_roundw
          case rel => exact ⟨j + 1, by omega, by omega, by go_num, HB2.out.1, HB2.out.2⟩
          case measure => simp [intOf]; omega
        · have x1 : ¬ E < m := by omega
          have x2 : (E == m) = true := by rw [beq_iff_eq]; exact ht.symm
          have x3 : ¬ (j : Int) < (j0 : Int) := by omega
          clear ht
          have x4 : decide (j < j0) = false := decide_eq_false (by omega)
          go_wp2
          go_roundw
          case rel => exact ⟨j + 1, by omega, by omega, by go_num, HB2.out.1, HB2.out.2⟩
          case measure => simp [intOf]; omega
    · obtain rfl : j = 17 := by omega
      have hj3 : ¬ ((17 : Nat) : Int) ≤ 16 := by decide
      have h2' : 2 * (j0 : Int) < (n : Int) := by omega
      have HB := Lib.hid hB
      clear hB hL h2
      go_wp2
      go_ret
      exact ⟨ret_bool (by first | rfl | (simp; done) | (simp; omega)), HB.out⟩

/-! ### THE ROW's STEP: WRITTEN OUT: LEAVE IT -/
set_option maxRecDepth 100000 in
theorem lifted (os : Os) (started : os.Started) (H : Type) (enc : TypeId × Value → H) :
    ReturnsInHanded {} Try.checked os 8 .any (Rows.fnBestStepSpec.pre6 enc Try.prog Try.f8 Rows.fnBestStepRow.domain false) (Rows.fnBestStepSpec.post enc Try.prog Try.f8 false true false false) := by
  refine returnsInHanded_of_change (C := Try.checked) own started (by kernel_rfl) Try.func8
    (ChangeSpec.witness6 (enc := enc) (C := Try.checked) false ⟨#[], #[.slice none 0 0], []⟩ 8 (by kernel_rfl) (by kernel_rfl) (by kernel_rfl) (by kernel_rfl)) ?_
  intro W base args ds gs before hval0 hW hcnd _
  have hval : ∀ (j : Nat) t v, Try.f8.params[j]? = some t → args[j]? = some v → Value.okWide Try.prog W .any base t v := hval0
  have hW' := hW
  obtain ⟨p, q, hA0, hV, rfl, hfz, hnd⟩ := hW
  have hA : DataW.TrodAll enc Try.prog W 0 (fun _ => true) true Try.f8.params.toList args.toList ds p := hA0
  rw [Try.params8] at hA hval
  obtain ⟨v0, vs0, d0, ds0, p0, q0, hargs, rfl, rfl, h0, r0⟩ := trodAll_cons hA
  obtain ⟨rfl, rfl, rfl⟩ := trodAll_nil r0
  obtain rfl : args = #[v0] := by cases args; simp_all
  obtain ⟨rfl, rfl⟩ := trodVars_none hV
  obtain ⟨a0, len0, cap0, rfl⟩ := okWide_slice Try.underlying22 (hval 0 22 v0 rfl rfl)
  have k0 := h0
  have lt0 : ∀ x ∈ p0, x.block < W.heap.size := by obtain ⟨m, hm⟩ := k0; exact DataW.trod_lt m _ _ _ hm
  obtain ⟨z0, w0⟩ : ∃ zs, IsRow .u8 W a0 len0 cap0 zs := by
    obtain ⟨fuel, hf⟩ := h0
    rcases open_ints Try.underlying22 Try.underlying5 (by kernel_rfl) hf with ⟨hcs, _⟩ | ⟨x, l, c, zs, hcs, _, hl, hm, hz, _, hcell, hwz⟩
    · simp [Value.cells] at hcs
      obtain ⟨rfl, rfl, rfl⟩ := hcs
      exact ⟨[], .inl ⟨rfl, rfl, rfl, rfl⟩⟩
    · simp [Value.cells] at hcs
      obtain ⟨rfl, rfl, rfl⟩ := hcs
      exact ⟨zs, .inr ⟨_, rfl, hl, hm, by simpa using hz, hcell, hwz⟩⟩
  clear hA0 hval0
  refine (walk a0 len0 cap0 z0 W w0).mono fun e W' ⟨he, bel⟩ => ?_
  subst he
  exact ⟨_, rfl, _, _, _, [], _, [], hW', trodAll_mk1 (shut_bool Try.underlying4 _), (trodAll_cons_mk (Below.trod laidOut (by kernel_rfl) (of_decide_eq_true (by kernel_rfl)) k0 bel lt0) trodAll_mk0), rfl, bel.frame _, fun h => by cases h⟩

theorem over : Rows.fnBestStepRow.holds Try.pinned (OpenSpec.ofChange Rows.fnBestStepSpec) :=
  OpenClaim.holds_of_wide 8 Try.f8 rfl rfl rfl rfl rfl rfl rfl ⟨rfl, rfl, rfl, rfl, rfl⟩ rfl rfl rfl rfl rfl (by kernel_rfl) Try.func8 (by kernel_rfl)
    (of_decide_eq_true (by kernel_rfl)) (by unfold Func.isWrapper; first | (rw [if_pos (by decide +kernel)]; kernel_rfl) | (rw [if_neg (by decide +kernel)]; exact ⟨rfl, rfl⟩))
    (fun os started H enc _ => lifted os started H enc)

/-- ████ THE STATEMENT ████ -/
theorem proved : Rows.FnBestStepSaid := over
#print axioms proved
end Go.Proofs.Ytijkglhgmojffaa.fnBestStep
