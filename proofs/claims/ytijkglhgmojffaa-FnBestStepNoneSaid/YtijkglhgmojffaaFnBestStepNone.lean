/-
  PROVED: FnBestStepNone: for every input the law returns true, and the input reads as it did. No condition.
  The frame is as the kit prints it (proof-skeleton.mjs); the walk is mine.
-/
import Derived.Test.YtijkglhgmojffaaRows
import Derived.Test.YtijkglhgmojffaaDev
import Derived.Test.YtijkglhgmojffaaDrawP
import Derived.Test.YtijkglhgmojffaaMarkI
import Derived.WalkKit
import Derived.ProofKit
import Derived.OpenShut
import Derived.ShutString
import Derived.ChangeOld
import Derived.Below
namespace Go.Proofs.Ytijkglhgmojffaa.fnBestStepNone
open Go.ChangeShapes Go.WideShapes Go.ChangeAt Go.RowKit
open Go.ChangeMaps (open_string shut_string)
set_option linter.unusedVariables false

theorem own : ownKnob Try.prog.godebug = none := by kernel_rfl
theorem laidOut : laidOutB Try.prog = true := by kernel_rfl

/-- WHAT THE WALK IS TOLD OF A SLICE OF INTEGERS THAT CAME IN: it is nil; or it leads to a row of 'cap' cells, the numbers 'zs' (the first 'len' are its elements, the rest its spare room), each fitting its kind. -/
def IsRow (k : IntKind) (w : World) (a : Option Addr) (len cap : Nat) (zs : List Int) : Prop :=
  (a = none ∧ len = 0 ∧ cap = 0 ∧ zs = []) ∨
  ∃ x, a = some x ∧ len ≤ cap ∧ cap ≤ maxLen ∧ zs.length = cap ∧ (∀ i, i < zs.length → w.cell? (x.add i) = some (.int k (zs.getD i 0))) ∧ ∀ n ∈ zs, (Lit.int k n).wf = true

/-! ### STEP 1: THE WALK: the Go text returns true, AND WRITES NOTHING THAT WAS THERE: 'Below w.heap.size w w'' (Derived/Below.lean: '.refl', '.alloc', '.drew', '.setCell' at a new block, '.trans'). Open each 'IsRow' by 'rcases' AHEAD of 'go_enter'; part every test ahead of the walk. -/
set_option maxRecDepth 100000 in
set_option maxHeartbeats 8000000 in
theorem walk (a0 : Option Addr) (len0 cap0 : Nat) (z0 : List Int) (w : World) (w0 : IsRow .u8 w a0 len0 cap0 z0) :
    Calls Try.prog 9 #[.slice a0 len0 cap0] w fun e w' => e = .returned (.bool true) ∧ Below w.heap.size w w' := by
  by_cases hl : 1048576 < len0
  · have hl' : (1048576 : Int) < (len0 : Int) := by omega
    clear w0 hl
    go_enter Try.func9, Try.ntmps9
    go_wp2
    go_ret
    exact ⟨rfl, Below.refl _ _⟩
  have hl' : ¬ (1048576 : Int) < (len0 : Int) := by omega
  obtain ⟨hc, hcap⟩ := code_of w0 (by omega)
  clear w0 hl
  go_enter Try.func9, Try.ntmps9
  go_wp2_with fail
  refine (DrawBestStep_any w a0 len0 cap0 hc hcap).mono ?_
  rintro e w1 ⟨a, n, c, l, rfl, hL, hn18, hnc, hcm, hS, bl⟩
  clear hc hcap
  have hln := hL.1
  have k1 := fun w' (h : Lst w'.heap.size w' a n l) => BS_impl n c a l w' h
  have k2 := fun w' (h : Lst w'.heap.size w' a n l) => BS_spec n c a l w' h
  have hb := F.best l 16
  have hbs : F.bs l = (F.bl l 16).1 := rfl
  rw [← hbs] at hb
  generalize (F.bl l 16).2 = m at hb
  generalize F.bs l = B at *
  have hblo := hb.lo
  have hbhi := hb.hi
  have HBE := Lib.hid hb
  have HLN := Lib.hid hln
  have K1 := Lib.hid k1
  have K2 := Lib.hid k2
  clear k1 k2 hln hb hbs
  go_wp2_with fail
  refine (K1.out _ hL).mono ?_
  rintro e w2 ⟨rfl, b2⟩
  have hL2 := lst_same hL b2 (Nat.le_refl _)
  have bl2 := bl.trans (b2.mono bl.size)
  clear b2 bl hL K1
  go_wp2_with fail
  refine (K2.out _ hL2).mono ?_
  rintro e w3 ⟨rfl, b3⟩
  have hL3 := lst_same hL2 b3 (Nat.le_refl _)
  have bl3 := bl2.trans (b3.mono bl2.size)
  clear b3 bl2 hL2
  have h3 : B = 0 ∨ 3 ≤ n := by
    by_cases h0 : B = 0
    · exact .inl h0
    · obtain ⟨j0, rfl⟩ : ∃ j0 : Nat, B = (j0 : Int) := ⟨B.toNat, by omega⟩
      have := F.dev_pos_len (HBE.out.some_ h0).1
      rw [HLN.out] at this
      omega
  have HB := Lib.hid bl3
  clear bl3 hL3 K2
  by_cases hn : 3 ≤ n
  · have hn' : decide ((3 : Int) ≤ (n : Int)) = true := decide_eq_true (by omega)
    clear h3
    go_wp2
    go_ret
    exact ⟨ret_bool (by first | rfl | simp), HB.out⟩
  · have hn' : decide ((3 : Int) ≤ (n : Int)) = false := decide_eq_false (by omega)
    obtain rfl : B = 0 := by omega
    clear h3
    go_wp2
    go_ret
    exact ⟨ret_bool (by first | rfl | simp), HB.out⟩

/-! ### THE ROW's STEP: WRITTEN OUT: LEAVE IT -/
set_option maxRecDepth 100000 in
theorem lifted (os : Os) (started : os.Started) (H : Type) (enc : TypeId × Value → H) :
    ReturnsInHanded {} Try.checked os 9 .any (Rows.fnBestStepNoneSpec.pre6 enc Try.prog Try.f9 Rows.fnBestStepNoneRow.domain false) (Rows.fnBestStepNoneSpec.post enc Try.prog Try.f9 false true false false) := by
  refine returnsInHanded_of_change (C := Try.checked) own started (by kernel_rfl) Try.func9
    (ChangeSpec.witness6 (enc := enc) (C := Try.checked) false ⟨#[], #[.slice none 0 0], []⟩ 8 (by kernel_rfl) (by kernel_rfl) (by kernel_rfl) (by kernel_rfl)) ?_
  intro W base args ds gs before hval0 hW hcnd _
  have hval : ∀ (j : Nat) t v, Try.f9.params[j]? = some t → args[j]? = some v → Value.okWide Try.prog W .any base t v := hval0
  have hW' := hW
  obtain ⟨p, q, hA0, hV, rfl, hfz, hnd⟩ := hW
  have hA : DataW.TrodAll enc Try.prog W 0 (fun _ => true) true Try.f9.params.toList args.toList ds p := hA0
  rw [Try.params9] at hA hval
  obtain ⟨v0, vs0, d0, ds0, p0, q0, hargs, rfl, rfl, h0, r0⟩ := trodAll_cons hA
  obtain ⟨rfl, rfl, rfl⟩ := trodAll_nil r0
  obtain rfl : args = #[v0] := by cases args; simp_all
  obtain ⟨rfl, rfl⟩ := trodVars_none hV
  obtain ⟨a0, len0, cap0, rfl⟩ := okWide_slice Try.underlying22 (hval 0 22 v0 rfl rfl)
  have k0 := h0
  have lt0 : ∀ x ∈ p0, x.block < W.heap.size := by obtain ⟨m, hm⟩ := k0; exact DataW.trod_lt m _ _ _ hm
  obtain ⟨z0, w0⟩ : ∃ zs, IsRow .u8 W a0 len0 cap0 zs := by
    obtain ⟨fuel, hf⟩ := h0
    rcases open_ints Try.underlying22 Try.underlying5 (by kernel_rfl) hf with ⟨hcs, _⟩ | ⟨x, l, c, zs, hcs, _, hl, hm, hz, _, hcell, hwz⟩
    · simp [Value.cells] at hcs
      obtain ⟨rfl, rfl, rfl⟩ := hcs
      exact ⟨[], .inl ⟨rfl, rfl, rfl, rfl⟩⟩
    · simp [Value.cells] at hcs
      obtain ⟨rfl, rfl, rfl⟩ := hcs
      exact ⟨zs, .inr ⟨_, rfl, hl, hm, by simpa using hz, hcell, hwz⟩⟩
  clear hA0 hval0
  refine (walk a0 len0 cap0 z0 W w0).mono fun e W' ⟨he, bel⟩ => ?_
  subst he
  exact ⟨_, rfl, _, _, _, [], _, [], hW', trodAll_mk1 (shut_bool Try.underlying4 _), (trodAll_cons_mk (Below.trod laidOut (by kernel_rfl) (of_decide_eq_true (by kernel_rfl)) k0 bel lt0) trodAll_mk0), rfl, bel.frame _, fun h => by cases h⟩

theorem over : Rows.fnBestStepNoneRow.holds Try.pinned (OpenSpec.ofChange Rows.fnBestStepNoneSpec) :=
  OpenClaim.holds_of_wide 9 Try.f9 rfl rfl rfl rfl rfl rfl rfl ⟨rfl, rfl, rfl, rfl, rfl⟩ rfl rfl rfl rfl rfl (by kernel_rfl) Try.func9 (by kernel_rfl)
    (of_decide_eq_true (by kernel_rfl)) (by unfold Func.isWrapper; first | (rw [if_pos (by decide +kernel)]; kernel_rfl) | (rw [if_neg (by decide +kernel)]; exact ⟨rfl, rfl⟩))
    (fun os started H enc _ => lifted os started H enc)

/-- ████ THE STATEMENT ████ -/
theorem proved : Rows.FnBestStepNoneSaid := over
#print axioms proved
end Go.Proofs.Ytijkglhgmojffaa.fnBestStepNone
