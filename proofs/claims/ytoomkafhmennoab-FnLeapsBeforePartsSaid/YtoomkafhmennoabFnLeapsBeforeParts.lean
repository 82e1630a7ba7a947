/-
  PROVED: FnLeapsBeforeParts: for every input the law returns true, and the input reads as it did. No condition.
  The frame is as the kit prints it (proof-skeleton.mjs); the walk is mine.
-/
import Derived.Test.YtoomkafhmennoabRows
import Derived.Test.YtoomkafhmennoabLeapF
import Derived.Test.YtoomkafhmennoabDrawL
import Derived.Test.YtoomkafhmennoabLMathB
import Derived.WalkKit
import Derived.WalkSpells
import Derived.ProofKit
import Derived.OpenShut
import Derived.ShutString
import Derived.ChangeOld
import Derived.Below
namespace Go.Proofs.Ytoomkafhmennoab.fnLeapsBeforeParts
open Go.ChangeShapes Go.WideShapes Go.ChangeAt Go.RowKit
open Go.ChangeMaps (open_string shut_string)
set_option linter.unusedVariables false

theorem own : ownKnob Try.prog.godebug = none := by kernel_rfl
theorem laidOut : laidOutB Try.prog = true := by kernel_rfl

/-- WHAT THE WALK IS TOLD OF A SLICE OF INTEGERS THAT CAME IN: it is nil; or it leads to a row of 'cap' cells, the numbers 'zs' (the first 'len' are its elements, the rest its spare room), each fitting its kind. -/
def IsRow (k : IntKind) (w : World) (a : Option Addr) (len cap : Nat) (zs : List Int) : Prop :=
  (a = none ∧ len = 0 ∧ cap = 0 ∧ zs = []) ∨
  ∃ x, a = some x ∧ len ≤ cap ∧ cap ≤ maxLen ∧ zs.length = cap ∧ (∀ i, i < zs.length → w.cell? (x.add i) = some (.int k (zs.getD i 0))) ∧ ∀ n ∈ zs, (Lit.int k n).wf = true

/-! ### STEP 1: THE WALK: the Go text returns true, AND WRITES NOTHING THAT WAS THERE: 'Below w.heap.size w w'' (Derived/Below.lean: '.refl', '.alloc', '.drew', '.setCell' at a new block, '.trans'). Open each 'IsRow' by 'rcases' AHEAD of 'go_enter'; part every test ahead of the walk. -/
set_option maxHeartbeats 1000000 in
theorem walk (a0 : Option Addr) (len0 cap0 : Nat) (z0 : List Int) (w : World) (w0 : IsRow .u8 w a0 len0 cap0 z0) :
    Calls Try.prog 10 #[.slice a0 len0 cap0] w fun e w' => e = .returned (.bool true) ∧ Below w.heap.size w w' := by
  by_cases hl : 1048576 < len0
  · have hl' : (1048576 : Int) < (len0 : Int) := by omega
    clear w0 hl
    go_enter Try.func10, Try.ntmps10
    go_wp2
    go_ret
    exact ⟨rfl, Below.refl _ _⟩
  have hl' : ¬ (1048576 : Int) < (len0 : Int) := by omega
  obtain ⟨hc, hcap⟩ := code_of w0 (by omega)
  clear w0 hl
  go_enter Try.func10, Try.ntmps10
  go_wp2_with fail
  refine (DrawLeapsBefore_any w a0 len0 cap0 hc hcap).mono ?_
  rintro e w1 ⟨a, n, c, l, t, rfl, hL, hn, hnc, hm, ht, bl, hfr⟩
  clear hc hcap
  clear hfr
  by_cases hin : L.vl l = true ∧ 0 ≤ t ∧ t ≤ 3786479999
  · have e0 := L.lb_in hin.1 hin.2
    have c8 := L.cnt_le l t
    have l8 := L.len8 hin.1
    have hl := hL.1
    have f1 : 0 ≤ L.lb l t ∧ L.lb l t ≤ 8 := by omega
    rcases Nat.eq_zero_or_pos n with h0 | h0
    · subst h0
      clear e0 c8 l8 hl hin
      go_wp2_with (first | (go_at_call 26; refine (lb_impl _ _ _ _ _ _ _ (by assumption)).mono ?_; rintro e w' ⟨rfl, rfl⟩) | (go_at_call 36; refine (lb_spec _ _ _ _ _ _ _ (by assumption)).mono ?_; rintro e w' ⟨rfl, q⟩; have hL' := Lst.s (by assumption) q; have bl' := bel_same (by assumption) q))
      go_ret
      exact ⟨ret_bool (by simp), by assumption⟩
    · have f0 : ((n : Int) == 0) = false := by rw [beq_eq_false_iff_ne]; omega
      obtain ⟨b, off, rfl, hb, hcl⟩ := hL.at_ (n - 1) (by omega)
      have e2 := L.lb_in (L.vl_take hin.1 (n - 1)) hin.2
      have e3 := L.cnt_take l t (n - 1) (by omega)
      have hcap : (n : Int) - 1 ≤ (c : Int) := by omega
      have hL2 := hL.take (n - 1) (by omega)
      have ck := hcl (n - 1) (by omega)
      have hi1 : 0 ≤ (n : Int) - 1 := by omega
      have hi2 : 1 ≤ (n : Int) := by omega
      rcases hd : decide (L.g l (n - 1) < t) with _ | _
      · rw [hd, L.b1_f] at e3
        have f3 : (L.lb (l.take (n - 1)) t == L.lb l t) = true := by rw [beq_iff_eq]; omega
        clear e0 e2 e3 c8 l8 hl hin hcl
        go_wp2_with (first | (go_at_call 26; refine (lb_impl _ _ _ _ _ _ _ (by assumption)).mono ?_; rintro e w' ⟨rfl, rfl⟩) | (go_at_call 36; refine (lb_spec _ _ _ _ _ _ _ hL).mono ?_; rintro e w2 ⟨rfl, q⟩; have hL' := Lst.s hL q; have hL2' := Lst.s hL2 q; have bl' := bel_same bl q; have ck' := (q.cell ⟨b, off + (n - 1), none⟩).trans ck))
        go_ret
        exact ⟨rfl, by assumption⟩
      · rw [hd, L.b1_t] at e3
        have f3 : (L.lb (l.take (n - 1)) t == L.lb l t) = false := by rw [beq_eq_false_iff_ne]; omega
        have f4 : (L.lb (l.take (n - 1)) t == L.lb l t - 1) = true := by rw [beq_iff_eq]; omega
        clear e0 e2 e3 c8 l8 hl hin hcl
        go_wp2_with (first | (go_at_call 26; refine (lb_impl _ _ _ _ _ _ _ (by assumption)).mono ?_; rintro e w' ⟨rfl, rfl⟩) | (go_at_call 36; refine (lb_spec _ _ _ _ _ _ _ hL).mono ?_; rintro e w2 ⟨rfl, q⟩; have hL' := Lst.s hL q; have hL2' := Lst.s hL2 q; have bl' := bel_same bl q; have ck' := (q.cell ⟨b, off + (n - 1), none⟩).trans ck))
        go_ret
        exact ⟨rfl, by assumption⟩
  · have e0 := L.lb_out hin
    have f1 : L.lb l t < 0 := by omega
    clear e0 hin
    go_wp2_with (first | (go_at_call 26; refine (lb_impl _ _ _ _ _ _ _ (by assumption)).mono ?_; rintro e w' ⟨rfl, rfl⟩) | (go_at_call 36; refine (lb_spec _ _ _ _ _ _ _ (by assumption)).mono ?_; rintro e w' ⟨rfl, q⟩; have hL' := Lst.s (by assumption) q; have bl' := bel_same (by assumption) q))
    go_ret
    exact ⟨ret_bool (by simp), by assumption⟩

/-! ### THE ROW's STEP: WRITTEN OUT: LEAVE IT -/
set_option maxRecDepth 100000 in
theorem lifted (os : Os) (started : os.Started) (H : Type) (enc : TypeId × Value → H) :
    ReturnsInHanded {} Try.checked os 10 .any (Rows.fnLeapsBeforePartsSpec.pre6 enc Try.prog Try.f10 Rows.fnLeapsBeforePartsRow.domain false) (Rows.fnLeapsBeforePartsSpec.post enc Try.prog Try.f10 false true false false) := by
  refine returnsInHanded_of_change (C := Try.checked) own started (by kernel_rfl) Try.func10
    (ChangeSpec.witness6 (enc := enc) (C := Try.checked) false ⟨#[], #[.slice none 0 0], []⟩ 8 (by kernel_rfl) (by kernel_rfl) (by kernel_rfl) (by kernel_rfl)) ?_
  intro W base args ds gs before hval0 hW hcnd _
  have hval : ∀ (j : Nat) t v, Try.f10.params[j]? = some t → args[j]? = some v → Value.okWide Try.prog W .any base t v := hval0
  have hW' := hW
  obtain ⟨p, q, hA0, hV, rfl, hfz, hnd⟩ := hW
  have hA : DataW.TrodAll enc Try.prog W 0 (fun _ => true) true Try.f10.params.toList args.toList ds p := hA0
  rw [Try.params10] at hA hval
  obtain ⟨v0, vs0, d0, ds0, p0, q0, hargs, rfl, rfl, h0, r0⟩ := trodAll_cons hA
  obtain ⟨rfl, rfl, rfl⟩ := trodAll_nil r0
  obtain rfl : args = #[v0] := by cases args; simp_all
  obtain ⟨rfl, rfl⟩ := trodVars_none hV
  obtain ⟨a0, len0, cap0, rfl⟩ := okWide_slice Try.underlying22 (hval 0 22 v0 rfl rfl)
  have k0 := h0
  have lt0 : ∀ x ∈ p0, x.block < W.heap.size := by obtain ⟨m, hm⟩ := k0; exact DataW.trod_lt m _ _ _ hm
  obtain ⟨z0, w0⟩ : ∃ zs, IsRow .u8 W a0 len0 cap0 zs := by
    obtain ⟨fuel, hf⟩ := h0
    rcases open_ints Try.underlying22 Try.underlying5 (by kernel_rfl) hf with ⟨hcs, _⟩ | ⟨x, l, c, zs, hcs, _, hl, hm, hz, _, hcell, hwz⟩
    · simp [Value.cells] at hcs
      obtain ⟨rfl, rfl, rfl⟩ := hcs
      exact ⟨[], .inl ⟨rfl, rfl, rfl, rfl⟩⟩
    · simp [Value.cells] at hcs
      obtain ⟨rfl, rfl, rfl⟩ := hcs
      exact ⟨zs, .inr ⟨_, rfl, hl, hm, by simpa using hz, hcell, hwz⟩⟩
  clear hA0 hval0
  refine (walk a0 len0 cap0 z0 W w0).mono fun e W' ⟨he, bel⟩ => ?_
  subst he
  exact ⟨_, rfl, _, _, _, [], _, [], hW', trodAll_mk1 (shut_bool Try.underlying4 _), (trodAll_cons_mk (Below.trod laidOut (by kernel_rfl) (of_decide_eq_true (by kernel_rfl)) k0 bel lt0) trodAll_mk0), rfl, bel.frame _, fun h => by cases h⟩

theorem over : Rows.fnLeapsBeforePartsRow.holds Try.pinned (OpenSpec.ofChange Rows.fnLeapsBeforePartsSpec) :=
  OpenClaim.holds_of_wide 10 Try.f10 rfl rfl rfl rfl rfl rfl rfl ⟨rfl, rfl, rfl, rfl, rfl⟩ rfl rfl rfl rfl rfl (by kernel_rfl) Try.func10 (by kernel_rfl)
    (of_decide_eq_true (by kernel_rfl)) (by unfold Func.isWrapper; first | (rw [if_pos (by decide +kernel)]; kernel_rfl) | (rw [if_neg (by decide +kernel)]; exact ⟨rfl, rfl⟩))
    (fun os started H enc _ => lifted os started H enc)

/-- ████ THE STATEMENT ████ -/
theorem proved : Rows.FnLeapsBeforePartsSaid := over
#print axioms proved
end Go.Proofs.Ytoomkafhmennoab.fnLeapsBeforeParts
