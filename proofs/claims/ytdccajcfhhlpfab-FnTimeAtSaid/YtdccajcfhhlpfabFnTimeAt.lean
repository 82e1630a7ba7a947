/-
  PROVED: FnTimeAt: for every input the law returns true, and the input reads as it did. No condition.
  The frame is as the kit prints it (proof-skeleton.mjs); the walk is mine.
-/
import Derived.Test.YtdccajcfhhlpfabRows
import Derived.Test.YtdccajcfhhlpfabCal
import Derived.Test.YtdccajcfhhlpfabDraw
import Derived.WalkKit
import Derived.ProofKit
import Derived.OpenShut
import Derived.ShutString
import Derived.ChangeOld
import Derived.Below
namespace Go.Proofs.Ytdccajcfhhlpfab.fnTimeAt
open Go.ChangeShapes Go.WideShapes Go.ChangeAt Go.RowKit
open Go.ChangeMaps (open_string shut_string)
set_option linter.unusedVariables false

theorem own : ownKnob Try.prog.godebug = none := by kernel_rfl
theorem laidOut : laidOutB Try.prog = true := by kernel_rfl

/-- WHAT THE WALK IS TOLD OF A SLICE OF INTEGERS THAT CAME IN: it is nil; or it leads to a row of 'cap' cells, the numbers 'zs' (the first 'len' are its elements, the rest its spare room), each fitting its kind. -/
def IsRow (k : IntKind) (w : World) (a : Option Addr) (len cap : Nat) (zs : List Int) : Prop :=
  (a = none ∧ len = 0 ∧ cap = 0 ∧ zs = []) ∨
  ∃ x, a = some x ∧ len ≤ cap ∧ cap ≤ maxLen ∧ zs.length = cap ∧ (∀ i, i < zs.length → w.cell? (x.add i) = some (.int k (zs.getD i 0))) ∧ ∀ n ∈ zs, (Lit.int k n).wf = true

/-! ### STEP 1: THE WALK: the Go text returns true, AND WRITES NOTHING THAT WAS THERE: 'Below w.heap.size w w'' (Derived/Below.lean: '.refl', '.alloc', '.drew', '.setCell' at a new block, '.trans'). Open each 'IsRow' by 'rcases' AHEAD of 'go_enter'; part every test ahead of the walk. -/
theorem walk (a0 : Option Addr) (len0 cap0 : Nat) (z0 : List Int) (w : World) (w0 : IsRow .u8 w a0 len0 cap0 z0) :
    Calls Try.prog 7 #[.slice a0 len0 cap0] w fun e w' => e = .returned (.bool true) ∧ Below w.heap.size w w' := by
  by_cases hl : 1048576 < len0
  · have hl' : (1048576 : Int) < (len0 : Int) := by omega
    clear w0 hl
    go_enter Try.func7, Try.ntmps7
    go_wp2
    go_ret
    exact ⟨rfl, Below.refl _ _⟩
  have hl' : ¬ (1048576 : Int) < (len0 : Int) := by omega
  obtain ⟨hc, hcap⟩ := code_of w0 (by omega)
  clear w0 hl
  go_enter Try.func7, Try.ntmps7
  go_wp2_with fail
  refine (DrawShortWeek_any w a0 len0 cap0 hc hcap).mono ?_
  rintro e w1 ⟨t, rfl, t0, t1, bl⟩
  clear hc hcap
  by_cases a0 : 0 ≤ t ∧ t ≤ 3786479999
  · have e1 := M.shortOf_in t a0
    have e2 := M.weekOf_in t a0
    have e3 := M.secOf_in t a0
    have f1 : 0 ≤ M.shortOf t ∧ M.shortOf t < 1024 := by omega
    have f2 : 0 ≤ M.weekOf t ∧ M.weekOf t ≤ 7000 := by omega
    by_cases a1 : M.weekOf t ≤ 6000
    · have g1 := M.full_is (M.shortOf t) (M.weekOf t) (by omega)
      have h1 := M.timeAt_in (M.shortOf t) (M.secOf t) (M.weekOf t) (by omega)
      have f4 : (M.timeAt (M.shortOf t) (M.secOf t) (M.weekOf t) == t) = true := by rw [beq_iff_eq]; omega
      by_cases a2 : 0 < M.weekOf t - 1000
      · have g2 := M.full_is (M.shortOf t) (M.weekOf t - 1000) (by omega)
        have h2 := M.timeAt_in (M.shortOf t) (M.secOf t) (M.weekOf t - 1000) (by omega)
        have f5 : (M.timeAt (M.shortOf t) (M.secOf t) (M.weekOf t - 1000) == t) = true := by rw [beq_iff_eq]; omega
        clear e1 e2 e3 g1 g2 h1 h2
        go_wp2_with (first | (go_at_call 19; refine (shortOf_impl _ _).mono ?_; rintro e w' ⟨rfl, rfl⟩) | (go_at_call 20; refine (shortOf_spec _ _).mono ?_; rintro e w' ⟨rfl, rfl⟩) | (go_at_call 21; refine (weekOf_impl _ _).mono ?_; rintro e w' ⟨rfl, rfl⟩) | (go_at_call 16; refine (secOf_impl _ _).mono ?_; rintro e w' ⟨rfl, rfl⟩) | (go_at_call 25; refine (timeAt_impl _ _ _ _).mono ?_; rintro e w' ⟨rfl, rfl⟩))
        all_goals
          go_ret
          exact ⟨ret_bool (by first | rfl | omega), bl⟩
      · have g2 := M.full_is (M.shortOf t) 0 (by omega)
        have h2 := M.timeAt_in (M.shortOf t) (M.secOf t) 0 (by omega)
        have f5 : (M.timeAt (M.shortOf t) (M.secOf t) 0 == t) = true := by rw [beq_iff_eq]; omega
        clear e1 e2 e3 g1 g2 h1 h2
        go_wp2_with (first | (go_at_call 19; refine (shortOf_impl _ _).mono ?_; rintro e w' ⟨rfl, rfl⟩) | (go_at_call 20; refine (shortOf_spec _ _).mono ?_; rintro e w' ⟨rfl, rfl⟩) | (go_at_call 21; refine (weekOf_impl _ _).mono ?_; rintro e w' ⟨rfl, rfl⟩) | (go_at_call 16; refine (secOf_impl _ _).mono ?_; rintro e w' ⟨rfl, rfl⟩) | (go_at_call 25; refine (timeAt_impl _ _ _ _).mono ?_; rintro e w' ⟨rfl, rfl⟩))
        all_goals
          go_ret
          exact ⟨ret_bool (by first | rfl | omega), bl⟩
    · clear e1 e2 e3
      go_wp2_with (first | (go_at_call 19; refine (shortOf_impl _ _).mono ?_; rintro e w' ⟨rfl, rfl⟩) | (go_at_call 20; refine (shortOf_spec _ _).mono ?_; rintro e w' ⟨rfl, rfl⟩) | (go_at_call 21; refine (weekOf_impl _ _).mono ?_; rintro e w' ⟨rfl, rfl⟩) | (go_at_call 16; refine (secOf_impl _ _).mono ?_; rintro e w' ⟨rfl, rfl⟩) | (go_at_call 25; refine (timeAt_impl _ _ _ _).mono ?_; rintro e w' ⟨rfl, rfl⟩))
      go_ret
      exact ⟨ret_bool (by simp), bl⟩
  · have e1 := M.shortOf_out t a0
    have f1 : M.shortOf t < 0 := by omega
    clear e1
    go_wp2_with (first | (go_at_call 19; refine (shortOf_impl _ _).mono ?_; rintro e w' ⟨rfl, rfl⟩) | (go_at_call 20; refine (shortOf_spec _ _).mono ?_; rintro e w' ⟨rfl, rfl⟩) | (go_at_call 21; refine (weekOf_impl _ _).mono ?_; rintro e w' ⟨rfl, rfl⟩) | (go_at_call 16; refine (secOf_impl _ _).mono ?_; rintro e w' ⟨rfl, rfl⟩) | (go_at_call 25; refine (timeAt_impl _ _ _ _).mono ?_; rintro e w' ⟨rfl, rfl⟩))
    go_ret
    exact ⟨ret_bool (by simp), bl⟩

/-! ### THE ROW's STEP: WRITTEN OUT: LEAVE IT -/
set_option maxRecDepth 100000 in
theorem lifted (os : Os) (started : os.Started) (H : Type) (enc : TypeId × Value → H) :
    ReturnsInHanded {} Try.checked os 7 .any (Rows.fnTimeAtSpec.pre6 enc Try.prog Try.f7 Rows.fnTimeAtRow.domain false) (Rows.fnTimeAtSpec.post enc Try.prog Try.f7 false true false false) := by
  refine returnsInHanded_of_change (C := Try.checked) own started (by kernel_rfl) Try.func7
    (ChangeSpec.witness6 (enc := enc) (C := Try.checked) false ⟨#[], #[.slice none 0 0], []⟩ 8 (by kernel_rfl) (by kernel_rfl) (by kernel_rfl) (by kernel_rfl)) ?_
  intro W base args ds gs before hval0 hW hcnd _
  have hval : ∀ (j : Nat) t v, Try.f7.params[j]? = some t → args[j]? = some v → Value.okWide Try.prog W .any base t v := hval0
  have hW' := hW
  obtain ⟨p, q, hA0, hV, rfl, hfz, hnd⟩ := hW
  have hA : DataW.TrodAll enc Try.prog W 0 (fun _ => true) true Try.f7.params.toList args.toList ds p := hA0
  rw [Try.params7] at hA hval
  obtain ⟨v0, vs0, d0, ds0, p0, q0, hargs, rfl, rfl, h0, r0⟩ := trodAll_cons hA
  obtain ⟨rfl, rfl, rfl⟩ := trodAll_nil r0
  obtain rfl : args = #[v0] := by cases args; simp_all
  obtain ⟨rfl, rfl⟩ := trodVars_none hV
  obtain ⟨a0, len0, cap0, rfl⟩ := okWide_slice Try.underlying22 (hval 0 22 v0 rfl rfl)
  have k0 := h0
  have lt0 : ∀ x ∈ p0, x.block < W.heap.size := by obtain ⟨m, hm⟩ := k0; exact DataW.trod_lt m _ _ _ hm
  obtain ⟨z0, w0⟩ : ∃ zs, IsRow .u8 W a0 len0 cap0 zs := by
    obtain ⟨fuel, hf⟩ := h0
    rcases open_ints Try.underlying22 Try.underlying5 (by kernel_rfl) hf with ⟨hcs, _⟩ | ⟨x, l, c, zs, hcs, _, hl, hm, hz, _, hcell, hwz⟩
    · simp [Value.cells] at hcs
      obtain ⟨rfl, rfl, rfl⟩ := hcs
      exact ⟨[], .inl ⟨rfl, rfl, rfl, rfl⟩⟩
    · simp [Value.cells] at hcs
      obtain ⟨rfl, rfl, rfl⟩ := hcs
      exact ⟨zs, .inr ⟨_, rfl, hl, hm, by simpa using hz, hcell, hwz⟩⟩
  clear hA0 hval0
  refine (walk a0 len0 cap0 z0 W w0).mono fun e W' ⟨he, bel⟩ => ?_
  subst he
  exact ⟨_, rfl, _, _, _, [], _, [], hW', trodAll_mk1 (shut_bool Try.underlying4 _), (trodAll_cons_mk (Below.trod laidOut (by kernel_rfl) (of_decide_eq_true (by kernel_rfl)) k0 bel lt0) trodAll_mk0), rfl, bel.frame _, fun h => by cases h⟩

theorem over : Rows.fnTimeAtRow.holds Try.pinned (OpenSpec.ofChange Rows.fnTimeAtSpec) :=
  OpenClaim.holds_of_wide 7 Try.f7 rfl rfl rfl rfl rfl rfl rfl ⟨rfl, rfl, rfl, rfl, rfl⟩ rfl rfl rfl rfl rfl (by kernel_rfl) Try.func7 (by kernel_rfl)
    (of_decide_eq_true (by kernel_rfl)) (by unfold Func.isWrapper; first | (rw [if_pos (by decide +kernel)]; kernel_rfl) | (rw [if_neg (by decide +kernel)]; exact ⟨rfl, rfl⟩))
    (fun os started H enc _ => lifted os started H enc)

/-- ████ THE STATEMENT ████ -/
theorem proved : Rows.FnTimeAtSaid := over
#print axioms proved
end Go.Proofs.Ytdccajcfhhlpfab.fnTimeAt
