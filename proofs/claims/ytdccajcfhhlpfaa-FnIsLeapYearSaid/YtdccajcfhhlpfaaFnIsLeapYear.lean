/-
  PROVED: FnIsLeapYear: for every input the law returns true, and the input reads as it did. No condition.
  The frame is as the kit prints it (proof-skeleton.mjs); the walk is mine.
-/
import Derived.Test.YtdccajcfhhlpfaaRows
import Derived.Test.YtdccajcfhhlpfaaCalM
import Derived.Test.YtdccajcfhhlpfaaDraw
import Derived.WalkKit
import Derived.ProofKit
import Derived.OpenShut
import Derived.ShutString
import Derived.ChangeOld
import Derived.Below
namespace Go.Proofs.Ytdccajcfhhlpfaa.fnIsLeapYear
open Go.ChangeShapes Go.WideShapes Go.ChangeAt Go.RowKit
open Go.ChangeMaps (open_string shut_string)
set_option linter.unusedVariables false

theorem own : ownKnob Try.prog.godebug = none := by kernel_rfl
theorem laidOut : laidOutB Try.prog = true := by kernel_rfl

/-- WHAT THE WALK IS TOLD OF A SLICE OF INTEGERS THAT CAME IN: it is nil; or it leads to a row of 'cap' cells, the numbers 'zs' (the first 'len' are its elements, the rest its spare room), each fitting its kind. -/
def IsRow (k : IntKind) (w : World) (a : Option Addr) (len cap : Nat) (zs : List Int) : Prop :=
  (a = none ∧ len = 0 ∧ cap = 0 ∧ zs = []) ∨
  ∃ x, a = some x ∧ len ≤ cap ∧ cap ≤ maxLen ∧ zs.length = cap ∧ (∀ i, i < zs.length → w.cell? (x.add i) = some (.int k (zs.getD i 0))) ∧ ∀ n ∈ zs, (Lit.int k n).wf = true

/-! ### STEP 1: THE WALK: the Go text returns true, AND WRITES NOTHING THAT WAS THERE: 'Below w.heap.size w w'' (Derived/Below.lean: '.refl', '.alloc', '.drew', '.setCell' at a new block, '.trans'). Open each 'IsRow' by 'rcases' AHEAD of 'go_enter'; part every test ahead of the walk. -/
theorem walk (a0 : Option Addr) (len0 cap0 : Nat) (z0 : List Int) (w : World) (w0 : IsRow .u8 w a0 len0 cap0 z0) :
    Calls Try.prog 3 #[.slice a0 len0 cap0] w fun e w' => e = .returned (.bool true) ∧ Below w.heap.size w w' := by
  by_cases hl : 1048576 < len0
  · have hl' : (1048576 : Int) < (len0 : Int) := by omega
    clear w0 hl
    go_enter Try.func3, Try.ntmps3
    go_wp2
    go_ret
    exact ⟨rfl, Below.refl _ _⟩
  have hl' : ¬ (1048576 : Int) < (len0 : Int) := by omega
  obtain ⟨hc, hcap⟩ := code_of w0 (by omega)
  clear w0 hl
  go_enter Try.func3, Try.ntmps3
  go_wp2_with fail
  refine (DrawIsLeapYear_any w a0 len0 cap0 hc hcap).mono ?_
  rintro e w1 ⟨y, rfl, t0, t1, bl⟩
  clear hc hcap
  by_cases a1 : y < 1980
  · go_wp2_with (first | (go_at_call 16; refine (isLeap_impl _ _).mono ?_; rintro e w' ⟨rfl, rfl⟩) | (go_at_call 17; refine (isLeap_spec _ _).mono ?_; rintro e w' ⟨rfl, rfl⟩))
    go_ret
    exact ⟨ret_bool (by simp), bl⟩
  by_cases a2 : 2099 < y
  · go_wp2_with (first | (go_at_call 16; refine (isLeap_impl _ _).mono ?_; rintro e w' ⟨rfl, rfl⟩) | (go_at_call 17; refine (isLeap_spec _ _).mono ?_; rintro e w' ⟨rfl, rfl⟩))
    go_ret
    exact ⟨ret_bool (by simp), bl⟩
  have hy : 1980 ≤ y ∧ y ≤ 2099 := by omega
  have hl := M.lp_eq y
  have hd : ∀ k : Int, 1 ≤ k ∧ k ≤ 12 → M.mdays y k = M.dim y k := fun k hk => by unfold M.mdays; rw [if_pos ⟨hy, hk⟩]
  have HD := Lib.hid hd
  have HL := Lib.hid hl
  clear hd hl
  go_wp2_with (first | (go_at_call 16; refine (isLeap_impl _ _).mono ?_; rintro e w' ⟨rfl, rfl⟩) | (go_at_call 17; refine (isLeap_spec _ _).mono ?_; rintro e w' ⟨rfl, rfl⟩))
  go_loop [5, 6] (fun n t => ∃ k : Int, 1 ≤ k ∧ k ≤ 13 ∧ t = .int .i64 k ∧ n = .int .i64 (M.cum y k)) (fun _ t => (14 - intOf t).toNat)
  case atStart => exact ⟨1, by omega, by omega, rfl, by simp [M.cum]⟩
  case round =>
    obtain ⟨k, hk0, hk1, rfl, rfl⟩ := hrel
    have hcb := M.cum_bd y k (by omega)
    have hlb := M.lp_bd y
    by_cases hlt : k ≤ 12
    · have hs := M.cum_succ y k ⟨hk0, hlt⟩
      rw [← HD.out k ⟨hk0, hlt⟩] at hs
      have hdb := M.dim_bd y k
      rw [← HD.out k ⟨hk0, hlt⟩] at hdb
      have HS := Lib.hid hs
      clear hs
      go_wp2_with (first | (go_at_call 18; refine (mdays_impl _ _ _).mono ?_; rintro e w' ⟨rfl, rfl⟩))
      go_round
      case rel => exact ⟨k + 1, by omega, by omega, rfl, by rw [HS.out] <;> go_num⟩
      case measure => simp [intOf] <;> omega
    · have e13 : k = 13 := by omega
      subst e13
      have hc := M.cum_last y
      rcases HL.out with ⟨q1, q2⟩ | ⟨q1, q2⟩
      · have f1 : (M.cum y 13 == 366) = true := by rw [beq_iff_eq]; omega
        have f2 : M.isLeap y = true := by simp [M.isLeap] <;> omega
        clear hc q1 q2 hcb hlt hlb
        go_wp2
        go_ret
        exact ⟨rfl, bl⟩
      · have f1 : (M.cum y 13 == 366) = false := by rw [beq_eq_false_iff_ne]; omega
        have f3 : (M.cum y 13 == 365) = true := by rw [beq_iff_eq]; omega
        have f2 : M.isLeap y = false := by simp [M.isLeap] <;> omega
        clear hc q1 q2 hcb hlt hlb
        go_wp2
        go_ret
        exact ⟨rfl, bl⟩

/-! ### THE ROW's STEP: WRITTEN OUT: LEAVE IT -/
set_option maxRecDepth 100000 in
theorem lifted (os : Os) (started : os.Started) (H : Type) (enc : TypeId × Value → H) :
    ReturnsInHanded {} Try.checked os 3 .any (Rows.fnIsLeapYearSpec.pre6 enc Try.prog Try.f3 Rows.fnIsLeapYearRow.domain false) (Rows.fnIsLeapYearSpec.post enc Try.prog Try.f3 false true false false) := by
  refine returnsInHanded_of_change (C := Try.checked) own started (by kernel_rfl) Try.func3
    (ChangeSpec.witness6 (enc := enc) (C := Try.checked) false ⟨#[], #[.slice none 0 0], []⟩ 8 (by kernel_rfl) (by kernel_rfl) (by kernel_rfl) (by kernel_rfl)) ?_
  intro W base args ds gs before hval0 hW hcnd _
  have hval : ∀ (j : Nat) t v, Try.f3.params[j]? = some t → args[j]? = some v → Value.okWide Try.prog W .any base t v := hval0
  have hW' := hW
  obtain ⟨p, q, hA0, hV, rfl, hfz, hnd⟩ := hW
  have hA : DataW.TrodAll enc Try.prog W 0 (fun _ => true) true Try.f3.params.toList args.toList ds p := hA0
  rw [Try.params3] at hA hval
  obtain ⟨v0, vs0, d0, ds0, p0, q0, hargs, rfl, rfl, h0, r0⟩ := trodAll_cons hA
  obtain ⟨rfl, rfl, rfl⟩ := trodAll_nil r0
  obtain rfl : args = #[v0] := by cases args; simp_all
  obtain ⟨rfl, rfl⟩ := trodVars_none hV
  obtain ⟨a0, len0, cap0, rfl⟩ := okWide_slice Try.underlying22 (hval 0 22 v0 rfl rfl)
  have k0 := h0
  have lt0 : ∀ x ∈ p0, x.block < W.heap.size := by obtain ⟨m, hm⟩ := k0; exact DataW.trod_lt m _ _ _ hm
  obtain ⟨z0, w0⟩ : ∃ zs, IsRow .u8 W a0 len0 cap0 zs := by
    obtain ⟨fuel, hf⟩ := h0
    rcases open_ints Try.underlying22 Try.underlying5 (by kernel_rfl) hf with ⟨hcs, _⟩ | ⟨x, l, c, zs, hcs, _, hl, hm, hz, _, hcell, hwz⟩
    · simp [Value.cells] at hcs
      obtain ⟨rfl, rfl, rfl⟩ := hcs
      exact ⟨[], .inl ⟨rfl, rfl, rfl, rfl⟩⟩
    · simp [Value.cells] at hcs
      obtain ⟨rfl, rfl, rfl⟩ := hcs
      exact ⟨zs, .inr ⟨_, rfl, hl, hm, by simpa using hz, hcell, hwz⟩⟩
  clear hA0 hval0
  refine (walk a0 len0 cap0 z0 W w0).mono fun e W' ⟨he, bel⟩ => ?_
  subst he
  exact ⟨_, rfl, _, _, _, [], _, [], hW', trodAll_mk1 (shut_bool Try.underlying4 _), (trodAll_cons_mk (Below.trod laidOut (by kernel_rfl) (of_decide_eq_true (by kernel_rfl)) k0 bel lt0) trodAll_mk0), rfl, bel.frame _, fun h => by cases h⟩

theorem over : Rows.fnIsLeapYearRow.holds Try.pinned (OpenSpec.ofChange Rows.fnIsLeapYearSpec) :=
  OpenClaim.holds_of_wide 3 Try.f3 rfl rfl rfl rfl rfl rfl rfl ⟨rfl, rfl, rfl, rfl, rfl⟩ rfl rfl rfl rfl rfl (by kernel_rfl) Try.func3 (by kernel_rfl)
    (of_decide_eq_true (by kernel_rfl)) (by unfold Func.isWrapper; first | (rw [if_pos (by decide +kernel)]; kernel_rfl) | (rw [if_neg (by decide +kernel)]; exact ⟨rfl, rfl⟩))
    (fun os started H enc _ => lifted os started H enc)

/-- ████ THE STATEMENT ████ -/
theorem proved : Rows.FnIsLeapYearSaid := over
#print axioms proved
end Go.Proofs.Ytdccajcfhhlpfaa.fnIsLeapYear
