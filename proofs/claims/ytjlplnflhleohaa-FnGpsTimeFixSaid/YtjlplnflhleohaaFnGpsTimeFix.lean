/-
  PROVED: FnGpsTimeFix: for every input the law returns true, and the input reads as it did. No condition.
  The frame is as the kit prints it (proof-skeleton.mjs); the walk is mine.
-/
import Derived.Test.YtjlplnflhleohaaRows
import Derived.Test.YtjlplnflhleohaaFix
import Derived.Test.YtjlplnflhleohaaCopyFx
import Derived.Test.YtjlplnflhleohaaDrawF
import Derived.Test.YtjlplnflhleohaaJoin
import Derived.WalkKit
import Derived.ProofKit
import Derived.OpenShut
import Derived.ShutString
import Derived.ChangeOld
import Derived.Below
namespace Go.Proofs.Ytjlplnflhleohaa.fnGpsTimeFix
open Go.ChangeShapes Go.WideShapes Go.ChangeAt Go.RowKit
open Go.ChangeMaps (open_string shut_string)
set_option linter.unusedVariables false

theorem own : ownKnob Try.prog.godebug = none := by kernel_rfl
theorem laidOut : laidOutB Try.prog = true := by kernel_rfl

/-- WHAT THE WALK IS TOLD OF A SLICE OF INTEGERS THAT CAME IN: it is nil; or it leads to a row of 'cap' cells, the numbers 'zs' (the first 'len' are its elements, the rest its spare room), each fitting its kind. -/
def IsRow (k : IntKind) (w : World) (a : Option Addr) (len cap : Nat) (zs : List Int) : Prop :=
  (a = none ∧ len = 0 ∧ cap = 0 ∧ zs = []) ∨
  ∃ x, a = some x ∧ len ≤ cap ∧ cap ≤ maxLen ∧ zs.length = cap ∧ (∀ i, i < zs.length → w.cell? (x.add i) = some (.int k (zs.getD i 0))) ∧ ∀ n ∈ zs, (Lit.int k n).wf = true

/-! ### STEP 1: THE WALK: the Go text returns true, AND WRITES NOTHING THAT WAS THERE: 'Below w.heap.size w w'' (Derived/Below.lean: '.refl', '.alloc', '.drew', '.setCell' at a new block, '.trans'). Open each 'IsRow' by 'rcases' AHEAD of 'go_enter'; part every test ahead of the walk. -/
set_option maxHeartbeats 4000000 in
theorem walk (a0 : Option Addr) (len0 cap0 : Nat) (z0 : List Int) (w : World) (w0 : IsRow .u8 w a0 len0 cap0 z0) :
    Calls Try.prog 7 #[.slice a0 len0 cap0] w fun e w' => e = .returned (.bool true) ∧ Below w.heap.size w w' := by
  by_cases hl : 1048576 < len0
  · have hl' : (1048576 : Int) < (len0 : Int) := by omega
    clear w0 hl
    go_enter Try.func7, Try.ntmps7
    go_wp2
    go_ret
    exact ⟨rfl, Below.refl _ _⟩
  have hl' : ¬ (1048576 : Int) < (len0 : Int) := by omega
  obtain ⟨hc, hcap⟩ := code_of w0 (by omega)
  clear w0 hl
  go_enter Try.func7, Try.ntmps7
  go_wp2_with fail
  refine (DrawGpsTime_any w a0 len0 cap0 hc hcap).mono ?_
  rintro e w1 ⟨d, s, rfl, d0, s0, bl⟩
  clear hc hcap
  by_cases a0 : (5 ≤ d ∧ d ≤ 43829) ∧ 0 ≤ s ∧ s ≤ 86399
  · obtain ⟨hk, hd, hs⟩ := X.f_gps a0
    have e1 := M.gps_in d s a0
    have f1 : 0 ≤ M.gps d s := by omega
    have C := fun w' => fx_impl (M.gps d s) 4 w'
    rw [hs] at C
    have HC := Lib.hid C
    have D := fun w' => dayOf_impl (X.fy (M.gps d s) 4) (X.fm (M.gps d s) 4) (X.fd (M.gps d s) 4) w'
    rw [hd] at D
    have HD := Lib.hid D
    generalize X.fy (M.gps d s) 4 = Y at *
    generalize X.fm (M.gps d s) 4 = Mo at *
    generalize X.fd (M.gps d s) 4 = Da at *
    generalize X.fn (M.gps d s) 4 = Nn at *
    clear e1 hk hs C D
    go_wp2_with (first | (go_at_call 22; refine (gps_impl _ _ _).mono ?_; rintro e w' ⟨rfl, rfl⟩) | (go_at_call 23; refine (gps_spec _ _ _).mono ?_; rintro e w' ⟨rfl, rfl⟩))
    refine (HC.out _).mono ?_
    rintro e w7 ⟨rfl, hb⟩
    have g7 := bl.trans (hb.mono bl.size)
    have k8 := C5.new w7 Y Mo Da s Nn 26
    have g8 := g7.alloc g7.size (.cells #[.int .i64 Y, .int .i64 Mo, .int .i64 Da, .int .i64 s, .int .i64 Nn] 26)
    clear hb bl g7
    obtain ⟨q0, q1, q2, q3, q4, ql⟩ := id k8
    go_wp2_with fail
    generalize w7.alloc (.cells #[.int .i64 Y, .int .i64 Mo, .int .i64 Da, .int .i64 s, .int .i64 Nn] 26) = W2 at k8 g8 q0 q1 q2 q3 q4 ql ⊢
    generalize w7.heap.size = D2 at k8 q0 q1 q2 q3 q4 ql ⊢
    refine (HD.out _).mono ?_
    rintro e w9 ⟨rfl, hb⟩
    have g9 := g8.trans (hb.mono g8.size)
    obtain ⟨p0, p1, p2, p3, p4, pl⟩ := k8.b hb
    clear hb q0 q1 q2 q3 q4 ql g8 k8
    go_wp2
    go_ret
    exact ⟨ret_bool (by simp), g9⟩
  · have e1 := M.gps_out d s a0
    have f1 : M.gps d s < 0 := by omega
    clear e1
    go_wp2_with (first | (go_at_call 22; refine (gps_impl _ _ _).mono ?_; rintro e w' ⟨rfl, rfl⟩) | (go_at_call 23; refine (gps_spec _ _ _).mono ?_; rintro e w' ⟨rfl, rfl⟩))
    go_ret
    exact ⟨ret_bool (by simp), bl⟩

/-! ### THE ROW's STEP: WRITTEN OUT: LEAVE IT -/
set_option maxRecDepth 100000 in
theorem lifted (os : Os) (started : os.Started) (H : Type) (enc : TypeId × Value → H) :
    ReturnsInHanded {} Try.checked os 7 .any (Rows.fnGpsTimeFixSpec.pre6 enc Try.prog Try.f7 Rows.fnGpsTimeFixRow.domain false) (Rows.fnGpsTimeFixSpec.post enc Try.prog Try.f7 false true false false) := by
  refine returnsInHanded_of_change (C := Try.checked) own started (by kernel_rfl) Try.func7
    (ChangeSpec.witness6 (enc := enc) (C := Try.checked) false ⟨#[], #[.slice none 0 0], []⟩ 8 (by kernel_rfl) (by kernel_rfl) (by kernel_rfl) (by kernel_rfl)) ?_
  intro W base args ds gs before hval0 hW hcnd _
  have hval : ∀ (j : Nat) t v, Try.f7.params[j]? = some t → args[j]? = some v → Value.okWide Try.prog W .any base t v := hval0
  have hW' := hW
  obtain ⟨p, q, hA0, hV, rfl, hfz, hnd⟩ := hW
  have hA : DataW.TrodAll enc Try.prog W 0 (fun _ => true) true Try.f7.params.toList args.toList ds p := hA0
  rw [Try.params7] at hA hval
  obtain ⟨v0, vs0, d0, ds0, p0, q0, hargs, rfl, rfl, h0, r0⟩ := trodAll_cons hA
  obtain ⟨rfl, rfl, rfl⟩ := trodAll_nil r0
  obtain rfl : args = #[v0] := by cases args; simp_all
  obtain ⟨rfl, rfl⟩ := trodVars_none hV
  obtain ⟨a0, len0, cap0, rfl⟩ := okWide_slice Try.underlying22 (hval 0 22 v0 rfl rfl)
  have k0 := h0
  have lt0 : ∀ x ∈ p0, x.block < W.heap.size := by obtain ⟨m, hm⟩ := k0; exact DataW.trod_lt m _ _ _ hm
  obtain ⟨z0, w0⟩ : ∃ zs, IsRow .u8 W a0 len0 cap0 zs := by
    obtain ⟨fuel, hf⟩ := h0
    rcases open_ints Try.underlying22 Try.underlying5 (by kernel_rfl) hf with ⟨hcs, _⟩ | ⟨x, l, c, zs, hcs, _, hl, hm, hz, _, hcell, hwz⟩
    · simp [Value.cells] at hcs
      obtain ⟨rfl, rfl, rfl⟩ := hcs
      exact ⟨[], .inl ⟨rfl, rfl, rfl, rfl⟩⟩
    · simp [Value.cells] at hcs
      obtain ⟨rfl, rfl, rfl⟩ := hcs
      exact ⟨zs, .inr ⟨_, rfl, hl, hm, by simpa using hz, hcell, hwz⟩⟩
  clear hA0 hval0
  refine (walk a0 len0 cap0 z0 W w0).mono fun e W' ⟨he, bel⟩ => ?_
  subst he
  exact ⟨_, rfl, _, _, _, [], _, [], hW', trodAll_mk1 (shut_bool Try.underlying4 _), (trodAll_cons_mk (Below.trod laidOut (by kernel_rfl) (of_decide_eq_true (by kernel_rfl)) k0 bel lt0) trodAll_mk0), rfl, bel.frame _, fun h => by cases h⟩

theorem closed : joinedFacts Try.pinned.checked.prog 7 Try.f7 Rows.fnGpsTimeFixSpec Rows.fnGpsTimeFixRow = true := by
  unfold joinedFacts
  rw [mayJ, liftsJ, makeJ]
  kernel_rfl

theorem over : Rows.fnGpsTimeFixRow.holds Try.pinned (OpenSpec.ofChange Rows.fnGpsTimeFixSpec) :=
  OpenClaim.holds_of_wide 7 Try.f7 rfl rfl rfl rfl rfl rfl rfl ⟨rfl, rfl, rfl, rfl, rfl⟩ rfl rfl rfl rfl rfl (by kernel_rfl) Try.func7 closed
    (of_decide_eq_true (by kernel_rfl)) (by unfold Func.isWrapper; first | (rw [if_pos (by decide +kernel)]; kernel_rfl) | (rw [if_neg (by decide +kernel)]; exact ⟨rfl, rfl⟩))
    (fun os started H enc _ => lifted os started H enc)

/-- ████ THE STATEMENT ████ -/
theorem proved : Rows.FnGpsTimeFixSaid := over
#print axioms proved
end Go.Proofs.Ytjlplnflhleohaa.fnGpsTimeFix
