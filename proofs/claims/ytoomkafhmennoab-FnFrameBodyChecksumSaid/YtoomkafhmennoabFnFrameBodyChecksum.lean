/-
  PROVED: FnFrameBodyChecksum: for every input the law returns true, and the input reads as it did. No condition.
  The frame is as the kit prints it (proof-skeleton.mjs); the walk is mine.
-/
import Derived.Test.YtoomkafhmennoabRows
import Derived.Test.YtoomkafhmennoabDrawT
import Derived.Test.YtoomkafhmennoabSMathB
import Derived.Test.YtoomkafhmennoabRead
import Derived.WalkKit
import Derived.ProofKit
import Derived.OpenShut
import Derived.ShutString
import Derived.ChangeOld
import Derived.Below
namespace Go.Proofs.Ytoomkafhmennoab.fnFrameBodyChecksum
open Go.ChangeShapes Go.WideShapes Go.ChangeAt Go.RowKit
open Go.ChangeMaps (open_string shut_string)
set_option linter.unusedVariables false

theorem own : ownKnob Try.prog.godebug = none := by kernel_rfl
theorem laidOut : laidOutB Try.prog = true := by kernel_rfl

/-- WHAT THE WALK IS TOLD OF A SLICE OF INTEGERS THAT CAME IN: it is nil; or it leads to a row of 'cap' cells, the numbers 'zs' (the first 'len' are its elements, the rest its spare room), each fitting its kind. -/
def IsRow (k : IntKind) (w : World) (a : Option Addr) (len cap : Nat) (zs : List Int) : Prop :=
  (a = none ∧ len = 0 ∧ cap = 0 ∧ zs = []) ∨
  ∃ x, a = some x ∧ len ≤ cap ∧ cap ≤ maxLen ∧ zs.length = cap ∧ (∀ i, i < zs.length → w.cell? (x.add i) = some (.int k (zs.getD i 0))) ∧ ∀ n ∈ zs, (Lit.int k n).wf = true

/-! ### STEP 1: THE WALK: the Go text returns true, AND WRITES NOTHING THAT WAS THERE: 'Below w.heap.size w w'' (Derived/Below.lean: '.refl', '.alloc', '.drew', '.setCell' at a new block, '.trans'). Open each 'IsRow' by 'rcases' AHEAD of 'go_enter'; part every test ahead of the walk. -/
theorem bel_b {a w w' : World} (h : Below a.heap.size a w) (hb : Below w.heap.size w w') : Below a.heap.size a w' := h.trans (hb.mono h.size)
/-- The loop's three heads. -/
def St (J X : Nat) (n i : Value) : Prop := (n = .int .i64 0 ∧ i = .int .i64 ((J : Int) + 1)) ∨ (n = .int .i64 ((X / 16 : Nat) : Int) ∧ i = .int .i64 ((J : Int) + 2)) ∨ (n = .int .i64 (X : Int) ∧ i = .int .i64 ((J : Int) + 3))
theorem vi {a b : Int} (h : a = b) : Value.int .i64 a = .int .i64 b := by rw [h]
/-- A digit's number. -/
theorem hexd_val (n : Nat) (h : n < 16) : (((S.hexd n).toNat : Int) < 65 ∧ ((S.hexd n).toNat : Int) - 48 = n) ∨ ((65 : Int) ≤ ((S.hexd n).toNat : Int) ∧ ((S.hexd n).toNat : Int) ≤ 70 ∧ ((S.hexd n).toNat : Int) - 65 + 10 = n) := by
  rcases S.hexd_rng n h with ⟨_, _, e⟩ | ⟨_, _, e, _⟩
  · left; omega
  · right; omega
theorem hexd_two (n : Nat) (h : n < 16) : (∃ v : Nat, (S.hexd n).toNat = v ∧ v < 65 ∧ 48 ≤ v ∧ v = n + 48) ∨ (∃ v : Nat, (S.hexd n).toNat = v ∧ 65 ≤ v ∧ v ≤ 70 ∧ v = n + 55) := by
  rcases S.hexd_rng n h with ⟨_, _, e⟩ | ⟨_, _, e, _⟩
  · left; exact ⟨_, rfl, by omega, by omega, by omega⟩
  · right; exact ⟨_, rfl, by omega, by omega, by omega⟩
set_option maxHeartbeats 4000000 in
theorem walk (a0 : Option Addr) (len0 cap0 : Nat) (z0 : List Int) (w : World) (w0 : IsRow .u8 w a0 len0 cap0 z0) :
    Calls Try.prog 8 #[.slice a0 len0 cap0] w fun e w' => e = .returned (.bool true) ∧ Below w.heap.size w w' := by
  by_cases hl : 1048576 < len0
  · have hl' : (1048576 : Int) < (len0 : Int) := by omega
    clear w0 hl
    go_enter Try.func8, Try.ntmps8
    go_wp2
    go_ret
    exact ⟨rfl, Below.refl _ _⟩
  have hl' : ¬ (1048576 : Int) < (len0 : Int) := by omega
  obtain ⟨hc, hcap⟩ := code_of w0 (by omega)
  clear w0 hl
  go_enter Try.func8, Try.ntmps8
  go_wp2_with fail
  refine (DrawFrameBody_any w a0 len0 cap0 hc hcap).mono ?_
  rintro e w1 ⟨s, rfl, hs, bl⟩
  clear hc hcap
  have hm : s.size ≤ maxLen := by unfold maxLen; omega
  go_wp2_with fail
  refine (frameB_impl _ hm _).mono ?_
  rintro e w2 ⟨rfl, hb2⟩
  have bl2 := bel_b bl hb2
  clear hb2
  rcases hb : S.body s with _ | _
  · have e0 : (S.frame s).size = 0 := by rw [S.frame_no hb]; rfl
    clear hb
    go_wp2_with (go_at_call 29; refine (frameB_spec _ hm _).mono ?_; rintro e w' ⟨rfl, rfl⟩)
    go_ret
    exact ⟨ret_bool (by simp), bl2⟩
  · have hz := S.frame_size hb
    have h5 := (S.body_of hb).1
    have x1 := S.xs_ok hb
    have d1 := S.frame_d1 hb
    have d2 := S.frame_d2 hb
    have st := S.frame_star hb
    have e0 := S.csum_yes hb
    have C := fun W => csum_impl s hm W
    rw [e0] at C
    have HC := Lib.hid C
    obtain ⟨J, hJ⟩ : ∃ J, J = s.size + 1 := ⟨_, rfl⟩
    have t0 := S.at_get (S.frame s) J
    have t1 := S.at_get (S.frame s) (J + 1)
    have t2 := S.at_get (S.frame s) (J + 2)
    rw [show J = s.size + 1 from hJ, st] at t0
    rw [show J + 1 = s.size + 2 from by omega, d1] at t1
    rw [show J + 2 = s.size + 3 from by omega, d2] at t2
    rw [show s.size + 1 = J from hJ.symm] at t0
    rw [show s.size + 2 = J + 1 from by omega] at t1
    rw [show s.size + 3 = J + 2 from by omega] at t2
    have hz3 : (S.frame s).size = J + 3 := by omega
    have hJ1 : J ≤ 41 := by omega
    have hJ2 : ¬ ((J : Int) + 3 < 5) := by omega
    have hJ3 : 5 ≤ (J : Int) + 3 := by omega
    have v1 := hexd_two (S.xs s / 16) (by omega)
    have v2 := hexd_two (S.xs s % 16) (by omega)
    clear C e0 d1 d2 st hz hb h5 hJ
    generalize S.xs s = X at *
    go_wp2_with (go_at_call 29; refine (frameB_spec _ hm _).mono ?_; rintro e w' ⟨rfl, rfl⟩)
    generalize S.frame s = f at *
    go_loop [5, 6] (fun n i => St J X n i) (fun _ i => (J + 3 - (intOf i).toNat))
    case atStart => exact .inl ⟨rfl, vi (by omega)⟩
    case round =>
      obtain ⟨rfl, rfl⟩ | ⟨rfl, rfl⟩ | ⟨rfl, rfl⟩ := hrel
      · rcases v1 with ⟨v, hv, v65, v48, hvx⟩ | ⟨v, hv, v65, v70, hvx⟩
        · rw [hv] at t1
          have HVX := Lib.hid hvx
          clear hvx hv t0 t2 v2
          go_wp2
          go_round
          case rel => exact .inr (.inl ⟨vi (by have := HVX.out; omega), vi (by omega)⟩)
          case measure => simp [intOf]; omega
        · rw [hv] at t1
          have HVX := Lib.hid hvx
          clear hvx hv t0 t2 v2
          go_wp2
          go_round
          case rel => exact .inr (.inl ⟨vi (by have := HVX.out; omega), vi (by omega)⟩)
          case measure => simp [intOf]; omega
      · rcases v2 with ⟨v, hv, v65, v48, hvx⟩ | ⟨v, hv, v65, v70, hvx⟩
        · rw [hv] at t2
          have HVX := Lib.hid hvx
          clear hvx hv t0 t1 v1
          go_wp2
          go_round
          case rel => exact .inr (.inr ⟨vi (by have := HVX.out; omega), vi (by omega)⟩)
          case measure => simp [intOf]; omega
        · rw [hv] at t2
          have HVX := Lib.hid hvx
          clear hvx hv t0 t1 v1
          go_wp2
          go_round
          case rel => exact .inr (.inr ⟨vi (by have := HVX.out; omega), vi (by omega)⟩)
          case measure => simp [intOf]; omega
      · clear t1 t2 v1 v2
        go_wp2_with (go_at_call 30; refine (HC.out _).mono ?_; rintro e w' ⟨rfl, rfl⟩)
        go_ret
        exact ⟨ret_bool (by first | rfl | simp), bl2⟩

/-! ### THE ROW's STEP: WRITTEN OUT: LEAVE IT -/
set_option maxRecDepth 100000 in
theorem lifted (os : Os) (started : os.Started) (H : Type) (enc : TypeId × Value → H) :
    ReturnsInHanded {} Try.checked os 8 .any (Rows.fnFrameBodyChecksumSpec.pre6 enc Try.prog Try.f8 Rows.fnFrameBodyChecksumRow.domain false) (Rows.fnFrameBodyChecksumSpec.post enc Try.prog Try.f8 false true false false) := by
  refine returnsInHanded_of_change (C := Try.checked) own started (by kernel_rfl) Try.func8
    (ChangeSpec.witness6 (enc := enc) (C := Try.checked) false ⟨#[], #[.slice none 0 0], []⟩ 8 (by kernel_rfl) (by kernel_rfl) (by kernel_rfl) (by kernel_rfl)) ?_
  intro W base args ds gs before hval0 hW hcnd _
  have hval : ∀ (j : Nat) t v, Try.f8.params[j]? = some t → args[j]? = some v → Value.okWide Try.prog W .any base t v := hval0
  have hW' := hW
  obtain ⟨p, q, hA0, hV, rfl, hfz, hnd⟩ := hW
  have hA : DataW.TrodAll enc Try.prog W 0 (fun _ => true) true Try.f8.params.toList args.toList ds p := hA0
  rw [Try.params8] at hA hval
  obtain ⟨v0, vs0, d0, ds0, p0, q0, hargs, rfl, rfl, h0, r0⟩ := trodAll_cons hA
  obtain ⟨rfl, rfl, rfl⟩ := trodAll_nil r0
  obtain rfl : args = #[v0] := by cases args; simp_all
  obtain ⟨rfl, rfl⟩ := trodVars_none hV
  obtain ⟨a0, len0, cap0, rfl⟩ := okWide_slice Try.underlying22 (hval 0 22 v0 rfl rfl)
  have k0 := h0
  have lt0 : ∀ x ∈ p0, x.block < W.heap.size := by obtain ⟨m, hm⟩ := k0; exact DataW.trod_lt m _ _ _ hm
  obtain ⟨z0, w0⟩ : ∃ zs, IsRow .u8 W a0 len0 cap0 zs := by
    obtain ⟨fuel, hf⟩ := h0
    rcases open_ints Try.underlying22 Try.underlying5 (by kernel_rfl) hf with ⟨hcs, _⟩ | ⟨x, l, c, zs, hcs, _, hl, hm, hz, _, hcell, hwz⟩
    · simp [Value.cells] at hcs
      obtain ⟨rfl, rfl, rfl⟩ := hcs
      exact ⟨[], .inl ⟨rfl, rfl, rfl, rfl⟩⟩
    · simp [Value.cells] at hcs
      obtain ⟨rfl, rfl, rfl⟩ := hcs
      exact ⟨zs, .inr ⟨_, rfl, hl, hm, by simpa using hz, hcell, hwz⟩⟩
  clear hA0 hval0
  refine (walk a0 len0 cap0 z0 W w0).mono fun e W' ⟨he, bel⟩ => ?_
  subst he
  exact ⟨_, rfl, _, _, _, [], _, [], hW', trodAll_mk1 (shut_bool Try.underlying4 _), (trodAll_cons_mk (Below.trod laidOut (by kernel_rfl) (of_decide_eq_true (by kernel_rfl)) k0 bel lt0) trodAll_mk0), rfl, bel.frame _, fun h => by cases h⟩

theorem over : Rows.fnFrameBodyChecksumRow.holds Try.pinned (OpenSpec.ofChange Rows.fnFrameBodyChecksumSpec) :=
  OpenClaim.holds_of_wide 8 Try.f8 rfl rfl rfl rfl rfl rfl rfl ⟨rfl, rfl, rfl, rfl, rfl⟩ rfl rfl rfl rfl rfl (by kernel_rfl) Try.func8 (by kernel_rfl)
    (of_decide_eq_true (by kernel_rfl)) (by unfold Func.isWrapper; first | (rw [if_pos (by decide +kernel)]; kernel_rfl) | (rw [if_neg (by decide +kernel)]; exact ⟨rfl, rfl⟩))
    (fun os started H enc _ => lifted os started H enc)

/-- ████ THE STATEMENT ████ -/
theorem proved : Rows.FnFrameBodyChecksumSaid := over
#print axioms proved
end Go.Proofs.Ytoomkafhmennoab.fnFrameBodyChecksum
