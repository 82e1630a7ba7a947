/-
  PROVED: FnRunClockNone: for every input the law returns true, and the input reads as it did. No condition.
  The frame is as the kit prints it (proof-skeleton.mjs); the walk is mine.
-/
import Derived.Test.YtljdnncodgnpcaaRows
import Derived.Test.YtljdnncodgnpcaaCopyK
import Derived.Test.YtljdnncodgnpcaaRunS
import Derived.Test.YtljdnncodgnpcaaDrawR
import Derived.Test.YtljdnncodgnpcaaRMathB
import Derived.WalkKit
import Derived.ProofKit
import Derived.OpenShut
import Derived.ShutString
import Derived.ChangeOld
import Derived.Below
namespace Go.Proofs.Ytljdnncodgnpcaa.fnRunClockNone
open Go.ChangeShapes Go.WideShapes Go.ChangeAt Go.RowKit
open Go.ChangeMaps (open_string shut_string)
set_option linter.unusedVariables false

theorem own : ownKnob Try.prog.godebug = none := by kernel_rfl
theorem laidOut : laidOutB Try.prog = true := by kernel_rfl

/-- WHAT THE WALK IS TOLD OF A SLICE OF INTEGERS THAT CAME IN: it is nil; or it leads to a row of 'cap' cells, the numbers 'zs' (the first 'len' are its elements, the rest its spare room), each fitting its kind. -/
def IsRow (k : IntKind) (w : World) (a : Option Addr) (len cap : Nat) (zs : List Int) : Prop :=
  (a = none ∧ len = 0 ∧ cap = 0 ∧ zs = []) ∨
  ∃ x, a = some x ∧ len ≤ cap ∧ cap ≤ maxLen ∧ zs.length = cap ∧ (∀ i, i < zs.length → w.cell? (x.add i) = some (.int k (zs.getD i 0))) ∧ ∀ n ∈ zs, (Lit.int k n).wf = true

/-! ### STEP 1: THE WALK: the Go text returns true, AND WRITES NOTHING THAT WAS THERE: 'Below w.heap.size w w'' (Derived/Below.lean: '.refl', '.alloc', '.drew', '.setCell' at a new block, '.trans'). Open each 'IsRow' by 'rcases' AHEAD of 'go_enter'; part every test ahead of the walk. -/
theorem both_runs (x y z : Int) (l : List Q.Sm) : ∃ X1 X2 X3 : Int, ∃ k : Bool,
    (∀ (B n c : Nat) (a : Option Addr) (w : World), Sms B w a n l → B ≤ w.heap.size → Calls Try.prog 18 #[.agg #[.int .i64 x, .int .i64 y, .int .i64 z], .slice a n c] w fun e w' => e = .returned (.tuple #[.agg #[.int .i64 X1, .int .i64 X2, .int .i64 X3], .bool k]) ∧ Below w.heap.size w w') ∧
    (∀ (B n c : Nat) (a : Option Addr) (w : World), Sms B w a n l → B ≤ w.heap.size → Calls Try.prog 17 #[.agg #[.int .i64 x, .int .i64 y, .int .i64 z], .slice a n c] w fun e w' => e = .returned (.tuple #[.agg #[.int .i64 X1, .int .i64 X2, .int .i64 X3], .bool k]) ∧ Below w.heap.size w w') ∧
    (k = true → K.rok (x, y, z) l = true ∧ K.rs (x, y, z) l l.length = (X1, X2, X3)) :=
  ⟨(K.re (x, y, z) l).1, (K.re (x, y, z) l).2.1, (K.re (x, y, z) l).2.2, K.rok (x, y, z) l, fun B n c a w h hB => RC_spec B n c a l (x, y, z) w h hB, fun B n c a w h hB => RC_impl B n c a l (x, y, z) w h hB, fun hk => ⟨hk, by rw [K.re_yes hk]⟩⟩
set_option maxRecDepth 100000 in
set_option maxHeartbeats 8000000 in
theorem walk (a0 : Option Addr) (len0 cap0 : Nat) (z0 : List Int) (w : World) (w0 : IsRow .u8 w a0 len0 cap0 z0) :
    Calls Try.prog 5 #[.slice a0 len0 cap0] w fun e w' => e = .returned (.bool true) ∧ Below w.heap.size w w' := by
  by_cases hl : 1048576 < len0
  · have hl' : (1048576 : Int) < (len0 : Int) := by omega
    clear w0 hl
    go_enter Try.func5, Try.ntmps5
    go_wp2
    go_ret
    exact ⟨rfl, Below.refl _ _⟩
  have hl' : ¬ (1048576 : Int) < (len0 : Int) := by omega
  obtain ⟨hc, hcap⟩ := code_of w0 (by omega)
  clear w0 hl
  go_enter Try.func5, Try.ntmps5
  go_wp2_with fail
  refine (DrawRunClock_any w a0 len0 cap0 hc hcap).mono ?_
  rintro e w1 ⟨o, p, c, ad, cp, l, rfl, ho, hp, hc, hl9, hcp, hcm, hS3, hS, bl⟩
  clear hc hcap
  have st1 := Kq.new bl o p c 24
  have hA1 := (hS.below ((Below.refl w1.heap.size w1).alloc (Nat.le_refl _) (.cells #[.int .i64 o, .int .i64 p, .int .i64 c] 24))).more (show w1.heap.size ≤ (w1.alloc (.cells #[.int .i64 o, .int .i64 p, .int .i64 c] 24)).heap.size by simp)
  have r10 := st1.here.c0
  have r11 := st1.here.c1
  have r12 := st1.here.c2
  obtain ⟨X1, X2, X3, k, KS, KI, KF⟩ := both_runs o p c l
  have HS := Lib.hid KS
  have HI := Lib.hid KI
  have HF := Lib.hid KF
  clear KS KI KF hS bl
  have k4 := fun w' => vc_impl o p c w'
  rcases hv : K.vc o p c with _ | _
  · simp only [hv] at k4
    have K4 := Lib.hid k4
    clear k4 hv
    go_wp2_with fail
    refine (HI.out _ _ _ _ _ hA1 (Nat.le_refl _)).mono ?_
    rintro e w2 ⟨rfl, b2⟩
    have bb2 := b2.alloc b2.size (.cells #[.int .i64 X1, .int .i64 X2, .int .i64 X3] 24)
    have st2 := st1.b bb2
    have hA2 := (hA1.below bb2).more bb2.size
    have d2 := C3.new w2 X1 X2 X3 24
    have r20 := st2.here.c0
    have r21 := st2.here.c1
    have r22 := st2.here.c2
    clear st1 hA1 b2 bb2 r10 r11 r12
    go_wp2_with fail
    refine (HS.out _ _ _ _ _ hA2 (Nat.le_refl _)).mono ?_
    rintro e w3 ⟨rfl, b3⟩
    have bb3 := b3.alloc b3.size (.cells #[.int .i64 X1, .int .i64 X2, .int .i64 X3] 24)
    have st3 := st2.b bb3
    have hA3 := (hA2.below bb3).more bb3.size
    have d3 := d2.b bb3
    have e3 := C3.new w3 X1 X2 X3 24
    have r30 := st3.here.c0
    have r31 := st3.here.c1
    have r32 := st3.here.c2
    have d30 := d3.c0
    have d31 := d3.c1
    have d32 := d3.c2
    have e30 := e3.c0
    have e31 := e3.c1
    have e32 := e3.c2
    have ld := d2.lt
    have ld3 := b3.size
    clear st2 hA2 b3 bb3 d2 e3 r20 r21 r22
    go_wp2_with fail
    refine (K4.out _).mono ?_
    rintro e w4 ⟨rfl, b4⟩
    have st4 := st3.b b4
    have d4 := d3.b b4
    have d40 := d4.c0
    have d41 := d4.c1
    have d42 := d4.c2
    have e4 := (C3.new w3 X1 X2 X3 24).b b4
    have e40 := e4.c0
    have e41 := e4.c1
    have e42 := e4.c2
    clear st3 d3 b4 r30 r31 r32 d30 d31 d32 e30 e31 e32 e4 d4 hA3
    go_wp2
    go_ret
    exact ⟨ret_bool (by first | rfl | simp), st4.bel⟩
  · have hn := K.rok_nil (s := (o, p, c)) hv
    have k5 := fun (B : Nat) (w' : World) (hB : B ≤ w'.heap.size) => RC_impl B 0 0 none [] (o, p, c) w' ⟨rfl, by simp, .inl rfl⟩ hB
    simp only [hn.1, hn.2] at k5
    have K5 := Lib.hid k5
    simp only [hv] at k4
    have K4 := Lib.hid k4
    clear k4 k5 hv hn
    go_wp2_with fail
    refine (HI.out _ _ _ _ _ hA1 (Nat.le_refl _)).mono ?_
    rintro e w2 ⟨rfl, b2⟩
    have bb2 := b2.alloc b2.size (.cells #[.int .i64 X1, .int .i64 X2, .int .i64 X3] 24)
    have st2 := st1.b bb2
    have hA2 := (hA1.below bb2).more bb2.size
    have d2 := C3.new w2 X1 X2 X3 24
    have r20 := st2.here.c0
    have r21 := st2.here.c1
    have r22 := st2.here.c2
    clear st1 hA1 b2 bb2 r10 r11 r12
    go_wp2_with fail
    refine (HS.out _ _ _ _ _ hA2 (Nat.le_refl _)).mono ?_
    rintro e w3 ⟨rfl, b3⟩
    have bb3 := b3.alloc b3.size (.cells #[.int .i64 X1, .int .i64 X2, .int .i64 X3] 24)
    have st3 := st2.b bb3
    have hA3 := (hA2.below bb3).more bb3.size
    have d3 := d2.b bb3
    have e3 := C3.new w3 X1 X2 X3 24
    have r30 := st3.here.c0
    have r31 := st3.here.c1
    have r32 := st3.here.c2
    have d30 := d3.c0
    have d31 := d3.c1
    have d32 := d3.c2
    have e30 := e3.c0
    have e31 := e3.c1
    have e32 := e3.c2
    have ld := d2.lt
    have ld3 := b3.size
    clear st2 hA2 b3 bb3 d2 e3 r20 r21 r22
    go_wp2_with fail
    refine (K4.out _).mono ?_
    rintro e w4 ⟨rfl, b4⟩
    have st4 := st3.b b4
    have r40 := st4.here.c0
    have r41 := st4.here.c1
    have r42 := st4.here.c2
    clear st3 d3 b4 r30 r31 r32 d30 d31 d32 e30 e31 e32 hA3 ld ld3
    go_wp2_with fail
    refine (K5.out w4.heap.size _ (Nat.le_refl _)).mono ?_
    rintro e w5 ⟨rfl, b5⟩
    have bb5 := b5.alloc b5.size (.cells #[.int .i64 o, .int .i64 p, .int .i64 c] 24)
    have st5 := st4.b bb5
    have f5 := C3.new w5 o p c 24
    have r50 := st5.here.c0
    have r51 := st5.here.c1
    have r52 := st5.here.c2
    have f50 := f5.c0
    have f51 := f5.c1
    have f52 := f5.c2
    have l4 := st4.here.lt
    have l5 := b5.size
    clear st4 b5 bb5 f5 r40 r41 r42
    go_wp2
    go_ret
    exact ⟨ret_bool (by first | rfl | simp), st5.bel⟩

/-! ### THE ROW's STEP: WRITTEN OUT: LEAVE IT -/
set_option maxRecDepth 100000 in
theorem lifted (os : Os) (started : os.Started) (H : Type) (enc : TypeId × Value → H) :
    ReturnsInHanded {} Try.checked os 5 .any (Rows.fnRunClockNoneSpec.pre6 enc Try.prog Try.f5 Rows.fnRunClockNoneRow.domain false) (Rows.fnRunClockNoneSpec.post enc Try.prog Try.f5 false true false false) := by
  refine returnsInHanded_of_change (C := Try.checked) own started (by kernel_rfl) Try.func5
    (ChangeSpec.witness6 (enc := enc) (C := Try.checked) false ⟨#[], #[.slice none 0 0], []⟩ 8 (by kernel_rfl) (by kernel_rfl) (by kernel_rfl) (by kernel_rfl)) ?_
  intro W base args ds gs before hval0 hW hcnd _
  have hval : ∀ (j : Nat) t v, Try.f5.params[j]? = some t → args[j]? = some v → Value.okWide Try.prog W .any base t v := hval0
  have hW' := hW
  obtain ⟨p, q, hA0, hV, rfl, hfz, hnd⟩ := hW
  have hA : DataW.TrodAll enc Try.prog W 0 (fun _ => true) true Try.f5.params.toList args.toList ds p := hA0
  rw [Try.params5] at hA hval
  obtain ⟨v0, vs0, d0, ds0, p0, q0, hargs, rfl, rfl, h0, r0⟩ := trodAll_cons hA
  obtain ⟨rfl, rfl, rfl⟩ := trodAll_nil r0
  obtain rfl : args = #[v0] := by cases args; simp_all
  obtain ⟨rfl, rfl⟩ := trodVars_none hV
  obtain ⟨a0, len0, cap0, rfl⟩ := okWide_slice Try.underlying22 (hval 0 22 v0 rfl rfl)
  have k0 := h0
  have lt0 : ∀ x ∈ p0, x.block < W.heap.size := by obtain ⟨m, hm⟩ := k0; exact DataW.trod_lt m _ _ _ hm
  obtain ⟨z0, w0⟩ : ∃ zs, IsRow .u8 W a0 len0 cap0 zs := by
    obtain ⟨fuel, hf⟩ := h0
    rcases open_ints Try.underlying22 Try.underlying5 (by kernel_rfl) hf with ⟨hcs, _⟩ | ⟨x, l, c, zs, hcs, _, hl, hm, hz, _, hcell, hwz⟩
    · simp [Value.cells] at hcs
      obtain ⟨rfl, rfl, rfl⟩ := hcs
      exact ⟨[], .inl ⟨rfl, rfl, rfl, rfl⟩⟩
    · simp [Value.cells] at hcs
      obtain ⟨rfl, rfl, rfl⟩ := hcs
      exact ⟨zs, .inr ⟨_, rfl, hl, hm, by simpa using hz, hcell, hwz⟩⟩
  clear hA0 hval0
  refine (walk a0 len0 cap0 z0 W w0).mono fun e W' ⟨he, bel⟩ => ?_
  subst he
  exact ⟨_, rfl, _, _, _, [], _, [], hW', trodAll_mk1 (shut_bool Try.underlying4 _), (trodAll_cons_mk (Below.trod laidOut (by kernel_rfl) (of_decide_eq_true (by kernel_rfl)) k0 bel lt0) trodAll_mk0), rfl, bel.frame _, fun h => by cases h⟩

theorem over : Rows.fnRunClockNoneRow.holds Try.pinned (OpenSpec.ofChange Rows.fnRunClockNoneSpec) :=
  OpenClaim.holds_of_wide 5 Try.f5 rfl rfl rfl rfl rfl rfl rfl ⟨rfl, rfl, rfl, rfl, rfl⟩ rfl rfl rfl rfl rfl (by kernel_rfl) Try.func5 (by kernel_rfl)
    (of_decide_eq_true (by kernel_rfl)) (by unfold Func.isWrapper; first | (rw [if_pos (by decide +kernel)]; kernel_rfl) | (rw [if_neg (by decide +kernel)]; exact ⟨rfl, rfl⟩))
    (fun os started H enc _ => lifted os started H enc)

/-- ████ THE STATEMENT ████ -/
theorem proved : Rows.FnRunClockNoneSaid := over
#print axioms proved
end Go.Proofs.Ytljdnncodgnpcaa.fnRunClockNone
