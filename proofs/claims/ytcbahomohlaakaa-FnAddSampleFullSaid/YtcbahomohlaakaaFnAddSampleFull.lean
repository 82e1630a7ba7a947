/-
  PROVED: FnAddSampleFull: for every input the law returns true, and the input reads as it did. No condition.
  The frame is as the kit prints it (proof-skeleton.mjs); the walk is mine.
-/
import Derived.Test.YtcbahomohlaakaaRows
import Derived.Test.YtcbahomohlaakaaAddI
import Derived.Test.YtcbahomohlaakaaDrawA
import Derived.WalkKit
import Derived.ProofKit
import Derived.OpenShut
import Derived.ShutString
import Derived.ChangeOld
import Derived.Below
namespace Go.Proofs.Ytcbahomohlaakaa.fnAddSampleFull
open Go.ChangeShapes Go.WideShapes Go.ChangeAt Go.RowKit
open Go.ChangeMaps (open_string shut_string)
set_option linter.unusedVariables false

theorem own : ownKnob Try.prog.godebug = none := by kernel_rfl
theorem laidOut : laidOutB Try.prog = true := by kernel_rfl

/-- WHAT THE WALK IS TOLD OF A SLICE OF INTEGERS THAT CAME IN: it is nil; or it leads to a row of 'cap' cells, the numbers 'zs' (the first 'len' are its elements, the rest its spare room), each fitting its kind. -/
def IsRow (k : IntKind) (w : World) (a : Option Addr) (len cap : Nat) (zs : List Int) : Prop :=
  (a = none ∧ len = 0 ∧ cap = 0 ∧ zs = []) ∨
  ∃ x, a = some x ∧ len ≤ cap ∧ cap ≤ maxLen ∧ zs.length = cap ∧ (∀ i, i < zs.length → w.cell? (x.add i) = some (.int k (zs.getD i 0))) ∧ ∀ n ∈ zs, (Lit.int k n).wf = true

/-! ### STEP 1: THE WALK: the Go text returns true, AND WRITES NOTHING THAT WAS THERE: 'Below w.heap.size w w'' (Derived/Below.lean: '.refl', '.alloc', '.drew', '.setCell' at a new block, '.trans'). Open each 'IsRow' by 'rcases' AHEAD of 'go_enter'; part every test ahead of the walk. -/
theorem al_len {l : List Q.Sm} {p : Q.Sm} (h : adok l p = true) : l.length ≤ 8 ∧ (adx l p).length = if l.length < 8 then l.length + 1 else 8 := by
  have h1 := adok_of h
  have h8 : l.length ≤ 8 := by
    rcases h1.1 with h0 | h0
    · omega
    · exact (Q.vq_of h0).1.2
  refine ⟨h8, ?_⟩
  rw [adx_yes h]
  by_cases h2 : l.length < 8
  · rw [if_pos h2, Q.al_part (by omega), List.length_append]; rfl
  · rw [if_neg h2, Q.al_full (by omega), List.length_drop, List.length_append]
    show l.length + 1 - 1 = 8
    omega
set_option maxRecDepth 100000 in
set_option maxHeartbeats 8000000 in
theorem walk (a0 : Option Addr) (len0 cap0 : Nat) (z0 : List Int) (w : World) (w0 : IsRow .u8 w a0 len0 cap0 z0) :
    Calls Try.prog 6 #[.slice a0 len0 cap0] w fun e w' => e = .returned (.bool true) ∧ Below w.heap.size w w' := by
  by_cases hl : 1048576 < len0
  · have hl' : (1048576 : Int) < (len0 : Int) := by omega
    clear w0 hl
    go_enter Try.func6, Try.ntmps6
    go_wp2
    go_ret
    exact ⟨rfl, Below.refl _ _⟩
  have hl' : ¬ (1048576 : Int) < (len0 : Int) := by omega
  obtain ⟨hc, hcap⟩ := code_of w0 (by omega)
  clear w0 hl
  go_enter Try.func6, Try.ntmps6
  go_wp2_with fail
  refine (DrawAddSample_any w a0 len0 cap0 hc hcap).mono ?_
  rintro e w1 ⟨a, c, l, x, y, z, rfl, hl9, hlc, hcm, hS, hsm, hx, hy, hz, bl, hnil⟩
  clear hc hcap
  have st := (Sq.mk hS bl).al (.cells #[.int .i64 x, .int .i64 y, .int .i64 z] 26)
  have x1 := B3.new w1 x y z 26
  have hxl := adx_len l (x, y, z)
  have hal := @al_len l (x, y, z)
  have k1 := fun w' (h : Sms w'.heap.size w' a l.length l) => AI_all l.length c a l x y z w' h
  have k2 := fun w' (h : Sms w'.heap.size w' a l.length l) => AS_all l.length c a l x y z w' h
  generalize adx l (x, y, z) = X at *
  generalize adok l (x, y, z) = okb at *
  have K1 := Lib.hid k1
  have K2 := Lib.hid k2
  have HAL := Lib.hid hal
  unfold maxLen at hcm
  clear k1 k2 hal hS bl hsm hnil
  go_wp2_with fail
  have S1 := st.here
  have bl1 := st.bel
  have hW : w1.heap.size < (w1.alloc (.cells #[.int .i64 x, .int .i64 y, .int .i64 z] 26)).heap.size := x1.lt
  generalize w1.alloc (.cells #[.int .i64 x, .int .i64 y, .int .i64 z] 26) = W1 at *
  generalize w1.heap.size = E at *
  clear st
  refine (K1.out _ S1).mono ?_
  rintro e w2 ⟨a2, c2, rfl, O2, b2⟩
  have S2 := (S1.below b2).more b2.size
  have M2 := (O2.sms (by omega)).1
  have bl2 := bl1.trans (b2.mono bl1.size)
  have x2 := x1.b b2
  have y0 := x2.c0
  have y1 := x2.c1
  have y2 := x2.c2
  clear S1 bl1 b2 K1 O2 x1
  go_wp2_with fail
  refine (K2.out _ S2).mono ?_
  rintro e w3 ⟨a3, c3, rfl, P3, b3⟩
  have M3 := (M2.below b3).more b3.size
  have bl3 := bl2.trans (b3.mono bl2.size)
  clear S2 M2 bl2 b3 y0 y1 y2 x2 K2
  go_wp2_with fail
  refine (equalSamples_any X.length c2 c3 _ a2 a3 X w3 M3 P3).mono ?_
  rintro e w4 ⟨rfl, q4⟩
  have M4 := (M3.same q4).more (show w3.heap.size ≤ w4.heap.size from (q4.below (B := 0)).size)
  have P4 := (P3.same q4).more (show w3.heap.size ≤ w4.heap.size from (q4.below (B := 0)).size)
  have bl4 := bel_same bl3 q4
  clear M3 P3 bl3 q4
  rcases okb with _ | _
  · go_wp2_with fail
    refine (equalSamples_any X.length c2 c3 _ a2 a3 X w4 M4 P4).mono ?_
    rintro e w5 ⟨rfl, q5⟩
    have HB := Lib.hid (bel_same bl4 q5)
    clear M4 P4 bl4 q5
    go_wp2
    go_ret
    exact ⟨ret_bool (by first | rfl | (simp; done)), HB.out⟩
  · obtain ⟨h8, hxx⟩ := HAL.out rfl
    have HB := Lib.hid bl4
    clear M4 P4 bl4
    by_cases hlt : l.length < 8
    · rw [if_pos hlt] at hxx
      have hm : (l.length : Int) + 1 ≤ 8 := by omega
      have hm2 : ¬ (8 : Int) < (l.length : Int) + 1 := by omega
      have hq : ((X.length : Int) == (l.length : Int) + 1) = true := by rw [beq_iff_eq]; omega
      have HXX := Lib.hid hxx
      clear hxx
      go_wp2
      all_goals
        first
        | (go_ret
           exact ⟨ret_bool (by first | rfl | (simp; done) | (have := HXX.out; simp; omega)), HB.out⟩)
        | (exfalso; have := HXX.out; simp at *; omega)
    · rw [if_neg hlt] at hxx
      have hl8 : l.length = 8 := by omega
      have hm : ¬ (l.length : Int) + 1 < 8 := by omega
      have hm2 : (8 : Int) < (l.length : Int) + 1 := by omega
      have hq : ((X.length : Int) == 8) = true := by rw [beq_iff_eq]; omega
      have HXX := Lib.hid (And.intro hxx hl8)
      clear hxx hl8
      go_wp2
      all_goals
        first
        | (go_ret
           exact ⟨ret_bool (by first | rfl | (simp; done) | (have := HXX.out; simp; omega)), HB.out⟩)
        | (exfalso; have := HXX.out; simp at *; omega)

/-! ### THE ROW's STEP: WRITTEN OUT: LEAVE IT -/
set_option maxRecDepth 100000 in
theorem lifted (os : Os) (started : os.Started) (H : Type) (enc : TypeId × Value → H) :
    ReturnsInHanded {} Try.checked os 6 .any (Rows.fnAddSampleFullSpec.pre6 enc Try.prog Try.f6 Rows.fnAddSampleFullRow.domain false) (Rows.fnAddSampleFullSpec.post enc Try.prog Try.f6 false true false false) := by
  refine returnsInHanded_of_change (C := Try.checked) own started (by kernel_rfl) Try.func6
    (ChangeSpec.witness6 (enc := enc) (C := Try.checked) false ⟨#[], #[.slice none 0 0], []⟩ 8 (by kernel_rfl) (by kernel_rfl) (by kernel_rfl) (by kernel_rfl)) ?_
  intro W base args ds gs before hval0 hW hcnd _
  have hval : ∀ (j : Nat) t v, Try.f6.params[j]? = some t → args[j]? = some v → Value.okWide Try.prog W .any base t v := hval0
  have hW' := hW
  obtain ⟨p, q, hA0, hV, rfl, hfz, hnd⟩ := hW
  have hA : DataW.TrodAll enc Try.prog W 0 (fun _ => true) true Try.f6.params.toList args.toList ds p := hA0
  rw [Try.params6] at hA hval
  obtain ⟨v0, vs0, d0, ds0, p0, q0, hargs, rfl, rfl, h0, r0⟩ := trodAll_cons hA
  obtain ⟨rfl, rfl, rfl⟩ := trodAll_nil r0
  obtain rfl : args = #[v0] := by cases args; simp_all
  obtain ⟨rfl, rfl⟩ := trodVars_none hV
  obtain ⟨a0, len0, cap0, rfl⟩ := okWide_slice Try.underlying22 (hval 0 22 v0 rfl rfl)
  have k0 := h0
  have lt0 : ∀ x ∈ p0, x.block < W.heap.size := by obtain ⟨m, hm⟩ := k0; exact DataW.trod_lt m _ _ _ hm
  obtain ⟨z0, w0⟩ : ∃ zs, IsRow .u8 W a0 len0 cap0 zs := by
    obtain ⟨fuel, hf⟩ := h0
    rcases open_ints Try.underlying22 Try.underlying5 (by kernel_rfl) hf with ⟨hcs, _⟩ | ⟨x, l, c, zs, hcs, _, hl, hm, hz, _, hcell, hwz⟩
    · simp [Value.cells] at hcs
      obtain ⟨rfl, rfl, rfl⟩ := hcs
      exact ⟨[], .inl ⟨rfl, rfl, rfl, rfl⟩⟩
    · simp [Value.cells] at hcs
      obtain ⟨rfl, rfl, rfl⟩ := hcs
      exact ⟨zs, .inr ⟨_, rfl, hl, hm, by simpa using hz, hcell, hwz⟩⟩
  clear hA0 hval0
  refine (walk a0 len0 cap0 z0 W w0).mono fun e W' ⟨he, bel⟩ => ?_
  subst he
  exact ⟨_, rfl, _, _, _, [], _, [], hW', trodAll_mk1 (shut_bool Try.underlying4 _), (trodAll_cons_mk (Below.trod laidOut (by kernel_rfl) (of_decide_eq_true (by kernel_rfl)) k0 bel lt0) trodAll_mk0), rfl, bel.frame _, fun h => by cases h⟩

theorem over : Rows.fnAddSampleFullRow.holds Try.pinned (OpenSpec.ofChange Rows.fnAddSampleFullSpec) :=
  OpenClaim.holds_of_wide 6 Try.f6 rfl rfl rfl rfl rfl rfl rfl ⟨rfl, rfl, rfl, rfl, rfl⟩ rfl rfl rfl rfl rfl (by kernel_rfl) Try.func6 (by kernel_rfl)
    (of_decide_eq_true (by kernel_rfl)) (by unfold Func.isWrapper; first | (rw [if_pos (by decide +kernel)]; kernel_rfl) | (rw [if_neg (by decide +kernel)]; exact ⟨rfl, rfl⟩))
    (fun os started H enc _ => lifted os started H enc)

/-- ████ THE STATEMENT ████ -/
theorem proved : Rows.FnAddSampleFullSaid := over
#print axioms proved
end Go.Proofs.Ytcbahomohlaakaa.fnAddSampleFull
