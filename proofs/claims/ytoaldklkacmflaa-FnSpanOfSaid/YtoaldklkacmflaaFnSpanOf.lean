/-
  PROVED: FnSpanOf: for every input the law returns true, and the input reads as it did. No condition.
  The frame is as the kit prints it (proof-skeleton.mjs); the walk is mine.
-/
import Derived.Test.YtoaldklkacmflaaRows
import Derived.Test.YtoaldklkacmflaaLq
import Derived.Test.YtoaldklkacmflaaDrawO
import Derived.WalkKit
import Derived.ProofKit
import Derived.OpenShut
import Derived.ShutString
import Derived.ChangeOld
import Derived.Below
namespace Go.Proofs.Ytoaldklkacmflaa.fnSpanOf
open Go.ChangeShapes Go.WideShapes Go.ChangeAt Go.RowKit
open Go.ChangeMaps (open_string shut_string)
set_option linter.unusedVariables false

theorem own : ownKnob Try.prog.godebug = none := by kernel_rfl
theorem laidOut : laidOutB Try.prog = true := by kernel_rfl

/-- WHAT THE WALK IS TOLD OF A SLICE OF INTEGERS THAT CAME IN: it is nil; or it leads to a row of 'cap' cells, the numbers 'zs' (the first 'len' are its elements, the rest its spare room), each fitting its kind. -/
def IsRow (k : IntKind) (w : World) (a : Option Addr) (len cap : Nat) (zs : List Int) : Prop :=
  (a = none ∧ len = 0 ∧ cap = 0 ∧ zs = []) ∨
  ∃ x, a = some x ∧ len ≤ cap ∧ cap ≤ maxLen ∧ zs.length = cap ∧ (∀ i, i < zs.length → w.cell? (x.add i) = some (.int k (zs.getD i 0))) ∧ ∀ n ∈ zs, (Lit.int k n).wf = true

/-! ### STEP 1: THE WALK: the Go text returns true, AND WRITES NOTHING THAT WAS THERE: 'Below w.heap.size w w'' (Derived/Below.lean: '.refl', '.alloc', '.drew', '.setCell' at a new block, '.trans'). Open each 'IsRow' by 'rcases' AHEAD of 'go_enter'; part every test ahead of the walk. -/
set_option maxRecDepth 100000 in
set_option maxHeartbeats 4000000 in
theorem walk (a0 : Option Addr) (len0 cap0 : Nat) (z0 : List Int) (w : World) (w0 : IsRow .u8 w a0 len0 cap0 z0) :
    Calls Try.prog 6 #[.slice a0 len0 cap0] w fun e w' => e = .returned (.bool true) ∧ Below w.heap.size w w' := by
  by_cases hl : 1048576 < len0
  · have hl' : (1048576 : Int) < (len0 : Int) := by omega
    clear w0 hl
    go_enter Try.func6, Try.ntmps6
    go_wp2
    go_ret
    exact ⟨rfl, Below.refl _ _⟩
  have hl' : ¬ (1048576 : Int) < (len0 : Int) := by omega
  obtain ⟨hc, hcap⟩ := code_of w0 (by omega)
  clear w0 hl
  go_enter Try.func6, Try.ntmps6
  go_wp2_with fail
  refine (DrawSpanOf_any w a0 len0 cap0 hc hcap).mono ?_
  rintro e w1 ⟨a, n, c, l, rfl, hL, hk, hnc, hcm, hsm, bl⟩
  clear hc hcap
  have st := Lq.mk hL bl
  clear hL bl hsm hk
  rcases hv : O.sok l with _ | _
  · go_wp2_with fail
    refine (SPi_no _ _ _ _ _ _ hv st.here (Nat.le_refl _)).mono ?_
    rintro e w2 ⟨rfl, b2⟩
    have st2 := (st.b b2).al (.cells #[.int .i64 0, .int .i64 0] 30)
    have d2 := C2.new w2 0 0 30
    clear st b2
    go_wp2_with fail
    refine (SPs_no _ _ _ _ _ _ hv (st2.here.more (by simp)) (Nat.le_refl _)).mono ?_
    rintro e w3 ⟨rfl, b3⟩
    have st3 := (st2.b b3).al (.cells #[.int .i64 0, .int .i64 0] 30)
    have d3 := (d2.b b3).al (.cells #[.int .i64 0, .int .i64 0] 30)
    have e30 := (d2.b b3).c0
    have e31 := (d2.b b3).c1
    have l31 := (d2.b b3).lt
    have c30 := d3.c0
    have c31 := d3.c1
    clear st2 b3 hv d2 d3
    go_wp2
    go_ret
    exact ⟨by first | rfl | simp, st3.bel⟩
  have HS := O.sok_of hv
  obtain ⟨hl, h0, h1, h2, h3⟩ := O.vo_at HS.1
  obtain ⟨rfl, b, off, rfl, s1⟩ := L4.of st hl
  have hbd := O.o_bd HS.1
  have hok := HS.2
  unfold V.okN at hok
  have hlo : O.lo l = O.of l - (O.de l + 1) / 2 := rfl
  have hhi : O.hi l = O.of l + (O.de l + 1) / 2 := rfl
  have HLO := Lib.hid hlo
  have HHI := Lib.hid hhi
  have HV := Lib.hid HS
  clear st hl hlo hhi HS
  go_wp2_with fail
  refine (SPi_yes _ _ _ _ _ _ hv s1.q.here (Nat.le_refl _)).mono ?_
  rintro e w2 ⟨rfl, b2⟩
  have s2 := (s1.b b2).al (.cells #[.int .i64 (O.lo l), .int .i64 (O.hi l)] 30)
  have d2 := C2.new w2 (O.lo l) (O.hi l) 30
  clear s1 b2
  go_wp2_with fail
  refine (SPs_yes _ _ _ _ _ _ hv s2.q.here (Nat.le_refl _)).mono ?_
  rintro e w3 ⟨rfl, b3⟩
  have s3 := (s2.b b3).al (.cells #[.int .i64 (O.lo l), .int .i64 (O.hi l)] 30)
  have d3 := (d2.b b3).al (.cells #[.int .i64 (O.lo l), .int .i64 (O.hi l)] 30)
  have e30 := (d2.b b3).c0
  have e31 := (d2.b b3).c1
  have l31 := (d2.b b3).lt
  have c30 := d3.c0
  have c31 := d3.c1
  have hD : w2.heap.size < w3.heap.size := l31
  clear s2 b3 d2 hv
  go_wp2_with fail
  refine (OFi_yes _ _ _ _ _ _ HV.out.1 s3.q.here (Nat.le_refl _)).mono ?_
  rintro e w4 ⟨rfl, b4⟩
  have s4 := s3.b b4
  have d4 := d3.b b4
  clear s3 d3 b4 c30 c31 e30 e31
  go_wp2_with fail
  refine (DEi_yes _ _ _ _ _ _ HV.out.1 s4.q.here (Nat.le_refl _)).mono ?_
  rintro e w5 ⟨rfl, b5⟩
  have s5 := s4.b b5
  have d5 := d4.b b5
  have c50 := d5.c0
  have c51 := d5.c1
  clear s4 d4 b5
  have g : O.lo l ≤ O.of l ∧ O.of l ≤ O.hi l ∧ (O.hi l - O.lo l = O.de l ∨ O.hi l - O.lo l = O.de l + 1) := by have := HLO.out; have := HHI.out; omega
  obtain ⟨g1, g2, g3⟩ := g
  have hvs := O.vs_one (O.lo l) (O.hi l)
  rw [decide_eq_true HV.out.2] at hvs
  have HVS := Lib.hid hvs
  clear hvs
  generalize O.lo l = x at *
  generalize O.hi l = y at *
  generalize O.of l = f at *
  generalize O.de l = d at *
  rcases g3 with g3 | g3
  · have g4 : (y - x == d) = true := by rw [beq_iff_eq]; exact g3
    clear g3
    go_wp2_with fail
    have hS := spansOne w5 x y 30
    simp only [World.size_alloc] at hS
    refine (vs_impl _ _ _ _ _ _ hS (by simp)).mono ?_
    rintro e w8 ⟨rfl, b8⟩
    have s8 := (s5.al (.cells #[.int .i64 x, .int .i64 y] 30)).b b8
    rw [HVS.out]
    clear s5 d5 c50 c51 hS b8
    go_wp2
    go_ret
    exact ⟨by first | rfl | simp, s8.q.bel⟩
  · have g4 : (y - x == d) = false := by rw [beq_eq_false_iff_ne]; omega
    have g5 : (y - x == d + 1) = true := by rw [beq_iff_eq]; exact g3
    clear g3
    go_wp2_with fail
    have hS := spansOne w5 x y 30
    simp only [World.size_alloc] at hS
    refine (vs_impl _ _ _ _ _ _ hS (by simp)).mono ?_
    rintro e w8 ⟨rfl, b8⟩
    have s8 := (s5.al (.cells #[.int .i64 x, .int .i64 y] 30)).b b8
    rw [HVS.out]
    clear s5 d5 c50 c51 hS b8
    go_wp2
    go_ret
    exact ⟨by first | rfl | simp, s8.q.bel⟩

/-! ### THE ROW's STEP: WRITTEN OUT: LEAVE IT -/
set_option maxRecDepth 100000 in
theorem lifted (os : Os) (started : os.Started) (H : Type) (enc : TypeId × Value → H) :
    ReturnsInHanded {} Try.checked os 6 .any (Rows.fnSpanOfSpec.pre6 enc Try.prog Try.f6 Rows.fnSpanOfRow.domain false) (Rows.fnSpanOfSpec.post enc Try.prog Try.f6 false true false false) := by
  refine returnsInHanded_of_change (C := Try.checked) own started (by kernel_rfl) Try.func6
    (ChangeSpec.witness6 (enc := enc) (C := Try.checked) false ⟨#[], #[.slice none 0 0], []⟩ 8 (by kernel_rfl) (by kernel_rfl) (by kernel_rfl) (by kernel_rfl)) ?_
  intro W base args ds gs before hval0 hW hcnd _
  have hval : ∀ (j : Nat) t v, Try.f6.params[j]? = some t → args[j]? = some v → Value.okWide Try.prog W .any base t v := hval0
  have hW' := hW
  obtain ⟨p, q, hA0, hV, rfl, hfz, hnd⟩ := hW
  have hA : DataW.TrodAll enc Try.prog W 0 (fun _ => true) true Try.f6.params.toList args.toList ds p := hA0
  rw [Try.params6] at hA hval
  obtain ⟨v0, vs0, d0, ds0, p0, q0, hargs, rfl, rfl, h0, r0⟩ := trodAll_cons hA
  obtain ⟨rfl, rfl, rfl⟩ := trodAll_nil r0
  obtain rfl : args = #[v0] := by cases args; simp_all
  obtain ⟨rfl, rfl⟩ := trodVars_none hV
  obtain ⟨a0, len0, cap0, rfl⟩ := okWide_slice Try.underlying22 (hval 0 22 v0 rfl rfl)
  have k0 := h0
  have lt0 : ∀ x ∈ p0, x.block < W.heap.size := by obtain ⟨m, hm⟩ := k0; exact DataW.trod_lt m _ _ _ hm
  obtain ⟨z0, w0⟩ : ∃ zs, IsRow .u8 W a0 len0 cap0 zs := by
    obtain ⟨fuel, hf⟩ := h0
    rcases open_ints Try.underlying22 Try.underlying5 (by kernel_rfl) hf with ⟨hcs, _⟩ | ⟨x, l, c, zs, hcs, _, hl, hm, hz, _, hcell, hwz⟩
    · simp [Value.cells] at hcs
      obtain ⟨rfl, rfl, rfl⟩ := hcs
      exact ⟨[], .inl ⟨rfl, rfl, rfl, rfl⟩⟩
    · simp [Value.cells] at hcs
      obtain ⟨rfl, rfl, rfl⟩ := hcs
      exact ⟨zs, .inr ⟨_, rfl, hl, hm, by simpa using hz, hcell, hwz⟩⟩
  clear hA0 hval0
  refine (walk a0 len0 cap0 z0 W w0).mono fun e W' ⟨he, bel⟩ => ?_
  subst he
  exact ⟨_, rfl, _, _, _, [], _, [], hW', trodAll_mk1 (shut_bool Try.underlying4 _), (trodAll_cons_mk (Below.trod laidOut (by kernel_rfl) (of_decide_eq_true (by kernel_rfl)) k0 bel lt0) trodAll_mk0), rfl, bel.frame _, fun h => by cases h⟩

theorem over : Rows.fnSpanOfRow.holds Try.pinned (OpenSpec.ofChange Rows.fnSpanOfSpec) :=
  OpenClaim.holds_of_wide 6 Try.f6 rfl rfl rfl rfl rfl rfl rfl ⟨rfl, rfl, rfl, rfl, rfl⟩ rfl rfl rfl rfl rfl (by kernel_rfl) Try.func6 (by kernel_rfl)
    (of_decide_eq_true (by kernel_rfl)) (by unfold Func.isWrapper; first | (rw [if_pos (by decide +kernel)]; kernel_rfl) | (rw [if_neg (by decide +kernel)]; exact ⟨rfl, rfl⟩))
    (fun os started H enc _ => lifted os started H enc)

/-- ████ THE STATEMENT ████ -/
theorem proved : Rows.FnSpanOfSaid := over
#print axioms proved
end Go.Proofs.Ytoaldklkacmflaa.fnSpanOf
