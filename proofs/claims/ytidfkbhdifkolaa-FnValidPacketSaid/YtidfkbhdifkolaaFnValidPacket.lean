/-
  PROVED: FnValidPacket: for every input the law returns true, and the input reads as it did. No condition.
  The frame is as the kit prints it (proof-skeleton.mjs); the walk is mine.
-/
import Derived.Test.YtidfkbhdifkolaaRows
import Derived.Test.YtidfkbhdifkolaaCopyD
import Derived.Test.YtidfkbhdifkolaaFormat
import Derived.Test.YtidfkbhdifkolaaDrawPk
import Derived.WalkKit
import Derived.ProofKit
import Derived.OpenShut
import Derived.ShutString
import Derived.ChangeOld
import Derived.Below
namespace Go.Proofs.Ytidfkbhdifkolaa.fnValidPacket
open Go.ChangeShapes Go.WideShapes Go.ChangeAt Go.RowKit
open Go.ChangeMaps (open_string shut_string)
set_option linter.unusedVariables false

theorem own : ownKnob Try.prog.godebug = none := by kernel_rfl
theorem laidOut : laidOutB Try.prog = true := by kernel_rfl

/-- WHAT THE WALK IS TOLD OF A SLICE OF INTEGERS THAT CAME IN: it is nil; or it leads to a row of 'cap' cells, the numbers 'zs' (the first 'len' are its elements, the rest its spare room), each fitting its kind. -/
def IsRow (k : IntKind) (w : World) (a : Option Addr) (len cap : Nat) (zs : List Int) : Prop :=
  (a = none ∧ len = 0 ∧ cap = 0 ∧ zs = []) ∨
  ∃ x, a = some x ∧ len ≤ cap ∧ cap ≤ maxLen ∧ zs.length = cap ∧ (∀ i, i < zs.length → w.cell? (x.add i) = some (.int k (zs.getD i 0))) ∧ ∀ n ∈ zs, (Lit.int k n).wf = true

/-! ### STEP 1: THE WALK: the Go text returns true, AND WRITES NOTHING THAT WAS THERE: 'Below w.heap.size w w'' (Derived/Below.lean: '.refl', '.alloc', '.drew', '.setCell' at a new block, '.trans'). Open each 'IsRow' by 'rcases' AHEAD of 'go_enter'; part every test ahead of the walk. -/
set_option maxRecDepth 100000 in
set_option maxHeartbeats 2000000 in
theorem walk (a0 : Option Addr) (len0 cap0 : Nat) (z0 : List Int) (w : World) (w0 : IsRow .u8 w a0 len0 cap0 z0) :
    Calls Try.prog 3 #[.slice a0 len0 cap0] w fun e w' => e = .returned (.bool true) ∧ Below w.heap.size w w' := by
  by_cases hl : 1048576 < len0
  · have hl' : (1048576 : Int) < (len0 : Int) := by omega
    clear w0 hl
    go_enter Try.func3, Try.ntmps3
    go_wp2
    go_ret
    exact ⟨rfl, Below.refl _ _⟩
  have hl' : ¬ (1048576 : Int) < (len0 : Int) := by omega
  obtain ⟨hc, hcap⟩ := code_of w0 (by omega)
  clear w0 hl
  go_enter Try.func3, Try.ntmps3
  go_wp2_with fail
  refine (DrawValidPacket_any w a0 len0 cap0 hc hcap).mono ?_
  rintro e w1 ⟨a, b, c, d, e', f, g, h, rfl, bl⟩
  clear hc hcap
  have x1 := C8.new w1 a b c d e' f g h 24
  have b1 := bl.alloc bl.size (.cells #[.int .i64 a, .int .i64 b, .int .i64 c, .int .i64 d, .int .i64 e', .int .i64 f, .int .i64 g, .int .i64 h] 24)
  clear bl
  have k1 := fun w' => vp_impl a b c d e' f g h w'
  have k2 := fun w' => FP_impl a b c d e' f g h w'
  have k3 := fun w' => VP_spec a b c d e' f g h w'
  rcases hv : D.vp a b c d e' f g h with _ | _
  · simp only [hv] at k1 k3
    have K1 := Lib.hid k1
    have K3 := Lib.hid k3
    have K2 : Hid (∀ w', Calls Try.prog 12 #[.agg #[.int .i64 a, .int .i64 b, .int .i64 c, .int .i64 d, .int .i64 e', .int .i64 f, .int .i64 g, .int .i64 h]] w' fun r w'' => r = .returned (.slice none 0 0) ∧ Below w'.heap.size w' w'') :=
      Lib.hid (fun w' => (k2 w').mono fun r w'' hr => by
        rcases hr.2 with ⟨_, h2⟩ | ⟨h1, _⟩
        · exact ⟨h2, hr.1⟩
        · rw [hv] at h1; cases h1)
    clear k1 k2 k3 hv
    have y0 := x1.c0
    have y1 := x1.c1
    have y2 := x1.c2
    have y3 := x1.c3
    have y4 := x1.c4
    have y5 := x1.c5
    have y6 := x1.c6
    have y7 := x1.c7
    go_wp2_with fail
    refine (K1.out _).mono ?_
    rintro r w2 ⟨rfl, bb⟩
    have x2 := x1.bw bb
    have b2 := b1.trans (bb.mono b1.size)
    clear x1 b1 bb y0 y1 y2 y3 y4 y5 y6 y7
    have y0 := x2.c0
    have y1 := x2.c1
    have y2 := x2.c2
    have y3 := x2.c3
    have y4 := x2.c4
    have y5 := x2.c5
    have y6 := x2.c6
    have y7 := x2.c7
    go_wp2_with fail
    refine (K2.out _).mono ?_
    rintro r w3 ⟨rfl, bb⟩
    have x3 := x2.bw bb
    have b3 := b2.trans (bb.mono b2.size)
    clear x2 b2 bb y0 y1 y2 y3 y4 y5 y6 y7
    have y0 := x3.c0
    have y1 := x3.c1
    have y2 := x3.c2
    have y3 := x3.c3
    have y4 := x3.c4
    have y5 := x3.c5
    have y6 := x3.c6
    have y7 := x3.c7
    go_wp2_with fail
    refine (K3.out _).mono ?_
    rintro r w4 ⟨rfl, bb⟩
    have x4 := x3.bw bb
    have b4 := b3.trans (bb.mono b3.size)
    clear x3 b3 bb y0 y1 y2 y3 y4 y5 y6 y7
    go_wp2
    go_ret
    exact ⟨ret_bool (by first | rfl | simp), b4⟩
  · simp only [hv] at k1 k3
    have K1 := Lib.hid k1
    have K3 := Lib.hid k3
    have K2 : Hid (∀ w', Calls Try.prog 12 #[.agg #[.int .i64 a, .int .i64 b, .int .i64 c, .int .i64 d, .int .i64 e', .int .i64 f, .int .i64 g, .int .i64 h]] w' fun r w'' => (∃ E, r = .returned (.slice (some ⟨E, 0, none⟩) 23 23)) ∧ Below w'.heap.size w' w'') :=
      Lib.hid (fun w' => (k2 w').mono fun r w'' hr => by
        rcases hr.2 with ⟨h1, _⟩ | ⟨_, E, _, h2, _⟩
        · rw [hv] at h1; cases h1
        · exact ⟨⟨E, h2⟩, hr.1⟩)
    clear k1 k2 k3 hv
    have y0 := x1.c0
    have y1 := x1.c1
    have y2 := x1.c2
    have y3 := x1.c3
    have y4 := x1.c4
    have y5 := x1.c5
    have y6 := x1.c6
    have y7 := x1.c7
    go_wp2_with fail
    refine (K1.out _).mono ?_
    rintro r w2 ⟨rfl, bb⟩
    have x2 := x1.bw bb
    have b2 := b1.trans (bb.mono b1.size)
    clear x1 b1 bb y0 y1 y2 y3 y4 y5 y6 y7
    have y0 := x2.c0
    have y1 := x2.c1
    have y2 := x2.c2
    have y3 := x2.c3
    have y4 := x2.c4
    have y5 := x2.c5
    have y6 := x2.c6
    have y7 := x2.c7
    go_wp2_with fail
    refine (K2.out _).mono ?_
    rintro r w3 ⟨⟨E, rfl⟩, bb⟩
    have x3 := x2.bw bb
    have b3 := b2.trans (bb.mono b2.size)
    clear x2 b2 bb y0 y1 y2 y3 y4 y5 y6 y7
    have y0 := x3.c0
    have y1 := x3.c1
    have y2 := x3.c2
    have y3 := x3.c3
    have y4 := x3.c4
    have y5 := x3.c5
    have y6 := x3.c6
    have y7 := x3.c7
    go_wp2_with fail
    refine (K3.out _).mono ?_
    rintro r w4 ⟨rfl, bb⟩
    have x4 := x3.bw bb
    have b4 := b3.trans (bb.mono b3.size)
    clear x3 b3 bb y0 y1 y2 y3 y4 y5 y6 y7
    go_wp2
    go_ret
    exact ⟨ret_bool (by first | rfl | simp), b4⟩

/-! ### THE ROW's STEP: WRITTEN OUT: LEAVE IT -/
set_option maxRecDepth 100000 in
theorem lifted (os : Os) (started : os.Started) (H : Type) (enc : TypeId × Value → H) :
    ReturnsInHanded {} Try.checked os 3 .any (Rows.fnValidPacketSpec.pre6 enc Try.prog Try.f3 Rows.fnValidPacketRow.domain false) (Rows.fnValidPacketSpec.post enc Try.prog Try.f3 false true false false) := by
  refine returnsInHanded_of_change (C := Try.checked) own started (by kernel_rfl) Try.func3
    (ChangeSpec.witness6 (enc := enc) (C := Try.checked) false ⟨#[], #[.slice none 0 0], []⟩ 8 (by kernel_rfl) (by kernel_rfl) (by kernel_rfl) (by kernel_rfl)) ?_
  intro W base args ds gs before hval0 hW hcnd _
  have hval : ∀ (j : Nat) t v, Try.f3.params[j]? = some t → args[j]? = some v → Value.okWide Try.prog W .any base t v := hval0
  have hW' := hW
  obtain ⟨p, q, hA0, hV, rfl, hfz, hnd⟩ := hW
  have hA : DataW.TrodAll enc Try.prog W 0 (fun _ => true) true Try.f3.params.toList args.toList ds p := hA0
  rw [Try.params3] at hA hval
  obtain ⟨v0, vs0, d0, ds0, p0, q0, hargs, rfl, rfl, h0, r0⟩ := trodAll_cons hA
  obtain ⟨rfl, rfl, rfl⟩ := trodAll_nil r0
  obtain rfl : args = #[v0] := by cases args; simp_all
  obtain ⟨rfl, rfl⟩ := trodVars_none hV
  obtain ⟨a0, len0, cap0, rfl⟩ := okWide_slice Try.underlying22 (hval 0 22 v0 rfl rfl)
  have k0 := h0
  have lt0 : ∀ x ∈ p0, x.block < W.heap.size := by obtain ⟨m, hm⟩ := k0; exact DataW.trod_lt m _ _ _ hm
  obtain ⟨z0, w0⟩ : ∃ zs, IsRow .u8 W a0 len0 cap0 zs := by
    obtain ⟨fuel, hf⟩ := h0
    rcases open_ints Try.underlying22 Try.underlying5 (by kernel_rfl) hf with ⟨hcs, _⟩ | ⟨x, l, c, zs, hcs, _, hl, hm, hz, _, hcell, hwz⟩
    · simp [Value.cells] at hcs
      obtain ⟨rfl, rfl, rfl⟩ := hcs
      exact ⟨[], .inl ⟨rfl, rfl, rfl, rfl⟩⟩
    · simp [Value.cells] at hcs
      obtain ⟨rfl, rfl, rfl⟩ := hcs
      exact ⟨zs, .inr ⟨_, rfl, hl, hm, by simpa using hz, hcell, hwz⟩⟩
  clear hA0 hval0
  refine (walk a0 len0 cap0 z0 W w0).mono fun e W' ⟨he, bel⟩ => ?_
  subst he
  exact ⟨_, rfl, _, _, _, [], _, [], hW', trodAll_mk1 (shut_bool Try.underlying4 _), (trodAll_cons_mk (Below.trod laidOut (by kernel_rfl) (of_decide_eq_true (by kernel_rfl)) k0 bel lt0) trodAll_mk0), rfl, bel.frame _, fun h => by cases h⟩

theorem over : Rows.fnValidPacketRow.holds Try.pinned (OpenSpec.ofChange Rows.fnValidPacketSpec) :=
  OpenClaim.holds_of_wide 3 Try.f3 rfl rfl rfl rfl rfl rfl rfl ⟨rfl, rfl, rfl, rfl, rfl⟩ rfl rfl rfl rfl rfl (by kernel_rfl) Try.func3 (by kernel_rfl)
    (of_decide_eq_true (by kernel_rfl)) (by unfold Func.isWrapper; first | (rw [if_pos (by decide +kernel)]; kernel_rfl) | (rw [if_neg (by decide +kernel)]; exact ⟨rfl, rfl⟩))
    (fun os started H enc _ => lifted os started H enc)

/-- ████ THE STATEMENT ████ -/
theorem proved : Rows.FnValidPacketSaid := over
#print axioms proved
end Go.Proofs.Ytidfkbhdifkolaa.fnValidPacket
