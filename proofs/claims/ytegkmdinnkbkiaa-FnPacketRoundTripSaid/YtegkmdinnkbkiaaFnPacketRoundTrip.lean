/-
  PROVED: FnPacketRoundTrip: for every input the law returns true, and the input reads as it did. No condition.
  The frame is as the kit prints it (proof-skeleton.mjs); the walk is mine.
-/
import Derived.Test.YtegkmdinnkbkiaaRows
import Derived.Test.YtegkmdinnkbkiaaCopyD
import Derived.Test.YtegkmdinnkbkiaaFormatS
import Derived.Test.YtegkmdinnkbkiaaDrawPk
import Derived.Test.YtegkmdinnkbkiaaParseI
import Derived.WalkKit
import Derived.ProofKit
import Derived.OpenShut
import Derived.ShutString
import Derived.ChangeOld
import Derived.Below
namespace Go.Proofs.Ytegkmdinnkbkiaa.fnPacketRoundTrip
open Go.ChangeShapes Go.WideShapes Go.ChangeAt Go.RowKit
open Go.ChangeMaps (open_string shut_string)
set_option linter.unusedVariables false

theorem own : ownKnob Try.prog.godebug = none := by kernel_rfl
theorem laidOut : laidOutB Try.prog = true := by kernel_rfl

/-- WHAT THE WALK IS TOLD OF A SLICE OF INTEGERS THAT CAME IN: it is nil; or it leads to a row of 'cap' cells, the numbers 'zs' (the first 'len' are its elements, the rest its spare room), each fitting its kind. -/
def IsRow (k : IntKind) (w : World) (a : Option Addr) (len cap : Nat) (zs : List Int) : Prop :=
  (a = none ∧ len = 0 ∧ cap = 0 ∧ zs = []) ∨
  ∃ x, a = some x ∧ len ≤ cap ∧ cap ≤ maxLen ∧ zs.length = cap ∧ (∀ i, i < zs.length → w.cell? (x.add i) = some (.int k (zs.getD i 0))) ∧ ∀ n ∈ zs, (Lit.int k n).wf = true

/-! ### STEP 1: THE WALK: the Go text returns true, AND WRITES NOTHING THAT WAS THERE: 'Below w.heap.size w w'' (Derived/Below.lean: '.refl', '.alloc', '.drew', '.setCell' at a new block, '.trans'). Open each 'IsRow' by 'rcases' AHEAD of 'go_enter'; part every test ahead of the walk. -/
theorem D.cut_small {v : Int} {n : Nat} (h : 0 ≤ v) : ∀ k, v < 256 ^ (k + n) → D.cut v k < 256 ^ n
  | 0, hk => by rw [Nat.zero_add] at hk; exact hk
  | k + 1, hk => by
    have := D.cut_small (n := n + 1) h k (by rw [show k + (n + 1) = k + 1 + n by omega]; exact hk)
    show D.cut v k / 256 < _
    rw [Int.pow_succ] at this
    omega
theorem D.cut_zero {v : Int} {k : Nat} (h : 0 ≤ v) (hk : v < 256 ^ k) : D.cut v k = 0 := by
  have := D.cut_small (n := 0) h k hk
  have h0 := D.cut_nn h k
  simp at this
  omega
theorem D.num_of {v : Int} {n : Nat} (h : 0 ≤ v) (hk : v < 256 ^ n) : D.num (fun i => D.dg v (n - 1 - i)) n = v := D.num_dg (D.cut_zero h hk)
theorem D.fb_bd {a b c d e f g h : Int} (k : D.Vp a b c d e f g h) (i : Nat) : 0 ≤ D.fb a b c d e f g h i ∧ D.fb a b c d e f g h i < 256 := by
  obtain ⟨h1, h2, h3, h4, _⟩ := k
  unfold D.fb
  repeat' split
  all_goals first | omega | exact D.dg_bd _ _
theorem D.pr_fb {a b c d e f g h : Int} (hv : D.vp a b c d e f g h = true) (k : D.Vp a b c d e f g h) : D.pr 23 (D.fb a b c d e f g h) = .tuple #[.agg #[.int .i64 a, .int .i64 b, .int .i64 c, .int .i64 d, .int .i64 e, .int .i64 f, .int .i64 g, .int .i64 h], .bool true] := by
  obtain ⟨h1, h2, h3, h4, h5, h6, h7, h8⟩ := k
  have s6 := T.vs_of h6
  have s7 := T.vs_of h7
  have s8 := T.vs_of h8
  have e0 : D.fb a b c d e f g h 0 = 64 * a + 32 + b := by simp [D.fb]
  have ea : D.pa (D.fb a b c d e f g h) = a := by unfold D.pa; rw [e0]; omega
  have eb : D.pb (D.fb a b c d e f g h) = b := by unfold D.pb; rw [e0]; omega
  have ec : D.pc (D.fb a b c d e f g h) = c := by simp [D.pc, D.fb]
  have ed : D.pd (D.fb a b c d e f g h) = d := by simp [D.pd, D.fb]
  have ee : D.pe (D.fb a b c d e f g h) = e := by
    refine Eq.trans ?_ (D.num_of (v := e) (n := 2) h5.1 (by omega))
    simp [D.pe, D.num, D.fb]
  have ef : D.pf (D.fb a b c d e f g h) = f := by
    refine Eq.trans ?_ (D.num_of (v := f) (n := 6) (by omega) (by omega))
    simp [D.pf, D.num, D.fb]
  have eg : D.pg (D.fb a b c d e f g h) = g := by
    refine Eq.trans ?_ (D.num_of (v := g) (n := 6) (by omega) (by omega))
    simp [D.pg, D.num, D.fb]
  have eh : D.ph (D.fb a b c d e f g h) = h := by
    refine Eq.trans ?_ (D.num_of (v := h) (n := 6) (by omega) (by omega))
    simp [D.ph, D.num, D.fb]
  have hp : D.Pok 23 (D.fb a b c d e f g h) := ⟨rfl, by rw [e0]; omega, by rw [ea, eb, ec, ed, ee, ef, eg, eh]; exact hv⟩
  rw [D.pr_yes hp, ea, eb, ec, ed, ee, ef, eg, eh]
set_option maxRecDepth 100000 in
set_option maxHeartbeats 8000000 in
theorem walk (a0 : Option Addr) (len0 cap0 : Nat) (z0 : List Int) (w : World) (w0 : IsRow .u8 w a0 len0 cap0 z0) :
    Calls Try.prog 3 #[.slice a0 len0 cap0] w fun e w' => e = .returned (.bool true) ∧ Below w.heap.size w w' := by
  by_cases hl : 1048576 < len0
  · have hl' : (1048576 : Int) < (len0 : Int) := by omega
    clear w0 hl
    go_enter Try.func3, Try.ntmps3
    go_wp2
    go_ret
    exact ⟨rfl, Below.refl _ _⟩
  have hl' : ¬ (1048576 : Int) < (len0 : Int) := by omega
  obtain ⟨hc, hcap⟩ := code_of w0 (by omega)
  clear w0 hl
  go_enter Try.func3, Try.ntmps3
  go_wp2_with fail
  refine (DrawFormatPacket_any w a0 len0 cap0 hc hcap).mono ?_
  rintro e w1 ⟨a, b, c, d, e', f, g, h, rfl, bl⟩
  clear hc hcap
  have x1 := C8.new w1 a b c d e' f g h 24
  have b1 := bl.alloc bl.size (.cells #[.int .i64 a, .int .i64 b, .int .i64 c, .int .i64 d, .int .i64 e', .int .i64 f, .int .i64 g, .int .i64 h] 24)
  clear bl
  have k1 := fun w' => FP_impl a b c d e' f g h w'
  have k2 := fun w' => FP_spec a b c d e' f g h w'
  rcases hv : D.vp a b c d e' f g h with _ | _
  · have K1 : Hid (∀ w', Calls Try.prog 7 #[.agg #[.int .i64 a, .int .i64 b, .int .i64 c, .int .i64 d, .int .i64 e', .int .i64 f, .int .i64 g, .int .i64 h]] w' fun r w'' => r = .returned (.slice none 0 0) ∧ Below w'.heap.size w' w'') :=
      Lib.hid (fun w' => (k1 w').mono fun r w'' hr => by
        rcases hr.2 with ⟨_, h2⟩ | ⟨h1, _⟩
        · exact ⟨h2, hr.1⟩
        · rw [hv] at h1; cases h1)
    have K2 : Hid (∀ w', Calls Try.prog 9 #[.agg #[.int .i64 a, .int .i64 b, .int .i64 c, .int .i64 d, .int .i64 e', .int .i64 f, .int .i64 g, .int .i64 h]] w' fun r w'' => r = .returned (.slice none 0 0) ∧ Below w'.heap.size w' w'') :=
      Lib.hid (fun w' => (k2 w').mono fun r w'' hr => by
        rcases hr.2 with ⟨_, h2⟩ | ⟨h1, _⟩
        · exact ⟨h2, hr.1⟩
        · rw [hv] at h1; cases h1)
    clear k1 k2 hv
    have y0 := x1.c0
    have y1 := x1.c1
    have y2 := x1.c2
    have y3 := x1.c3
    have y4 := x1.c4
    have y5 := x1.c5
    have y6 := x1.c6
    have y7 := x1.c7
    go_wp2_with fail
    refine (K1.out _).mono ?_
    rintro r w2 ⟨rfl, bb⟩
    have x2 := x1.bw bb
    have b2 := b1.trans (bb.mono b1.size)
    clear x1 b1 bb y0 y1 y2 y3 y4 y5 y6 y7
    have y0 := x2.c0
    have y1 := x2.c1
    have y2 := x2.c2
    have y3 := x2.c3
    have y4 := x2.c4
    have y5 := x2.c5
    have y6 := x2.c6
    have y7 := x2.c7
    go_wp2_with fail
    refine (K2.out _).mono ?_
    rintro r w3 ⟨rfl, bb⟩
    have x3 := x2.bw bb
    have b3 := b2.trans (bb.mono b2.size)
    clear x2 b2 bb y0 y1 y2 y3 y4 y5 y6 y7
    go_wp2_with fail
    refine (equalBytes_same w3.heap.size w3.heap.size 0 0 0 none none (fun _ => 0) w3 (.inl rfl) (.inl rfl) (by omega)).mono ?_
    rintro r w4 ⟨rfl, q4⟩
    have x4 := x3.bw q4.below
    have b4 := bel_same b3 q4
    clear x3 b3 q4
    have y0 := x4.c0
    have y1 := x4.c1
    have y2 := x4.c2
    have y3 := x4.c3
    have y4 := x4.c4
    have y5 := x4.c5
    have y6 := x4.c6
    have y7 := x4.c7
    go_wp2_with fail
    refine (K2.out _).mono ?_
    rintro r w5 ⟨rfl, bb⟩
    have x5 := x4.bw bb
    have b5 := b4.trans (bb.mono b4.size)
    clear x4 b4 bb y0 y1 y2 y3 y4 y5 y6 y7
    go_wp2_with fail
    refine (equalBytes_same w5.heap.size w5.heap.size 0 0 0 none none (fun _ => 0) w5 (.inl rfl) (.inl rfl) (by omega)).mono ?_
    rintro r w6 ⟨rfl, q6⟩
    have b6 := bel_same b5 q6
    clear x5 b5 q6
    go_wp2
    go_ret
    exact ⟨ret_bool (by first | rfl | simp), b6⟩
  · have hvp := D.vp_of hv
    have K1 : Hid (∀ w', Calls Try.prog 7 #[.agg #[.int .i64 a, .int .i64 b, .int .i64 c, .int .i64 d, .int .i64 e', .int .i64 f, .int .i64 g, .int .i64 h]] w' fun r w'' => (∃ E, r = .returned (.slice (some ⟨E, 0, none⟩) 23 23) ∧ ∀ i, i < 23 → w''.cell? ⟨E, i, none⟩ = some (.int .u8 (D.fb a b c d e' f g h i))) ∧ Below w'.heap.size w' w'') :=
      Lib.hid (fun w' => (k1 w').mono fun r w'' hr => by
        rcases hr.2 with ⟨h1, _⟩ | ⟨_, E, _, h2, h3⟩
        · rw [hv] at h1; cases h1
        · exact ⟨⟨E, h2, h3.1⟩, hr.1⟩)
    have K2 : Hid (∀ w', Calls Try.prog 9 #[.agg #[.int .i64 a, .int .i64 b, .int .i64 c, .int .i64 d, .int .i64 e', .int .i64 f, .int .i64 g, .int .i64 h]] w' fun r w'' => (∃ E cp, r = .returned (.slice (some ⟨E, 0, none⟩) 23 cp) ∧ ∀ i, i < 23 → w''.cell? ⟨E, i, none⟩ = some (.int .u8 (D.fb a b c d e' f g h i))) ∧ Below w'.heap.size w' w'') :=
      Lib.hid (fun w' => (k2 w').mono fun r w'' hr => by
        rcases hr.2 with ⟨h1, _⟩ | ⟨_, E, cp, _, _, _, h2, h3⟩
        · rw [hv] at h1; cases h1
        · exact ⟨⟨E, cp, h2, h3⟩, hr.1⟩)
    have KP := Lib.hid (fun w' E (hE : Bts w'.heap.size w' (some ⟨E, 0, none⟩) 23 (D.fb a b c d e' f g h)) => PP_impl 23 23 (some ⟨E, 0, none⟩) (D.fb a b c d e' f g h) w' hE (D.fb_bd hvp) (by omega) (by omega))
    simp only [D.pr_fb hv hvp] at KP
    clear k1 k2 hv hvp
    have y0 := x1.c0
    have y1 := x1.c1
    have y2 := x1.c2
    have y3 := x1.c3
    have y4 := x1.c4
    have y5 := x1.c5
    have y6 := x1.c6
    have y7 := x1.c7
    go_wp2_with fail
    refine (K1.out _).mono ?_
    rintro r w2 ⟨⟨E, rfl, hE⟩, bb⟩
    have x2 := x1.bw bb
    have b2 := b1.trans (bb.mono b1.size)
    have hlt := World.block_lt_of_cell? _ _ (hE 0 (by omega))
    clear x1 b1 bb y0 y1 y2 y3 y4 y5 y6 y7
    have y0 := x2.c0
    have y1 := x2.c1
    have y2 := x2.c2
    have y3 := x2.c3
    have y4 := x2.c4
    have y5 := x2.c5
    have y6 := x2.c6
    have y7 := x2.c7
    go_wp2_with fail
    refine (K2.out _).mono ?_
    rintro r w3 ⟨⟨F, cp, rfl, hF⟩, bb⟩
    have x3 := x2.bw bb
    have b3 := b2.trans (bb.mono b2.size)
    have hE3 : ∀ i, i < 23 → w3.cell? ⟨E, i, none⟩ = some (.int .u8 (D.fb a b c d e' f g h i)) := fun i hi => (bb.cell (p := ⟨E, i, none⟩) hlt).trans (hE i hi)
    have hlt3 := World.block_lt_of_cell? _ _ (hE3 0 (by omega))
    have hltF := World.block_lt_of_cell? _ _ (hF 0 (by omega))
    clear x2 b2 bb y0 y1 y2 y3 y4 y5 y6 y7 hE hlt
    go_wp2_with fail
    refine (equalBytes_same w3.heap.size w3.heap.size 23 23 cp (some ⟨E, 0, none⟩) (some ⟨F, 0, none⟩) (D.fb a b c d e' f g h) w3 (.inr ⟨E, 0, rfl, hlt3, fun i hi => by rw [Nat.zero_add]; exact hE3 i hi⟩) (.inr ⟨F, 0, rfl, hltF, fun i hi => by rw [Nat.zero_add]; exact hF i hi⟩) (by omega)).mono ?_
    rintro r w4 ⟨rfl, q4⟩
    have x4 := x3.bw q4.below
    have b4 := bel_same b3 q4
    have hE4 : Bts w4.heap.size w4 (some ⟨E, 0, none⟩) 23 (D.fb a b c d e' f g h) := .inr ⟨E, 0, rfl, (by obtain ⟨k, rfl⟩ := q4; exact hlt3), fun i hi => by rw [Nat.zero_add]; obtain ⟨k, rfl⟩ := q4; exact hE3 i hi⟩
    clear x3 b3 q4 hE3 hF hlt3 hltF
    go_wp2_with fail
    refine (KP.out _ _ hE4).mono ?_
    rintro r w5 ⟨rfl, bb⟩
    have x5 := x4.bw bb
    have b5 := (b4.trans (bb.mono b4.size)).alloc (b4.trans (bb.mono b4.size)).size (Obj.cells #[.int .i64 a, .int .i64 b, .int .i64 c, .int .i64 d, .int .i64 e', .int .i64 f, .int .i64 g, .int .i64 h] 24)
    clear x4 b4 bb hE4
    have y0 := x5.c0
    have y1 := x5.c1
    have y2 := x5.c2
    have y3 := x5.c3
    have y4 := x5.c4
    have y5 := x5.c5
    have y6 := x5.c6
    have y7 := x5.c7
    have ylt := x5.lt
    clear x5
    go_wp2
    go_ret
    exact ⟨ret_bool (by first | rfl | (simp; done)), b5⟩

/-! ### THE ROW's STEP: WRITTEN OUT: LEAVE IT -/
set_option maxRecDepth 100000 in
theorem lifted (os : Os) (started : os.Started) (H : Type) (enc : TypeId × Value → H) :
    ReturnsInHanded {} Try.checked os 3 .any (Rows.fnPacketRoundTripSpec.pre6 enc Try.prog Try.f3 Rows.fnPacketRoundTripRow.domain false) (Rows.fnPacketRoundTripSpec.post enc Try.prog Try.f3 false true false false) := by
  refine returnsInHanded_of_change (C := Try.checked) own started (by kernel_rfl) Try.func3
    (ChangeSpec.witness6 (enc := enc) (C := Try.checked) false ⟨#[], #[.slice none 0 0], []⟩ 8 (by kernel_rfl) (by kernel_rfl) (by kernel_rfl) (by kernel_rfl)) ?_
  intro W base args ds gs before hval0 hW hcnd _
  have hval : ∀ (j : Nat) t v, Try.f3.params[j]? = some t → args[j]? = some v → Value.okWide Try.prog W .any base t v := hval0
  have hW' := hW
  obtain ⟨p, q, hA0, hV, rfl, hfz, hnd⟩ := hW
  have hA : DataW.TrodAll enc Try.prog W 0 (fun _ => true) true Try.f3.params.toList args.toList ds p := hA0
  rw [Try.params3] at hA hval
  obtain ⟨v0, vs0, d0, ds0, p0, q0, hargs, rfl, rfl, h0, r0⟩ := trodAll_cons hA
  obtain ⟨rfl, rfl, rfl⟩ := trodAll_nil r0
  obtain rfl : args = #[v0] := by cases args; simp_all
  obtain ⟨rfl, rfl⟩ := trodVars_none hV
  obtain ⟨a0, len0, cap0, rfl⟩ := okWide_slice Try.underlying22 (hval 0 22 v0 rfl rfl)
  have k0 := h0
  have lt0 : ∀ x ∈ p0, x.block < W.heap.size := by obtain ⟨m, hm⟩ := k0; exact DataW.trod_lt m _ _ _ hm
  obtain ⟨z0, w0⟩ : ∃ zs, IsRow .u8 W a0 len0 cap0 zs := by
    obtain ⟨fuel, hf⟩ := h0
    rcases open_ints Try.underlying22 Try.underlying5 (by kernel_rfl) hf with ⟨hcs, _⟩ | ⟨x, l, c, zs, hcs, _, hl, hm, hz, _, hcell, hwz⟩
    · simp [Value.cells] at hcs
      obtain ⟨rfl, rfl, rfl⟩ := hcs
      exact ⟨[], .inl ⟨rfl, rfl, rfl, rfl⟩⟩
    · simp [Value.cells] at hcs
      obtain ⟨rfl, rfl, rfl⟩ := hcs
      exact ⟨zs, .inr ⟨_, rfl, hl, hm, by simpa using hz, hcell, hwz⟩⟩
  clear hA0 hval0
  refine (walk a0 len0 cap0 z0 W w0).mono fun e W' ⟨he, bel⟩ => ?_
  subst he
  exact ⟨_, rfl, _, _, _, [], _, [], hW', trodAll_mk1 (shut_bool Try.underlying4 _), (trodAll_cons_mk (Below.trod laidOut (by kernel_rfl) (of_decide_eq_true (by kernel_rfl)) k0 bel lt0) trodAll_mk0), rfl, bel.frame _, fun h => by cases h⟩

theorem over : Rows.fnPacketRoundTripRow.holds Try.pinned (OpenSpec.ofChange Rows.fnPacketRoundTripSpec) :=
  OpenClaim.holds_of_wide 3 Try.f3 rfl rfl rfl rfl rfl rfl rfl ⟨rfl, rfl, rfl, rfl, rfl⟩ rfl rfl rfl rfl rfl (by kernel_rfl) Try.func3 (by kernel_rfl)
    (of_decide_eq_true (by kernel_rfl)) (by unfold Func.isWrapper; first | (rw [if_pos (by decide +kernel)]; kernel_rfl) | (rw [if_neg (by decide +kernel)]; exact ⟨rfl, rfl⟩))
    (fun os started H enc _ => lifted os started H enc)

/-- ████ THE STATEMENT ████ -/
theorem proved : Rows.FnPacketRoundTripSaid := over
#print axioms proved
end Go.Proofs.Ytegkmdinnkbkiaa.fnPacketRoundTrip
