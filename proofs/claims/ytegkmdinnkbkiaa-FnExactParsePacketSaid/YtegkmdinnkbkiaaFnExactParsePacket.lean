/-
  PROVED: FnExactParsePacket: for every input the law returns true, and the input reads as it did. No condition.
  The frame is as the kit prints it (proof-skeleton.mjs); the walk is mine.
-/
import Derived.Test.YtegkmdinnkbkiaaRows
import Derived.Test.YtegkmdinnkbkiaaCopyB
import Derived.Test.YtegkmdinnkbkiaaCopyD
import Derived.Test.YtegkmdinnkbkiaaParseI
import Derived.Test.YtegkmdinnkbkiaaParseS
import Derived.Test.YtegkmdinnkbkiaaDraw
import Derived.WalkKit
import Derived.ProofKit
import Derived.OpenShut
import Derived.ShutString
import Derived.ChangeOld
import Derived.Below
namespace Go.Proofs.Ytegkmdinnkbkiaa.fnExactParsePacket
open Go.ChangeShapes Go.WideShapes Go.ChangeAt Go.RowKit
open Go.ChangeMaps (open_string shut_string)
set_option linter.unusedVariables false

theorem own : ownKnob Try.prog.godebug = none := by kernel_rfl
theorem laidOut : laidOutB Try.prog = true := by kernel_rfl

/-- WHAT THE WALK IS TOLD OF A SLICE OF INTEGERS THAT CAME IN: it is nil; or it leads to a row of 'cap' cells, the numbers 'zs' (the first 'len' are its elements, the rest its spare room), each fitting its kind. -/
def IsRow (k : IntKind) (w : World) (a : Option Addr) (len cap : Nat) (zs : List Int) : Prop :=
  (a = none ∧ len = 0 ∧ cap = 0 ∧ zs = []) ∨
  ∃ x, a = some x ∧ len ≤ cap ∧ cap ≤ maxLen ∧ zs.length = cap ∧ (∀ i, i < zs.length → w.cell? (x.add i) = some (.int k (zs.getD i 0))) ∧ ∀ n ∈ zs, (Lit.int k n).wf = true

/-! ### STEP 1: THE WALK: the Go text returns true, AND WRITES NOTHING THAT WAS THERE: 'Below w.heap.size w w'' (Derived/Below.lean: '.refl', '.alloc', '.drew', '.setCell' at a new block, '.trans'). Open each 'IsRow' by 'rcases' AHEAD of 'go_enter'; part every test ahead of the walk. -/
set_option maxRecDepth 100000 in
set_option maxHeartbeats 8000000 in
theorem walk (a0 : Option Addr) (len0 cap0 : Nat) (z0 : List Int) (w : World) (w0 : IsRow .u8 w a0 len0 cap0 z0) :
    Calls Try.prog 5 #[.slice a0 len0 cap0] w fun e w' => e = .returned (.bool true) ∧ Below w.heap.size w w' := by
  by_cases hl : 1048576 < len0
  · have hl' : (1048576 : Int) < (len0 : Int) := by omega
    clear w0 hl
    go_enter Try.func5, Try.ntmps5
    go_wp2
    go_ret
    exact ⟨rfl, Below.refl _ _⟩
  have hl' : ¬ (1048576 : Int) < (len0 : Int) := by omega
  have hm : len0 ≤ 1048576 := by omega
  obtain ⟨hc, hcap⟩ := code_of w0 (by omega)
  obtain ⟨f, hB, hf⟩ := bts_of (hc.2.2 len0 (Nat.le_refl _))
  obtain ⟨xa, xb, xc, xd, xe, xf, xg, xh, o, hp⟩ : ∃ xa xb xc xd xe xf xg xh o, D.pr len0 f = .tuple #[.agg #[.int .i64 xa, .int .i64 xb, .int .i64 xc, .int .i64 xd, .int .i64 xe, .int .i64 xf, .int .i64 xg, .int .i64 xh], .bool o] := by
    unfold D.pr; split <;> exact ⟨_, _, _, _, _, _, _, _, _, rfl⟩
  have KI := Lib.hid (fun (G : Nat) (w' : World) (h : Bts w'.heap.size w' (some ⟨G, 0, none⟩) len0 f) => PP_impl len0 len0 (some ⟨G, 0, none⟩) f w' h hf hm (Nat.le_refl _))
  have KS := Lib.hid (fun (G : Nat) (w' : World) (h : Bts w'.heap.size w' (some ⟨G, 0, none⟩) len0 f) => PP_spec len0 len0 (some ⟨G, 0, none⟩) f w' h hf hm (Nat.le_refl _))
  simp only [hp] at KI KS
  have HM := Lib.hid hm
  clear w0 hl hc hp hf hm
  go_enter Try.func5, Try.ntmps5
  go_wp2_with fail
  refine (toByteS_some _ _ _ f _ hB HM.out).mono ?_
  rintro e w1 ⟨G1, rfl, hX1, hA1, b1⟩
  clear hB
  go_wp2_with fail
  refine (KS.out _ _ hX1).mono ?_
  rintro e w2 ⟨rfl, bb⟩
  have bz := (b1.trans (bb.mono b1.size))
  have al := (Below.refl w2.heap.size w2).alloc (Nat.le_refl _) (Obj.cells #[.int .i64 xa, .int .i64 xb, .int .i64 xc, .int .i64 xd, .int .i64 xe, .int .i64 xf, .int .i64 xg, .int .i64 xh] 24)
  have x2 := C8.new w2 xa xb xc xd xe xf xg xh 24
  have hA2 := (hA1.go bb).go al
  have b2 := bz.trans (al.mono bz.size)
  clear hX1 hA1 b1 bb bz al
  go_wp2_with fail
  refine (toByteS_some _ _ _ f _ hA2 HM.out).mono ?_
  rintro e w3 ⟨G3, rfl, hX3, hA3, bb⟩
  have x3 := x2.bw bb
  have b3 := b2.trans (bb.mono b2.size)
  clear x2 hA2 b2 bb
  go_wp2_with fail
  refine (KI.out _ _ hX3).mono ?_
  rintro e w4 ⟨rfl, bb⟩
  have bz := (b3.trans (bb.mono b3.size))
  have al := (Below.refl w4.heap.size w4).alloc (Nat.le_refl _) (Obj.cells #[.int .i64 xa, .int .i64 xb, .int .i64 xc, .int .i64 xd, .int .i64 xe, .int .i64 xf, .int .i64 xg, .int .i64 xh] 24)
  have hA4 := (hA3.go bb).go al
  have hX4 := (hX3.go bb).go al
  have x4 := x3.bw bb
  have b4 := bz.trans (al.mono bz.size)
  clear hX3 hA3 b3 bb bz al x3
  have y0 := x4.c0
  have y1 := x4.c1
  have y2 := x4.c2
  have y3 := x4.c3
  have y4 := x4.c4
  have y5 := x4.c5
  have y6 := x4.c6
  have y7 := x4.c7
  have ylt := x4.lt
  clear x4
  go_wp2_with fail
  refine (eqPacket_same xa xb xc xd xe xf xg xh _).mono ?_
  rintro e w5 ⟨rfl, bb⟩
  have hA5 := hA4.go bb
  have hX5 := hX4.go bb
  have b5 := b4.trans (bb.mono b4.size)
  clear hA4 hX4 b4 bb y0 y1 y2 y3 y4 y5 y6 y7 ylt
  go_wp2_with fail
  refine (toByteS_some _ _ _ f _ hA5 HM.out).mono ?_
  rintro e w6 ⟨G6, rfl, hY6, hA6, bb⟩
  have hX6 := hX5.go bb
  have b6 := b5.trans (bb.mono b5.size)
  clear hA5 hX5 b5 bb hA6
  go_wp2_with fail
  refine (eqByteS_same w6.heap.size w6.heap.size len0 len0 len0 _ _ f w6 hX6 hY6 HM.out).mono ?_
  rintro e w7 ⟨rfl, q7⟩
  have b7 := b6.trans ((q7.below (B := w6.heap.size)).mono b6.size)
  clear hX6 hY6 b6 q7
  go_wp2
  go_ret
  exact ⟨ret_bool (by first | rfl | (simp; done)), b7⟩

/-! ### THE ROW's STEP: WRITTEN OUT: LEAVE IT -/
set_option maxRecDepth 100000 in
theorem lifted (os : Os) (started : os.Started) (H : Type) (enc : TypeId × Value → H) :
    ReturnsInHanded {} Try.checked os 5 .any (Rows.fnExactParsePacketSpec.pre6 enc Try.prog Try.f5 Rows.fnExactParsePacketRow.domain false) (Rows.fnExactParsePacketSpec.post enc Try.prog Try.f5 false true false false) := by
  refine returnsInHanded_of_change (C := Try.checked) own started (by kernel_rfl) Try.func5
    (ChangeSpec.witness6 (enc := enc) (C := Try.checked) false ⟨#[], #[.slice none 0 0], []⟩ 8 (by kernel_rfl) (by kernel_rfl) (by kernel_rfl) (by kernel_rfl)) ?_
  intro W base args ds gs before hval0 hW hcnd _
  have hval : ∀ (j : Nat) t v, Try.f5.params[j]? = some t → args[j]? = some v → Value.okWide Try.prog W .any base t v := hval0
  have hW' := hW
  obtain ⟨p, q, hA0, hV, rfl, hfz, hnd⟩ := hW
  have hA : DataW.TrodAll enc Try.prog W 0 (fun _ => true) true Try.f5.params.toList args.toList ds p := hA0
  rw [Try.params5] at hA hval
  obtain ⟨v0, vs0, d0, ds0, p0, q0, hargs, rfl, rfl, h0, r0⟩ := trodAll_cons hA
  obtain ⟨rfl, rfl, rfl⟩ := trodAll_nil r0
  obtain rfl : args = #[v0] := by cases args; simp_all
  obtain ⟨rfl, rfl⟩ := trodVars_none hV
  obtain ⟨a0, len0, cap0, rfl⟩ := okWide_slice Try.underlying22 (hval 0 22 v0 rfl rfl)
  have k0 := h0
  have lt0 : ∀ x ∈ p0, x.block < W.heap.size := by obtain ⟨m, hm⟩ := k0; exact DataW.trod_lt m _ _ _ hm
  obtain ⟨z0, w0⟩ : ∃ zs, IsRow .u8 W a0 len0 cap0 zs := by
    obtain ⟨fuel, hf⟩ := h0
    rcases open_ints Try.underlying22 Try.underlying5 (by kernel_rfl) hf with ⟨hcs, _⟩ | ⟨x, l, c, zs, hcs, _, hl, hm, hz, _, hcell, hwz⟩
    · simp [Value.cells] at hcs
      obtain ⟨rfl, rfl, rfl⟩ := hcs
      exact ⟨[], .inl ⟨rfl, rfl, rfl, rfl⟩⟩
    · simp [Value.cells] at hcs
      obtain ⟨rfl, rfl, rfl⟩ := hcs
      exact ⟨zs, .inr ⟨_, rfl, hl, hm, by simpa using hz, hcell, hwz⟩⟩
  clear hA0 hval0
  refine (walk a0 len0 cap0 z0 W w0).mono fun e W' ⟨he, bel⟩ => ?_
  subst he
  exact ⟨_, rfl, _, _, _, [], _, [], hW', trodAll_mk1 (shut_bool Try.underlying4 _), (trodAll_cons_mk (Below.trod laidOut (by kernel_rfl) (of_decide_eq_true (by kernel_rfl)) k0 bel lt0) trodAll_mk0), rfl, bel.frame _, fun h => by cases h⟩

theorem over : Rows.fnExactParsePacketRow.holds Try.pinned (OpenSpec.ofChange Rows.fnExactParsePacketSpec) :=
  OpenClaim.holds_of_wide 5 Try.f5 rfl rfl rfl rfl rfl rfl rfl ⟨rfl, rfl, rfl, rfl, rfl⟩ rfl rfl rfl rfl rfl (by kernel_rfl) Try.func5 (by kernel_rfl)
    (of_decide_eq_true (by kernel_rfl)) (by unfold Func.isWrapper; first | (rw [if_pos (by decide +kernel)]; kernel_rfl) | (rw [if_neg (by decide +kernel)]; exact ⟨rfl, rfl⟩))
    (fun os started H enc _ => lifted os started H enc)

/-- ████ THE STATEMENT ████ -/
theorem proved : Rows.FnExactParsePacketSaid := over
#print axioms proved
end Go.Proofs.Ytegkmdinnkbkiaa.fnExactParsePacket
