/-
  PROVED: FnPacketCanonical: for every input the law returns true, and the input reads as it did. No condition.
  The frame is as the kit prints it (proof-skeleton.mjs); the walk is mine.
-/
import Derived.Test.YtegkmdinnkbkiaaRows
import Derived.Test.YtegkmdinnkbkiaaDrawB
import Derived.Test.YtegkmdinnkbkiaaParseI
import Derived.Test.YtegkmdinnkbkiaaParseS
import Derived.Test.YtegkmdinnkbkiaaCanon
import Derived.Test.YtegkmdinnkbkiaaFormat
import Derived.Test.YtegkmdinnkbkiaaCopyD
import Derived.WalkKit
import Derived.ProofKit
import Derived.OpenShut
import Derived.ShutString
import Derived.ChangeOld
import Derived.Below
namespace Go.Proofs.Ytegkmdinnkbkiaa.fnPacketCanonical
open Go.ChangeShapes Go.WideShapes Go.ChangeAt Go.RowKit
open Go.ChangeMaps (open_string shut_string)
set_option linter.unusedVariables false

theorem own : ownKnob Try.prog.godebug = none := by kernel_rfl
theorem laidOut : laidOutB Try.prog = true := by kernel_rfl

/-- WHAT THE WALK IS TOLD OF A SLICE OF INTEGERS THAT CAME IN: it is nil; or it leads to a row of 'cap' cells, the numbers 'zs' (the first 'len' are its elements, the rest its spare room), each fitting its kind. -/
def IsRow (k : IntKind) (w : World) (a : Option Addr) (len cap : Nat) (zs : List Int) : Prop :=
  (a = none ∧ len = 0 ∧ cap = 0 ∧ zs = []) ∨
  ∃ x, a = some x ∧ len ≤ cap ∧ cap ≤ maxLen ∧ zs.length = cap ∧ (∀ i, i < zs.length → w.cell? (x.add i) = some (.int k (zs.getD i 0))) ∧ ∀ n ∈ zs, (Lit.int k n).wf = true

/-! ### STEP 1: THE WALK: the Go text returns true, AND WRITES NOTHING THAT WAS THERE: 'Below w.heap.size w w'' (Derived/Below.lean: '.refl', '.alloc', '.drew', '.setCell' at a new block, '.trans'). Open each 'IsRow' by 'rcases' AHEAD of 'go_enter'; part every test ahead of the walk. -/
set_option maxRecDepth 100000 in
set_option maxHeartbeats 8000000 in
theorem walk (a0 : Option Addr) (len0 cap0 : Nat) (z0 : List Int) (w : World) (w0 : IsRow .u8 w a0 len0 cap0 z0) :
    Calls Try.prog 4 #[.slice a0 len0 cap0] w fun e w' => e = .returned (.bool true) ∧ Below w.heap.size w w' := by
  by_cases hl : 1048576 < len0
  · have hl' : (1048576 : Int) < (len0 : Int) := by omega
    clear w0 hl
    go_enter Try.func4, Try.ntmps4
    go_wp2
    go_ret
    exact ⟨rfl, Below.refl _ _⟩
  have hl' : ¬ (1048576 : Int) < (len0 : Int) := by omega
  obtain ⟨hc, hcap⟩ := code_of w0 (by omega)
  clear w0 hl
  go_enter Try.func4, Try.ntmps4
  go_wp2_with fail
  refine (DrawParsePacket_any w a0 len0 cap0 hc hcap).mono ?_
  rintro e w1 ⟨a, n, c, f, rfl, hn, hnc, hB, hf, bl⟩
  clear hc hcap
  have hm : n ≤ 1048576 := by omega
  have KI := PP_impl n c a f w1 hB hf hm hnc
  have KS := fun w' (h : Bts w'.heap.size w' a n f) => PP_spec n c a f w' h hf hm hnc
  by_cases hP : D.Pok n f
  · obtain ⟨rfl, hver, hvp⟩ := id hP
    have HFB := Lib.hid (fun i hi => D.fb_of hf hver i hi)
    rw [D.pr_yes hP] at KI
    simp only [D.pr_yes hP] at KS
    have KF := fun w' => FP_impl (D.pa f) (D.pb f) (D.pc f) (D.pd f) (D.pe f) (D.pf f) (D.pg f) (D.ph f) w'
    have KV := fun w' => vp_impl (D.pa f) (D.pb f) (D.pc f) (D.pd f) (D.pe f) (D.pf f) (D.pg f) (D.ph f) w'
    simp only [hvp] at KV
    have K1 : Hid (∀ w', Calls Try.prog 7 #[.agg #[.int .i64 (D.pa f), .int .i64 (D.pb f), .int .i64 (D.pc f), .int .i64 (D.pd f), .int .i64 (D.pe f), .int .i64 (D.pf f), .int .i64 (D.pg f), .int .i64 (D.ph f)]] w' fun r w'' => (∃ E, r = .returned (.slice (some ⟨E, 0, none⟩) 23 23) ∧ Bts w''.heap.size w'' (some ⟨E, 0, none⟩) 23 f) ∧ Below w'.heap.size w' w'') :=
      Lib.hid (fun w' => (KF w').mono fun r w'' hr => by
        rcases hr.2 with ⟨h1, _⟩ | ⟨_, E, _, h2, h3⟩
        · rw [hvp] at h1; cases h1
        · refine ⟨⟨E, h2, .inr ⟨E, 0, rfl, World.block_lt_of_cell? _ _ (h3.1 0 (by omega)), fun i hi => ?_⟩⟩, hr.1⟩
          rw [Nat.zero_add, h3.1 i hi, HFB.out i hi])
    have KIh := Lib.hid KI
    have KSh := Lib.hid KS
    have KVh := Lib.hid KV
    clear KI KS KF KV hP hver hvp hf HFB hm
    generalize D.pa f = xa at *
    generalize D.pb f = xb at *
    generalize D.pc f = xc at *
    generalize D.pd f = xd at *
    generalize D.pe f = xe at *
    generalize D.pf f = xf at *
    generalize D.pg f = xg at *
    generalize D.ph f = xh at *
    go_wp2_with fail
    refine KIh.out.mono ?_
    rintro e w2 ⟨rfl, bb⟩
    have bz := bl.trans (bb.mono bl.size)
    have al := (Below.refl w2.heap.size w2).alloc (Nat.le_refl _) (Obj.cells #[.int .i64 xa, .int .i64 xb, .int .i64 xc, .int .i64 xd, .int .i64 xe, .int .i64 xf, .int .i64 xg, .int .i64 xh] 24)
    have x2 := C8.new w2 xa xb xc xd xe xf xg xh 24
    have hB2 := (hB.go bb).go al
    have b2 := bz.trans (al.mono bz.size)
    clear hB bl bb bz al KIh
    go_wp2_with fail
    refine (KSh.out _ hB2).mono ?_
    rintro e w3 ⟨rfl, bb⟩
    have bz := b2.trans (bb.mono b2.size)
    have al := (Below.refl w3.heap.size w3).alloc (Nat.le_refl _) (Obj.cells #[.int .i64 xa, .int .i64 xb, .int .i64 xc, .int .i64 xd, .int .i64 xe, .int .i64 xf, .int .i64 xg, .int .i64 xh] 24)
    have x3' := x2.bw bb
    have hB3 := (hB2.go bb).go al
    have b3 := bz.trans (al.mono bz.size)
    have x3 := x3'.bw al
    have y0 := x3'.c0
    have y1 := x3'.c1
    have y2 := x3'.c2
    have y3 := x3'.c3
    have y4 := x3'.c4
    have y5 := x3'.c5
    have y6 := x3'.c6
    have y7 := x3'.c7
    have ylt := x3'.lt
    clear hB2 b2 bb bz al KSh x2 x3'
    go_wp2_with fail
    refine (K1.out _).mono ?_
    rintro e w4 ⟨⟨E, rfl, hE⟩, bb⟩
    have x4 := x3.bw bb
    have hB4 := hB3.go bb
    have b4 := b3.trans (bb.mono b3.size)
    clear hB3 b3 bb K1 x3 y0 y1 y2 y3 y4 y5 y6 y7 ylt
    go_wp2_with fail
    refine (equalBytes_same w4.heap.size w4.heap.size 23 23 c _ _ f w4 hE hB4 (by omega)).mono ?_
    rintro e w5 ⟨rfl, q5⟩
    have x5 := x4.bw q5.below
    have b5 := bel_same b4 q5
    clear hE hB4 b4 q5 x4
    have y0 := x5.c0
    have y1 := x5.c1
    have y2 := x5.c2
    have y3 := x5.c3
    have y4 := x5.c4
    have y5 := x5.c5
    have y6 := x5.c6
    have y7 := x5.c7
    have ylt := x5.lt
    clear x5
    go_wp2_with fail
    refine (KVh.out _).mono ?_
    rintro e w6 ⟨rfl, bb⟩
    have b6 := b5.trans (bb.mono b5.size)
    clear b5 bb y0 y1 y2 y3 y4 y5 y6 y7 ylt
    go_wp2
    go_ret
    exact ⟨ret_bool (by first | rfl | (simp; done)), b6⟩
  · rw [D.pr_no hP] at KI
    simp only [D.pr_no hP] at KS
    have KIh := Lib.hid KI
    have KSh := Lib.hid KS
    clear KI KS hP hf hm
    go_wp2_with fail
    refine KIh.out.mono ?_
    rintro e w2 ⟨rfl, bb⟩
    have bz := bl.trans (bb.mono bl.size)
    have al := (Below.refl w2.heap.size w2).alloc (Nat.le_refl _) (Obj.cells #[.int .i64 0, .int .i64 0, .int .i64 0, .int .i64 0, .int .i64 0, .int .i64 0, .int .i64 0, .int .i64 0] 24)
    have x2 := C8.new w2 0 0 0 0 0 0 0 0 24
    have hB2 := (hB.go bb).go al
    have b2 := bz.trans (al.mono bz.size)
    clear hB bl bb bz al KIh
    go_wp2_with fail
    refine (KSh.out _ hB2).mono ?_
    rintro e w3 ⟨rfl, bb⟩
    have bz := b2.trans (bb.mono b2.size)
    have al := (Below.refl w3.heap.size w3).alloc (Nat.le_refl _) (Obj.cells #[.int .i64 0, .int .i64 0, .int .i64 0, .int .i64 0, .int .i64 0, .int .i64 0, .int .i64 0, .int .i64 0] 24)
    have x3 := x2.bw bb
    have b3 := bz.trans (al.mono bz.size)
    have y0 := x3.c0
    have y1 := x3.c1
    have y2 := x3.c2
    have y3 := x3.c3
    have y4 := x3.c4
    have y5 := x3.c5
    have y6 := x3.c6
    have y7 := x3.c7
    have ylt := x3.lt
    clear hB2 b2 bb bz al KSh x2 x3
    go_wp2
    go_ret
    exact ⟨ret_bool (by first | rfl | (simp; done)), b3⟩

/-! ### THE ROW's STEP: WRITTEN OUT: LEAVE IT -/
set_option maxRecDepth 100000 in
theorem lifted (os : Os) (started : os.Started) (H : Type) (enc : TypeId × Value → H) :
    ReturnsInHanded {} Try.checked os 4 .any (Rows.fnPacketCanonicalSpec.pre6 enc Try.prog Try.f4 Rows.fnPacketCanonicalRow.domain false) (Rows.fnPacketCanonicalSpec.post enc Try.prog Try.f4 false true false false) := by
  refine returnsInHanded_of_change (C := Try.checked) own started (by kernel_rfl) Try.func4
    (ChangeSpec.witness6 (enc := enc) (C := Try.checked) false ⟨#[], #[.slice none 0 0], []⟩ 8 (by kernel_rfl) (by kernel_rfl) (by kernel_rfl) (by kernel_rfl)) ?_
  intro W base args ds gs before hval0 hW hcnd _
  have hval : ∀ (j : Nat) t v, Try.f4.params[j]? = some t → args[j]? = some v → Value.okWide Try.prog W .any base t v := hval0
  have hW' := hW
  obtain ⟨p, q, hA0, hV, rfl, hfz, hnd⟩ := hW
  have hA : DataW.TrodAll enc Try.prog W 0 (fun _ => true) true Try.f4.params.toList args.toList ds p := hA0
  rw [Try.params4] at hA hval
  obtain ⟨v0, vs0, d0, ds0, p0, q0, hargs, rfl, rfl, h0, r0⟩ := trodAll_cons hA
  obtain ⟨rfl, rfl, rfl⟩ := trodAll_nil r0
  obtain rfl : args = #[v0] := by cases args; simp_all
  obtain ⟨rfl, rfl⟩ := trodVars_none hV
  obtain ⟨a0, len0, cap0, rfl⟩ := okWide_slice Try.underlying22 (hval 0 22 v0 rfl rfl)
  have k0 := h0
  have lt0 : ∀ x ∈ p0, x.block < W.heap.size := by obtain ⟨m, hm⟩ := k0; exact DataW.trod_lt m _ _ _ hm
  obtain ⟨z0, w0⟩ : ∃ zs, IsRow .u8 W a0 len0 cap0 zs := by
    obtain ⟨fuel, hf⟩ := h0
    rcases open_ints Try.underlying22 Try.underlying5 (by kernel_rfl) hf with ⟨hcs, _⟩ | ⟨x, l, c, zs, hcs, _, hl, hm, hz, _, hcell, hwz⟩
    · simp [Value.cells] at hcs
      obtain ⟨rfl, rfl, rfl⟩ := hcs
      exact ⟨[], .inl ⟨rfl, rfl, rfl, rfl⟩⟩
    · simp [Value.cells] at hcs
      obtain ⟨rfl, rfl, rfl⟩ := hcs
      exact ⟨zs, .inr ⟨_, rfl, hl, hm, by simpa using hz, hcell, hwz⟩⟩
  clear hA0 hval0
  refine (walk a0 len0 cap0 z0 W w0).mono fun e W' ⟨he, bel⟩ => ?_
  subst he
  exact ⟨_, rfl, _, _, _, [], _, [], hW', trodAll_mk1 (shut_bool Try.underlying4 _), (trodAll_cons_mk (Below.trod laidOut (by kernel_rfl) (of_decide_eq_true (by kernel_rfl)) k0 bel lt0) trodAll_mk0), rfl, bel.frame _, fun h => by cases h⟩

theorem over : Rows.fnPacketCanonicalRow.holds Try.pinned (OpenSpec.ofChange Rows.fnPacketCanonicalSpec) :=
  OpenClaim.holds_of_wide 4 Try.f4 rfl rfl rfl rfl rfl rfl rfl ⟨rfl, rfl, rfl, rfl, rfl⟩ rfl rfl rfl rfl rfl (by kernel_rfl) Try.func4 (by kernel_rfl)
    (of_decide_eq_true (by kernel_rfl)) (by unfold Func.isWrapper; first | (rw [if_pos (by decide +kernel)]; kernel_rfl) | (rw [if_neg (by decide +kernel)]; exact ⟨rfl, rfl⟩))
    (fun os started H enc _ => lifted os started H enc)

/-- ████ THE STATEMENT ████ -/
theorem proved : Rows.FnPacketCanonicalSaid := over
#print axioms proved
end Go.Proofs.Ytegkmdinnkbkiaa.fnPacketCanonical
