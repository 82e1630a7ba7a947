/-
  PROVED: FnExactFormatPacket: for every input the law returns true, and the input reads as it did. No condition.
  The frame is as the kit prints it (proof-skeleton.mjs); the walk is mine.
-/
import Derived.Test.YtidfkbhdifkolaaRows
import Derived.Test.YtidfkbhdifkolaaCopyD
import Derived.Test.YtidfkbhdifkolaaFormatS
import Derived.Test.YtidfkbhdifkolaaMarkB
import Derived.Test.YtidfkbhdifkolaaJoin8
import Derived.WalkKit
import Derived.ProofKit
import Derived.OpenShut
import Derived.ShutString
import Derived.ChangeOld
import Derived.Below
import Derived.Lib.SmallJoins
namespace Go.Proofs.Ytidfkbhdifkolaa.fnExactFormatPacket
open Go.ChangeShapes Go.WideShapes Go.ChangeAt Go.RowKit Go.Joins
set_option linter.unusedVariables false

theorem own : ownKnob Try.prog.godebug = none := by kernel_rfl
theorem laidOut : laidOutB Try.prog = true := by kernel_rfl
theorem cells : Try.prog.cellsOf 33 = 8 := by kernel_rfl

theorem Bts.below' {w w' : World} {F E n : Nat} {f : Nat → Int} (h : Bts w.heap.size w (some ⟨F, 0, none⟩) n f) (hFE : F < E) {k : Nat} (hW : Wa w w' E k) : Bts w'.heap.size w' (some ⟨F, 0, none⟩) n f := by
  rcases h with h0 | ⟨b, off, e, hb, hc⟩
  · exact .inl h0
  · injection e with e; injection e with e1 e2
    subst e1
    refine .inr ⟨F, off, by rw [e2], by rw [hW.size]; exact hb, fun i hi => (hW.oth F (off + i) (.inl (by omega))).trans (hc i hi)⟩
theorem C8.marked {w w' : World} {P E k : Nat} {a b c d e f g h : Int} (x : C8 w P a b c d e f g h) (hne : P ≠ E) (hW : Wa w w' E k) : C8 w' P a b c d e f g h := by
  have hp : ∀ o, w'.cell? ⟨P, o, none⟩ = w.cell? ⟨P, o, none⟩ := fun o => hW.oth P o (.inl hne)
  exact ⟨(hp 0).trans x.c0, (hp 1).trans x.c1, (hp 2).trans x.c2, (hp 3).trans x.c3, (hp 4).trans x.c4, (hp 5).trans x.c5, (hp 6).trans x.c6, (hp 7).trans x.c7, by rw [hW.size]; exact x.lt⟩
set_option maxRecDepth 100000 in
set_option maxHeartbeats 4000000 in
theorem walk (xa0 xb0 xc0 xd0 xe0 xf0 xg0 xh0 : Int) (w : World) (wa0 : (Lit.int .i64 xa0).wf = true) (wb0 : (Lit.int .i64 xb0).wf = true) (wc0 : (Lit.int .i64 xc0).wf = true) (wd0 : (Lit.int .i64 xd0).wf = true) (we0 : (Lit.int .i64 xe0).wf = true) (wf0 : (Lit.int .i64 xf0).wf = true) (wg0 : (Lit.int .i64 xg0).wf = true) (wh0 : (Lit.int .i64 xh0).wf = true) :
    Calls Try.prog 8 #[.agg #[.int .i64 xa0, .int .i64 xb0, .int .i64 xc0, .int .i64 xd0, .int .i64 xe0, .int .i64 xf0, .int .i64 xg0, .int .i64 xh0]] w fun e w' => e = .returned (.bool true) ∧ Below w.heap.size w w' := by
  have b0 := (Below.refl w.heap.size w).alloc (Nat.le_refl _) (.cells #[.int .i64 xa0, .int .i64 xb0, .int .i64 xc0, .int .i64 xd0, .int .i64 xe0, .int .i64 xf0, .int .i64 xg0, .int .i64 xh0] 33)
  have x0 := C8.new w xa0 xb0 xc0 xd0 xe0 xf0 xg0 xh0 33
  have k1 := fun w' => FP_impl xa0 xb0 xc0 xd0 xe0 xf0 xg0 xh0 w'
  have k2 := fun w' => FP_spec xa0 xb0 xc0 xd0 xe0 xf0 xg0 xh0 w'
  have KT := Lib.hid (fun w' => toPacket_any xa0 xb0 xc0 xd0 xe0 xf0 xg0 xh0 w')
  rcases hv : D.vp xa0 xb0 xc0 xd0 xe0 xf0 xg0 xh0 with _ | _
  · have K1 : Hid (∀ w', Calls Try.prog 12 #[.agg #[.int .i64 xa0, .int .i64 xb0, .int .i64 xc0, .int .i64 xd0, .int .i64 xe0, .int .i64 xf0, .int .i64 xg0, .int .i64 xh0]] w' fun r w'' => r = .returned (.slice none 0 0) ∧ Below w'.heap.size w' w'') :=
      Lib.hid (fun w' => (k1 w').mono fun r w'' hr => by
        rcases hr.2 with ⟨_, h2⟩ | ⟨h1, _⟩
        · exact ⟨h2, hr.1⟩
        · rw [hv] at h1; cases h1)
    have K2 : Hid (∀ w', Calls Try.prog 16 #[.agg #[.int .i64 xa0, .int .i64 xb0, .int .i64 xc0, .int .i64 xd0, .int .i64 xe0, .int .i64 xf0, .int .i64 xg0, .int .i64 xh0]] w' fun r w'' => r = .returned (.slice none 0 0) ∧ Below w'.heap.size w' w'') :=
      Lib.hid (fun w' => (k2 w').mono fun r w'' hr => by
        rcases hr.2 with ⟨_, h2⟩ | ⟨h1, _⟩
        · exact ⟨h2, hr.1⟩
        · rw [hv] at h1; cases h1)
    clear k1 k2 hv
    go_enter Try.func8, Try.ntmps8
    have y0 := x0.c0
    have y1 := x0.c1
    have y2 := x0.c2
    have y3 := x0.c3
    have y4 := x0.c4
    have y5 := x0.c5
    have y6 := x0.c6
    have y7 := x0.c7
    go_wp2_with fail
    refine (KT.out _).mono ?_
    rintro r w1 ⟨rfl, bb⟩
    have x1 := x0.bw bb
    have b1 := b0.trans (bb.mono b0.size)
    clear x0 b0  bb y0 y1 y2 y3 y4 y5 y6 y7
    go_wp2_with fail
    refine (K2.out _).mono ?_
    rintro r w2 ⟨rfl, bb⟩
    have x2 := x1.bw bb
    have b2 := b1.trans (bb.mono b1.size)
    clear x1 b1  bb
    have y0 := x2.c0
    have y1 := x2.c1
    have y2 := x2.c2
    have y3 := x2.c3
    have y4 := x2.c4
    have y5 := x2.c5
    have y6 := x2.c6
    have y7 := x2.c7
    go_wp2_with fail
    refine (KT.out _).mono ?_
    rintro r w3 ⟨rfl, bb⟩
    have x3 := x2.bw bb
    have b3 := b2.trans (bb.mono b2.size)
    clear x2 b2  bb y0 y1 y2 y3 y4 y5 y6 y7
    go_wp2_with fail
    refine (K1.out _).mono ?_
    rintro r w4 ⟨rfl, bb⟩
    have x4 := x3.bw bb
    have b4 := b3.trans (bb.mono b3.size)
    clear x3 b3  bb
    go_wp2_with fail
    refine (eqByteS_same w4.heap.size w4.heap.size 0 0 0 none none (fun _ => 0) w4 (.inl rfl) (.inl rfl) (by omega)).mono ?_
    rintro r w5 ⟨rfl, qq⟩
    have x5 := x4.bw qq.below
    have b5 := bel_same b4 qq
    clear x4 b4  qq
    go_wp2_with fail
    refine (markB0 _).mono ?_
    rintro r w6 ⟨rfl, qq⟩
    have x6 := x5.bw qq.below
    have b6 := bel_same b5 qq
    clear x5 b5  qq
    go_wp2_with fail
    refine (heldB w6.heap.size 0 0 none w6 (.inl rfl) (by omega)).mono ?_
    rintro r w7 ⟨rfl, qq⟩
    have x7 := x6.bw qq.below
    have b7 := bel_same b6 qq
    clear x6 b6  qq
    have y0 := x7.c0
    have y1 := x7.c1
    have y2 := x7.c2
    have y3 := x7.c3
    have y4 := x7.c4
    have y5 := x7.c5
    have y6 := x7.c6
    have y7 := x7.c7
    go_wp2_with fail
    refine (KT.out _).mono ?_
    rintro r w8 ⟨rfl, bb⟩
    have x8 := x7.bw bb
    have b8 := b7.trans (bb.mono b7.size)
    clear x7 b7  bb y0 y1 y2 y3 y4 y5 y6 y7
    go_wp2_with fail
    refine (K1.out _).mono ?_
    rintro r w9 ⟨rfl, bb⟩
    have x9 := x8.bw bb
    have b9 := b8.trans (bb.mono b8.size)
    clear x8 b8  bb
    go_wp2_with fail
    refine (eqByteS_same w9.heap.size w9.heap.size 0 0 0 none none (fun _ => 0) w9 (.inl rfl) (.inl rfl) (by omega)).mono ?_
    rintro r w10 ⟨rfl, qq⟩
    have x10 := x9.bw qq.below
    have b10 := bel_same b9 qq
    clear x9 b9  qq
    go_wp2_with fail
    refine (heldB w10.heap.size 0 0 none w10 (.inl rfl) (by omega)).mono ?_
    rintro r w11 ⟨rfl, qq⟩
    have x11 := x10.bw qq.below
    have b11 := bel_same b10 qq
    clear x10 b10  qq
    go_wp2
    go_ret
    exact ⟨rfl, b11⟩
  · have hfb := fun i => D.fb xa0 xb0 xc0 xd0 xe0 xf0 xg0 xh0 i
    have K1 : Hid (∀ w', Calls Try.prog 12 #[.agg #[.int .i64 xa0, .int .i64 xb0, .int .i64 xc0, .int .i64 xd0, .int .i64 xe0, .int .i64 xf0, .int .i64 xg0, .int .i64 xh0]] w' fun r w'' => (∃ E, w'.heap.size ≤ E ∧ r = .returned (.slice (some ⟨E, 0, none⟩) 23 23) ∧ (∀ i, i < 23 → w''.cell? ⟨E, i, none⟩ = some (.int .u8 (D.fb xa0 xb0 xc0 xd0 xe0 xf0 xg0 xh0 i))) ∧ ∀ i, i < 23 → w''.frozen? ⟨E, i, none⟩ = false) ∧ Below w'.heap.size w' w'') :=
      Lib.hid (fun w' => (k1 w').mono fun r w'' hr => by
        rcases hr.2 with ⟨h1, _⟩ | ⟨_, E, h0, h2, h3, h4⟩
        · rw [hv] at h1; cases h1
        · exact ⟨⟨E, h0, h2, h3, h4⟩, hr.1⟩)
    have K2 : Hid (∀ w', Calls Try.prog 16 #[.agg #[.int .i64 xa0, .int .i64 xb0, .int .i64 xc0, .int .i64 xd0, .int .i64 xe0, .int .i64 xf0, .int .i64 xg0, .int .i64 xh0]] w' fun r w'' => (∃ F cp, r = .returned (.slice (some ⟨F, 0, none⟩) 23 cp) ∧ F < w''.heap.size ∧ ∀ i, i < 23 → w''.cell? ⟨F, i, none⟩ = some (.int .u8 (D.fb xa0 xb0 xc0 xd0 xe0 xf0 xg0 xh0 i))) ∧ Below w'.heap.size w' w'') :=
      Lib.hid (fun w' => (k2 w').mono fun r w'' hr => by
        rcases hr.2 with ⟨h1, _⟩ | ⟨_, F, cp, _, h0, _, h2, h3⟩
        · rw [hv] at h1; cases h1
        · exact ⟨⟨F, cp, h2, h0, h3⟩, hr.1⟩)
    clear k1 k2 hv hfb
    generalize D.fb xa0 xb0 xc0 xd0 xe0 xf0 xg0 xh0 = fb at *
    go_enter Try.func8, Try.ntmps8
    have y0 := x0.c0
    have y1 := x0.c1
    have y2 := x0.c2
    have y3 := x0.c3
    have y4 := x0.c4
    have y5 := x0.c5
    have y6 := x0.c6
    have y7 := x0.c7
    go_wp2_with fail
    refine (KT.out _).mono ?_
    rintro r w1 ⟨rfl, bb⟩
    have x1 := x0.bw bb
    have b1 := b0.trans (bb.mono b0.size)
    clear x0 b0  bb y0 y1 y2 y3 y4 y5 y6 y7
    go_wp2_with fail
    refine (K2.out _).mono ?_
    rintro r w2 ⟨⟨F, cp, rfl, hltF, hF⟩, bb⟩
    have x2 := x1.bw bb
    have b2 := b1.trans (bb.mono b1.size)
    have hF2 : Bts w2.heap.size w2 (some ⟨F, 0, none⟩) 23 fb := .inr ⟨F, 0, rfl, hltF, fun i hi => by rw [Nat.zero_add]; exact hF i hi⟩
    have hFl := hltF
    clear hF hltF
    clear x1 b1  bb
    have y0 := x2.c0
    have y1 := x2.c1
    have y2 := x2.c2
    have y3 := x2.c3
    have y4 := x2.c4
    have y5 := x2.c5
    have y6 := x2.c6
    have y7 := x2.c7
    go_wp2_with fail
    refine (KT.out _).mono ?_
    rintro r w3 ⟨rfl, bb⟩
    have x3 := x2.bw bb
    have b3 := b2.trans (bb.mono b2.size)
    have hF3 := (hF2.below bb).more bb.size
    have hFl3 := Nat.lt_of_lt_of_le hFl bb.size
    clear hFl
    clear x2 b2 hF2 bb y0 y1 y2 y3 y4 y5 y6 y7
    go_wp2_with fail
    refine (K1.out _).mono ?_
    rintro r w4 ⟨⟨E, hE0, rfl, hE, hz⟩, bb⟩
    have x4 := x3.bw bb
    have b4 := b3.trans (bb.mono b3.size)
    have hF4 := (hF3.below bb).more bb.size
    have hltE := World.block_lt_of_cell? _ _ (hE 0 (by omega))
    have hE4 : Bts w4.heap.size w4 (some ⟨E, 0, none⟩) 23 fb := .inr ⟨E, 0, rfl, hltE, fun i hi => by rw [Nat.zero_add]; exact hE i hi⟩
    have hFE : F < E := by omega
    have hxE : w.heap.size ≠ E := by have := x3.lt; omega
    have hlo : w.heap.size ≤ E := Nat.le_trans b3.size hE0
    clear x3 b3 hF3 bb
    go_wp2_with fail
    refine (eqByteS_same w4.heap.size w4.heap.size 23 23 cp _ _ fb w4 hE4 hF4 (by omega)).mono ?_
    rintro r w5 ⟨rfl, qq⟩
    have x5 := x4.bw qq.below
    have b5 := bel_same b4 qq
    have hF5 := (hF4.below (qq.below (B := w4.heap.size))).more (qq.below (B := w4.heap.size)).size
    have hc5 : ∀ i, i < 23 → (∃ x, w5.cell? ⟨E, i, none⟩ = some (.int .u8 x)) ∧ w5.frozen? ⟨E, i, none⟩ = false := fun i hi => by obtain ⟨k, rfl⟩ := qq; exact ⟨⟨_, hE i hi⟩, hz i hi⟩
    clear hE4 hE hz
    clear x4 b4 hF4 qq
    go_wp2_with fail
    refine (markB E 23 23 w5 (by omega) hc5).mono ?_
    rintro r w6 ⟨rfl, hW⟩
    have b6 := b5.trans (hW.bel _ hlo)
    have hF6 : Bts w6.heap.size w6 (some ⟨F, 0, none⟩) 23 fb := Bts.below' hF5 hFE hW
    have hE6 : Bts w6.heap.size w6 (some ⟨E, 0, none⟩) 23 (fun i => (i : Int) + 1) := .inr ⟨E, 0, rfl, World.block_lt_of_cell? _ _ (hW.put 0 (by omega)), fun i hi => by rw [Nat.zero_add]; exact hW.put i hi⟩
    have x6 := C8.marked x5 hxE hW
    clear hc5 hW hF5 x5 b5
    go_wp2_with fail
    refine (heldB w6.heap.size 23 23 _ w6 hE6 (by omega)).mono ?_
    rintro r w7 ⟨rfl, qq⟩
    have x7 := x6.bw qq.below
    have b7 := bel_same b6 qq
    have hF7 := (hF6.below (qq.below (B := w6.heap.size))).more (qq.below (B := w6.heap.size)).size
    have hE7 := (hE6.below (qq.below (B := w6.heap.size))).more (qq.below (B := w6.heap.size)).size
    clear x6 b6 hF6 hE6 qq
    have y0 := x7.c0
    have y1 := x7.c1
    have y2 := x7.c2
    have y3 := x7.c3
    have y4 := x7.c4
    have y5 := x7.c5
    have y6 := x7.c6
    have y7 := x7.c7
    go_wp2_with fail
    refine (KT.out _).mono ?_
    rintro r w8 ⟨rfl, bb⟩
    have x8 := x7.bw bb
    have b8 := b7.trans (bb.mono b7.size)
    have hF8 := (hF7.below bb).more bb.size
    have hE8 := (hE7.below bb).more bb.size
    clear x7 b7 hF7 hE7 bb y0 y1 y2 y3 y4 y5 y6 y7
    go_wp2_with fail
    refine (K1.out _).mono ?_
    rintro r w9 ⟨⟨E2, hE0, rfl, hE, hz⟩, bb⟩
    have x9 := x8.bw bb
    have b9 := b8.trans (bb.mono b8.size)
    have hF9 := (hF8.below bb).more bb.size
    have hE9 := (hE8.below bb).more bb.size
    have hG9 : Bts w9.heap.size w9 (some ⟨E2, 0, none⟩) 23 fb := .inr ⟨E2, 0, rfl, World.block_lt_of_cell? _ _ (hE 0 (by omega)), fun i hi => by rw [Nat.zero_add]; exact hE i hi⟩
    clear hE hz hE0
    clear x8 b8 hF8 hE8 bb
    go_wp2_with fail
    refine (eqByteS_same w9.heap.size w9.heap.size 23 23 cp _ _ fb w9 hG9 hF9 (by omega)).mono ?_
    rintro r w10 ⟨rfl, qq⟩
    have x10 := x9.bw qq.below
    have b10 := bel_same b9 qq
    have hE10 := (hE9.below (qq.below (B := w9.heap.size))).more (qq.below (B := w9.heap.size)).size
    clear hG9 hF9
    clear x9 b9 hE9 qq
    go_wp2_with fail
    refine (heldB w10.heap.size 23 23 _ w10 hE10 (by omega)).mono ?_
    rintro r w11 ⟨rfl, qq⟩
    have x11 := x10.bw qq.below
    have b11 := bel_same b10 qq
    clear x10 b10  qq
    go_wp2
    go_ret
    exact ⟨rfl, b11⟩

/-! ### THE ROW -/
set_option maxRecDepth 100000 in
theorem lifted (os : Os) (started : os.Started) (H : Type) (enc : TypeId × Value → H) :
    ReturnsInHanded {} Try.checked os 8 .any (Rows.fnExactFormatPacketSpec.pre6 enc Try.prog Try.f8 Rows.fnExactFormatPacketRow.domain false) (Rows.fnExactFormatPacketSpec.post enc Try.prog Try.f8 false true false false) := by
  refine returnsInHanded_of_change (C := Try.checked) own started (by kernel_rfl) Try.func8
    (ChangeSpec.witness6 (enc := enc) (C := Try.checked) false ⟨#[], #[.agg #[.int .i64 0, .int .i64 0, .int .i64 0, .int .i64 0, .int .i64 0, .int .i64 0, .int .i64 0, .int .i64 0]], []⟩ 8 (by kernel_rfl) (by kernel_rfl) (by kernel_rfl) (by kernel_rfl)) ?_
  intro W base args ds gs before hval0 hW hcnd _
  have hval : ∀ (j : Nat) t v, Try.f8.params[j]? = some t → args[j]? = some v → Value.okWide Try.prog W .any base t v := hval0
  have hW' := hW
  obtain ⟨p, q, hA0, hV, rfl, hfz, hnd⟩ := hW
  have hA : DataW.TrodAll enc Try.prog W 0 (fun _ => true) true Try.f8.params.toList args.toList ds p := hA0
  rw [Try.params8] at hA hval
  obtain ⟨v0, vs0, d0, ds0, p0, q0, hargs, rfl, rfl, h0, r0⟩ := trodAll_cons hA
  obtain ⟨rfl, rfl, rfl⟩ := trodAll_nil r0
  obtain rfl : args = #[v0] := by cases args; simp_all
  obtain ⟨rfl, rfl⟩ := trodVars_none hV
  obtain ⟨u0a, u0b, u0c, u0d, u0e, u0f, u0g, u0h, y0a, y0b, y0c, y0d, y0e, y0f, y0g, y0h, m0, rfl, rfl, rfl, hy0a, hy0b, hy0c, hy0d, hy0e, hy0f, hy0g, hy0h⟩ := open_agg8 Try.underlying33 (by kernel_rfl) cells (hval 0 33 v0 rfl rfl) h0
  obtain ⟨xa0, ea0, rfl, wa0⟩ := DataW.trod_int Try.underlying3 hy0a
  obtain ⟨xb0, eb0, rfl, wb0⟩ := DataW.trod_int Try.underlying3 hy0b
  obtain ⟨xc0, ec0, rfl, wc0⟩ := DataW.trod_int Try.underlying3 hy0c
  obtain ⟨xd0, ed0, rfl, wd0⟩ := DataW.trod_int Try.underlying3 hy0d
  obtain ⟨xe0, ee0, rfl, we0⟩ := DataW.trod_int Try.underlying3 hy0e
  obtain ⟨xf0, ef0, rfl, wf0⟩ := DataW.trod_int Try.underlying3 hy0f
  obtain ⟨xg0, eg0, rfl, wg0⟩ := DataW.trod_int Try.underlying3 hy0g
  obtain ⟨xh0, eh0, rfl, wh0⟩ := DataW.trod_int Try.underlying3 hy0h
  simp at ea0 eb0 ec0 ed0 ee0 ef0 eg0 eh0
  subst ea0
  subst eb0
  subst ec0
  subst ed0
  subst ee0
  subst ef0
  subst eg0
  subst eh0
  have reads0 : ∀ (W' : World) (sp : Nat → Bool), DataW.Trod enc Try.prog W' 0 sp true 33 (.agg #[.int .i64 xa0, .int .i64 xb0, .int .i64 xc0, .int .i64 xd0, .int .i64 xe0, .int .i64 xf0, .int .i64 xg0, .int .i64 xh0]) (.agg [.lit (.int .i64 xa0), .lit (.int .i64 xb0), .lit (.int .i64 xc0), .lit (.int .i64 xd0), .lit (.int .i64 xe0), .lit (.int .i64 xf0), .lit (.int .i64 xg0), .lit (.int .i64 xh0)]) [] := fun W' sp =>
    shut_agg8 (y0 := (.lit (.int .i64 xa0), [])) (y1 := (.lit (.int .i64 xb0), [])) (y2 := (.lit (.int .i64 xc0), [])) (y3 := (.lit (.int .i64 xd0), [])) (y4 := (.lit (.int .i64 xe0), [])) (y5 := (.lit (.int .i64 xf0), [])) (y6 := (.lit (.int .i64 xg0), [])) (y7 := (.lit (.int .i64 xh0), [])) Try.underlying33 (by kernel_rfl) cells ⟨1, by simp [DataW.trod, Try.underlying3, wa0]⟩ ⟨1, by simp [DataW.trod, Try.underlying3, wb0]⟩ ⟨1, by simp [DataW.trod, Try.underlying3, wc0]⟩ ⟨1, by simp [DataW.trod, Try.underlying3, wd0]⟩ ⟨1, by simp [DataW.trod, Try.underlying3, we0]⟩ ⟨1, by simp [DataW.trod, Try.underlying3, wf0]⟩ ⟨1, by simp [DataW.trod, Try.underlying3, wg0]⟩ ⟨1, by simp [DataW.trod, Try.underlying3, wh0]⟩
  clear hA0 hval0
  refine (walk xa0 xb0 xc0 xd0 xe0 xf0 xg0 xh0 W wa0 wb0 wc0 wd0 we0 wf0 wg0 wh0).mono fun e W' ⟨he, bel⟩ => ?_
  subst he
  exact ⟨_, rfl, _, _, _, [], _, [], hW', trodAll_mk1 (shut_bool Try.underlying4 _), (trodAll_cons_mk (reads0 _ _) trodAll_mk0), rfl, bel.frame _, fun h => by cases h⟩

theorem over : Rows.fnExactFormatPacketRow.holds Try.pinned (OpenSpec.ofChange Rows.fnExactFormatPacketSpec) :=
  OpenClaim.holds_of_wide 8 Try.f8 rfl rfl rfl rfl rfl rfl rfl ⟨rfl, rfl, rfl, rfl, rfl⟩ rfl rfl rfl rfl rfl (by kernel_rfl) Try.func8 (by kernel_rfl)
    (of_decide_eq_true (by kernel_rfl)) (by unfold Func.isWrapper; first | (rw [if_pos (by decide +kernel)]; kernel_rfl) | (rw [if_neg (by decide +kernel)]; exact ⟨rfl, rfl⟩))
    (fun os started H enc _ => lifted os started H enc)

/-- THE STATEMENT -/
theorem proved : Rows.FnExactFormatPacketSaid := over
#print axioms proved
end Go.Proofs.Ytidfkbhdifkolaa.fnExactFormatPacket
