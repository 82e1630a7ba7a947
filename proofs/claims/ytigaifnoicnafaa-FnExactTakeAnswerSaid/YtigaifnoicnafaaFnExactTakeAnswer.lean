/-
  PROVED: FnExactTakeAnswer: for every input the law returns true, and the input reads as it did. No condition.
  The frame is as the kit prints it (proof-skeleton.mjs); the walk is mine.
-/
import Derived.Test.YtigaifnoicnafaaRows
import Derived.Test.YtigaifnoicnafaaCopyD
import Derived.Test.YtigaifnoicnafaaTake
import Derived.Test.YtigaifnoicnafaaMarkI
import Derived.Test.YtigaifnoicnafaaJoin8
import Derived.WalkKit
import Derived.ProofKit
import Derived.OpenShut
import Derived.ShutString
import Derived.ChangeOld
import Derived.Below
import Derived.Lib.SmallJoins
namespace Go.Proofs.Ytigaifnoicnafaa.fnExactTakeAnswer
open Go.ChangeShapes Go.WideShapes Go.ChangeAt Go.RowKit Go.Joins
set_option linter.unusedVariables false

theorem own : ownKnob Try.prog.godebug = none := by kernel_rfl
theorem laidOut : laidOutB Try.prog = true := by kernel_rfl
theorem cells : Try.prog.cellsOf 44 = 8 := by kernel_rfl

theorem C8.marked {w w' : World} {P E k : Nat} {a b c d e f g h : Int} (x : C8 w P a b c d e f g h) (hne : P ≠ E) (hW : Wi w w' E k) : C8 w' P a b c d e f g h := by
  have hp : ∀ o, w'.cell? ⟨P, o, none⟩ = w.cell? ⟨P, o, none⟩ := fun o => hW.oth P o (.inl hne)
  exact ⟨(hp 0).trans x.c0, (hp 1).trans x.c1, (hp 2).trans x.c2, (hp 3).trans x.c3, (hp 4).trans x.c4, (hp 5).trans x.c5, (hp 6).trans x.c6, (hp 7).trans x.c7, by rw [hW.size]; exact x.lt⟩
set_option maxRecDepth 100000 in
set_option maxHeartbeats 4000000 in
theorem walk (a0 : Int) (xa1 xb1 xc1 xd1 xe1 xf1 xg1 xh1 : Int) (a2 : Int) (w : World) (w0 : (Lit.int .i64 a0).wf = true) (wa1 : (Lit.int .i64 xa1).wf = true) (wb1 : (Lit.int .i64 xb1).wf = true) (wc1 : (Lit.int .i64 xc1).wf = true) (wd1 : (Lit.int .i64 xd1).wf = true) (we1 : (Lit.int .i64 xe1).wf = true) (wf1 : (Lit.int .i64 xf1).wf = true) (wg1 : (Lit.int .i64 xg1).wf = true) (wh1 : (Lit.int .i64 xh1).wf = true) (w2 : (Lit.int .i64 a2).wf = true) :
    Calls Try.prog 11 #[.int .i64 a0, .agg #[.int .i64 xa1, .int .i64 xb1, .int .i64 xc1, .int .i64 xd1, .int .i64 xe1, .int .i64 xf1, .int .i64 xg1, .int .i64 xh1], .int .i64 a2] w fun e w' => e = .returned (.bool true) ∧ Below w.heap.size w w' := by
  have b1 := (Below.refl w.heap.size w).alloc (Nat.le_refl _) (.cells #[.int .i64 xa1, .int .i64 xb1, .int .i64 xc1, .int .i64 xd1, .int .i64 xe1, .int .i64 xf1, .int .i64 xg1, .int .i64 xh1] 44)
  have p1 := C8.new w xa1 xb1 xc1 xd1 xe1 xf1 xg1 xh1 44
  have KT := Lib.hid (fun w' => toPacket_any xa1 xb1 xc1 xd1 xe1 xf1 xg1 xh1 w')
  have bI := fun w' => TA_impl a0 a2 xa1 xb1 xc1 xd1 xe1 xf1 xg1 xh1 w'
  have bS := fun w' => TA_spec a0 a2 xa1 xb1 xc1 xd1 xe1 xf1 xg1 xh1 w'
  by_cases hT : D.an a0 xa1 xb1 xc1 xd1 xe1 xf1 xg1 xh1 = true ∧ T.vs a2 = true
  rotate_left
  · have K1 : Hid (∀ w' : World, Calls Try.prog 19 #[.int .i64 a0, .agg #[.int .i64 xa1, .int .i64 xb1, .int .i64 xc1, .int .i64 xd1, .int .i64 xe1, .int .i64 xf1, .int .i64 xg1, .int .i64 xh1], .int .i64 a2] w' fun e w'' => e = .returned (.tuple #[.slice none 0 0, .bool false]) ∧ Below w'.heap.size w' w'') := Lib.hid (fun w' => (bI w').mono fun e w'' h => by rw [if_neg hT] at h; exact h)
    have K2 : Hid (∀ w' : World, Calls Try.prog 22 #[.int .i64 a0, .agg #[.int .i64 xa1, .int .i64 xb1, .int .i64 xc1, .int .i64 xd1, .int .i64 xe1, .int .i64 xf1, .int .i64 xg1, .int .i64 xh1], .int .i64 a2] w' fun e w'' => e = .returned (.tuple #[.slice none 0 0, .bool false]) ∧ Below w'.heap.size w' w'') := Lib.hid (fun w' => (bS w').mono fun e w'' h => by rw [if_neg hT] at h; exact h)
    clear bI bS hT
    go_enter Try.func11, Try.ntmps11
    have pc0 := p1.c0
    have pc1 := p1.c1
    have pc2 := p1.c2
    have pc3 := p1.c3
    have pc4 := p1.c4
    have pc5 := p1.c5
    have pc6 := p1.c6
    have pc7 := p1.c7
    go_wp2_with fail
    refine (KT.out _).mono ?_
    rintro e w2 ⟨rfl, bb⟩
    clear pc0 pc1 pc2 pc3 pc4 pc5 pc6 pc7
    have p2 := p1.bw bb
    have b2 := b1.trans (bb.mono b1.size)
    clear p1 b1 bb
    go_wp2_with fail
    refine (K2.out _).mono ?_
    rintro e w3 ⟨rfl, bb⟩
    have p3 := p2.bw bb
    have b3 := b2.trans (bb.mono b2.size)
    clear p2 b2 bb
    have pc0 := p3.c0
    have pc1 := p3.c1
    have pc2 := p3.c2
    have pc3 := p3.c3
    have pc4 := p3.c4
    have pc5 := p3.c5
    have pc6 := p3.c6
    have pc7 := p3.c7
    go_wp2_with fail
    refine (KT.out _).mono ?_
    rintro e w4 ⟨rfl, bb⟩
    clear pc0 pc1 pc2 pc3 pc4 pc5 pc6 pc7
    have p4 := p3.bw bb
    have b4 := b3.trans (bb.mono b3.size)
    clear p3 b3 bb
    go_wp2_with fail
    refine (K1.out _).mono ?_
    rintro e w5 ⟨rfl, bb⟩
    have p5 := p4.bw bb
    have b5 := b4.trans (bb.mono b4.size)
    clear p4 b4 bb
    go_wp2_with fail
    refine (eqIntS_any 0 0 0 0 none none [] _ (Lst.none_ _ _ _) (Lst.none_ _ _ _)).mono ?_
    rintro e w6 ⟨rfl, qq⟩
    have bb : Below w5.heap.size w5 w6 := qq.below
    clear qq
    have p6 := p5.bw bb
    have b6 := b5.trans (bb.mono b5.size)
    clear p5 b5 bb
    go_wp2_with fail
    refine (markI0 _).mono ?_
    rintro e w7 ⟨rfl, qq⟩
    have bb : Below w6.heap.size w6 w7 := qq.below
    clear qq
    have p7 := p6.bw bb
    have b7 := b6.trans (bb.mono b6.size)
    clear p6 b6 bb
    go_wp2_with fail
    refine (heldI 0 0 0 none _ (Lst.none_ _ _ _) (by omega)).mono ?_
    rintro e w8 ⟨rfl, qq⟩
    have bb : Below w7.heap.size w7 w8 := qq.below
    clear qq
    have p8 := p7.bw bb
    have b8 := b7.trans (bb.mono b7.size)
    clear p7 b7 bb
    have pc0 := p8.c0
    have pc1 := p8.c1
    have pc2 := p8.c2
    have pc3 := p8.c3
    have pc4 := p8.c4
    have pc5 := p8.c5
    have pc6 := p8.c6
    have pc7 := p8.c7
    go_wp2_with fail
    refine (KT.out _).mono ?_
    rintro e w9 ⟨rfl, bb⟩
    clear pc0 pc1 pc2 pc3 pc4 pc5 pc6 pc7
    have p9 := p8.bw bb
    have b9 := b8.trans (bb.mono b8.size)
    clear p8 b8 bb
    go_wp2_with fail
    refine (K1.out _).mono ?_
    rintro e w10 ⟨rfl, bb⟩
    have p10 := p9.bw bb
    have b10 := b9.trans (bb.mono b9.size)
    clear p9 b9 bb
    go_wp2_with fail
    refine (eqIntS_any 0 0 0 0 none none [] _ (Lst.none_ _ _ _) (Lst.none_ _ _ _)).mono ?_
    rintro e w11 ⟨rfl, qq⟩
    have bb : Below w10.heap.size w10 w11 := qq.below
    clear qq
    have p11 := p10.bw bb
    have b11 := b10.trans (bb.mono b10.size)
    clear p10 b10 bb
    go_wp2_with fail
    refine (heldI 0 0 0 none _ (Lst.none_ _ _ _) (by omega)).mono ?_
    rintro e w12 ⟨rfl, qq⟩
    have bb : Below w11.heap.size w11 w12 := qq.below
    clear qq
    have p12 := p11.bw bb
    have b12 := b11.trans (bb.mono b11.size)
    clear p11 b11 bb
    go_wp2
    go_ret
    exact ⟨ret_bool (by first | rfl | (simp; done) | simp_all), b12⟩
  have K1 : Hid (∀ w' : World, Calls Try.prog 19 #[.int .i64 a0, .agg #[.int .i64 xa1, .int .i64 xb1, .int .i64 xc1, .int .i64 xd1, .int .i64 xe1, .int .i64 xf1, .int .i64 xg1, .int .i64 xh1], .int .i64 a2] w' (Taken w' a0 xg1 xh1 a2)) := Lib.hid (fun w' => (bI w').mono fun e w'' h => by rw [if_pos hT] at h; exact h)
  have K2 : Hid (∀ w' : World, Calls Try.prog 22 #[.int .i64 a0, .agg #[.int .i64 xa1, .int .i64 xb1, .int .i64 xc1, .int .i64 xd1, .int .i64 xe1, .int .i64 xf1, .int .i64 xg1, .int .i64 xh1], .int .i64 a2] w' (Taken w' a0 xg1 xh1 a2)) := Lib.hid (fun w' => (bS w').mono fun e w'' h => by rw [if_pos hT] at h; exact h)
  clear bI bS hT
  go_enter Try.func11, Try.ntmps11
  have pc0 := p1.c0
  have pc1 := p1.c1
  have pc2 := p1.c2
  have pc3 := p1.c3
  have pc4 := p1.c4
  have pc5 := p1.c5
  have pc6 := p1.c6
  have pc7 := p1.c7
  go_wp2_with fail
  refine (KT.out _).mono ?_
  rintro e w2 ⟨rfl, bb⟩
  clear pc0 pc1 pc2 pc3 pc4 pc5 pc6 pc7
  have p2 := p1.bw bb
  have b2 := b1.trans (bb.mono b1.size)
  clear p1 b1 bb
  go_wp2_with fail
  refine (K2.out _).mono ?_
  rintro e w3 ⟨F, hE1, rfl, q4, bb⟩
  have p3 := p2.bw bb
  have b3 := b2.trans (bb.mono b2.size)
  clear p2 b2 bb
  have f3 := q4
  clear q4
  have pc0 := p3.c0
  have pc1 := p3.c1
  have pc2 := p3.c2
  have pc3 := p3.c3
  have pc4 := p3.c4
  have pc5 := p3.c5
  have pc6 := p3.c6
  have pc7 := p3.c7
  go_wp2_with fail
  refine (KT.out _).mono ?_
  rintro e w4 ⟨rfl, bb⟩
  clear pc0 pc1 pc2 pc3 pc4 pc5 pc6 pc7
  have p4 := p3.bw bb
  have f4 := f3.b bb
  have b4 := b3.trans (bb.mono b3.size)
  clear p3 f3 b3 bb
  have hFl := f4.lt
  have hpl := p4.lt
  have hwl := b4.size
  go_wp2_with fail
  refine (K1.out _).mono ?_
  rintro e w5 ⟨E, hE2, rfl, q4, bb⟩
  have p5 := p4.bw bb
  have f5 := f4.b bb
  have b5 := b4.trans (bb.mono b4.size)
  clear p4 f4 b4 bb
  have e5 := q4
  clear q4
  go_wp2_with fail
  refine (eqIntS_any 4 _ _ _ _ _ _ _ e5.lst f5.lst).mono ?_
  rintro e w6 ⟨rfl, qq⟩
  have bb : Below w5.heap.size w5 w6 := qq.below
  clear qq
  have p6 := p5.bw bb
  have f6 := f5.b bb
  have e6 := e5.b bb
  have b6 := b5.trans (bb.mono b5.size)
  clear p5 f5 e5 b5 bb
  have hFE : F ≠ E := by omega
  have hpE : w.heap.size ≠ E := by omega
  have hcE : ∀ i, i < 4 → (∃ x, w6.cell? ⟨E, i, none⟩ = some (.int .i64 x)) ∧ w6.frozen? ⟨E, i, none⟩ = false := fun i hi => by
    rcases (by omega : i = 0 ∨ i = 1 ∨ i = 2 ∨ i = 3) with rfl | rfl | rfl | rfl
    · exact ⟨⟨_, e6.c0⟩, e6.f0⟩
    · exact ⟨⟨_, e6.c1⟩, e6.f1⟩
    · exact ⟨⟨_, e6.c2⟩, e6.f2⟩
    · exact ⟨⟨_, e6.c3⟩, e6.f3⟩
  have hEl := e6.lt
  go_wp2_with fail
  refine (markI E 4 4 w6 (by omega) hcE).mono ?_
  rintro e w7 ⟨rfl, hW⟩
  have p7 := C8.marked p6 hpE hW
  have hF := (hW.lst f6.lst (fun x hx => by injection hx with hx; subst hx; exact hFE)).more (show w6.heap.size ≤ w7.heap.size by rw [hW.size]; exact Nat.le_refl _)
  have hE := hW.ups (by omega) hEl
  have b7 := b6.trans (hW.bel _ (show w.heap.size ≤ E by omega))
  clear p6 f6 e6 b6 hcE hW
  go_wp2_with fail
  refine (heldI _ 4 _ _ _ hE (by omega)).mono ?_
  rintro e w8 ⟨rfl, qq⟩
  have bb : Below w7.heap.size w7 w8 := qq.below
  clear qq
  have p8 := p7.bw bb
  have b8 := b7.trans (bb.mono b7.size)
  replace hF := (hF.below bb).more bb.size
  replace hE := (hE.below bb).more bb.size
  clear p7 b7 bb 
  have pc0 := p8.c0
  have pc1 := p8.c1
  have pc2 := p8.c2
  have pc3 := p8.c3
  have pc4 := p8.c4
  have pc5 := p8.c5
  have pc6 := p8.c6
  have pc7 := p8.c7
  go_wp2_with fail
  refine (KT.out _).mono ?_
  rintro e w9 ⟨rfl, bb⟩
  clear pc0 pc1 pc2 pc3 pc4 pc5 pc6 pc7
  have p9 := p8.bw bb
  have b9 := b8.trans (bb.mono b8.size)
  replace hF := (hF.below bb).more bb.size
  replace hE := (hE.below bb).more bb.size
  clear p8 b8 bb 
  go_wp2_with fail
  refine (K1.out _).mono ?_
  rintro e w10 ⟨G, hE3, rfl, q4, bb⟩
  have p10 := p9.bw bb
  have b10 := b9.trans (bb.mono b9.size)
  replace hF := (hF.below bb).more bb.size
  replace hE := (hE.below bb).more bb.size
  clear p9 b9 bb 
  have g10 := q4
  clear q4
  go_wp2_with fail
  refine (eqIntS_any 4 _ _ _ _ _ _ _ g10.lst hF).mono ?_
  rintro e w11 ⟨rfl, qq⟩
  have bb : Below w10.heap.size w10 w11 := qq.below
  clear qq
  have p11 := p10.bw bb
  have b11 := b10.trans (bb.mono b10.size)
  replace hF := (hF.below bb).more bb.size
  replace hE := (hE.below bb).more bb.size
  have g11 := g10.b bb
  clear p10 b10 bb g10
  go_wp2_with fail
  refine (heldI _ 4 _ _ _ hE (by omega)).mono ?_
  rintro e w12 ⟨rfl, qq⟩
  have bb : Below w11.heap.size w11 w12 := qq.below
  clear qq
  have p12 := p11.bw bb
  have b12 := b11.trans (bb.mono b11.size)
  replace hF := (hF.below bb).more bb.size
  replace hE := (hE.below bb).more bb.size
  have g12 := g11.b bb
  clear p11 b11 bb g11
  go_wp2
  go_ret
  exact ⟨ret_bool (by first | rfl | (simp; done) | simp_all), b12⟩

/-! ### THE ROW -/
set_option maxRecDepth 100000 in
theorem lifted (os : Os) (started : os.Started) (H : Type) (enc : TypeId × Value → H) :
    ReturnsInHanded {} Try.checked os 11 .any (Rows.fnExactTakeAnswerSpec.pre6 enc Try.prog Try.f11 Rows.fnExactTakeAnswerRow.domain false) (Rows.fnExactTakeAnswerSpec.post enc Try.prog Try.f11 false true false false) := by
  refine returnsInHanded_of_change (C := Try.checked) own started (by kernel_rfl) Try.func11
    (ChangeSpec.witness6 (enc := enc) (C := Try.checked) false ⟨#[], #[.int .i64 0, .agg #[.int .i64 0, .int .i64 0, .int .i64 0, .int .i64 0, .int .i64 0, .int .i64 0, .int .i64 0, .int .i64 0], .int .i64 0], []⟩ 8 (by kernel_rfl) (by kernel_rfl) (by kernel_rfl) (by kernel_rfl)) ?_
  intro W base args ds gs before hval0 hW hcnd _
  have hval : ∀ (j : Nat) t v, Try.f11.params[j]? = some t → args[j]? = some v → Value.okWide Try.prog W .any base t v := hval0
  have hW' := hW
  obtain ⟨p, q, hA0, hV, rfl, hfz, hnd⟩ := hW
  have hA : DataW.TrodAll enc Try.prog W 0 (fun _ => true) true Try.f11.params.toList args.toList ds p := hA0
  rw [Try.params11] at hA hval
  obtain ⟨v0, vs0, d0, ds0, p0, q0, hargs, rfl, rfl, h0, r0⟩ := trodAll_cons hA
  obtain ⟨v1, vs1, d1, ds1, p1, q1, rfl, rfl, rfl, h1, r1⟩ := trodAll_cons r0
  obtain ⟨v2, vs2, d2, ds2, p2, q2, rfl, rfl, rfl, h2, r2⟩ := trodAll_cons r1
  obtain ⟨rfl, rfl, rfl⟩ := trodAll_nil r2
  obtain rfl : args = #[v0, v1, v2] := by cases args; simp_all
  obtain ⟨rfl, rfl⟩ := trodVars_none hV
  obtain ⟨a0, rfl, rfl, rfl, w0⟩ := open_int Try.underlying3 (hval 0 3 v0 rfl rfl) h0
  obtain ⟨u1a, u1b, u1c, u1d, u1e, u1f, u1g, u1h, y1a, y1b, y1c, y1d, y1e, y1f, y1g, y1h, m1, rfl, rfl, rfl, hy1a, hy1b, hy1c, hy1d, hy1e, hy1f, hy1g, hy1h⟩ := open_agg8 Try.underlying44 (by kernel_rfl) cells (hval 1 44 v1 rfl rfl) h1
  obtain ⟨xa1, ea1, rfl, wa1⟩ := DataW.trod_int Try.underlying3 hy1a
  obtain ⟨xb1, eb1, rfl, wb1⟩ := DataW.trod_int Try.underlying3 hy1b
  obtain ⟨xc1, ec1, rfl, wc1⟩ := DataW.trod_int Try.underlying3 hy1c
  obtain ⟨xd1, ed1, rfl, wd1⟩ := DataW.trod_int Try.underlying3 hy1d
  obtain ⟨xe1, ee1, rfl, we1⟩ := DataW.trod_int Try.underlying3 hy1e
  obtain ⟨xf1, ef1, rfl, wf1⟩ := DataW.trod_int Try.underlying3 hy1f
  obtain ⟨xg1, eg1, rfl, wg1⟩ := DataW.trod_int Try.underlying3 hy1g
  obtain ⟨xh1, eh1, rfl, wh1⟩ := DataW.trod_int Try.underlying3 hy1h
  simp at ea1 eb1 ec1 ed1 ee1 ef1 eg1 eh1
  subst ea1
  subst eb1
  subst ec1
  subst ed1
  subst ee1
  subst ef1
  subst eg1
  subst eh1
  obtain ⟨a2, rfl, rfl, rfl, w2⟩ := open_int Try.underlying3 (hval 2 3 v2 rfl rfl) h2
  have reads1 : ∀ (W' : World) (sp : Nat → Bool), DataW.Trod enc Try.prog W' 0 sp true 44 (.agg #[.int .i64 xa1, .int .i64 xb1, .int .i64 xc1, .int .i64 xd1, .int .i64 xe1, .int .i64 xf1, .int .i64 xg1, .int .i64 xh1]) (.agg [.lit (.int .i64 xa1), .lit (.int .i64 xb1), .lit (.int .i64 xc1), .lit (.int .i64 xd1), .lit (.int .i64 xe1), .lit (.int .i64 xf1), .lit (.int .i64 xg1), .lit (.int .i64 xh1)]) [] := fun W' sp =>
    shut_agg8 (y0 := (.lit (.int .i64 xa1), [])) (y1 := (.lit (.int .i64 xb1), [])) (y2 := (.lit (.int .i64 xc1), [])) (y3 := (.lit (.int .i64 xd1), [])) (y4 := (.lit (.int .i64 xe1), [])) (y5 := (.lit (.int .i64 xf1), [])) (y6 := (.lit (.int .i64 xg1), [])) (y7 := (.lit (.int .i64 xh1), [])) Try.underlying44 (by kernel_rfl) cells ⟨1, by simp [DataW.trod, Try.underlying3, wa1]⟩ ⟨1, by simp [DataW.trod, Try.underlying3, wb1]⟩ ⟨1, by simp [DataW.trod, Try.underlying3, wc1]⟩ ⟨1, by simp [DataW.trod, Try.underlying3, wd1]⟩ ⟨1, by simp [DataW.trod, Try.underlying3, we1]⟩ ⟨1, by simp [DataW.trod, Try.underlying3, wf1]⟩ ⟨1, by simp [DataW.trod, Try.underlying3, wg1]⟩ ⟨1, by simp [DataW.trod, Try.underlying3, wh1]⟩
  clear hA0 hval0
  refine (walk a0 xa1 xb1 xc1 xd1 xe1 xf1 xg1 xh1 a2 W w0 wa1 wb1 wc1 wd1 we1 wf1 wg1 wh1 w2).mono fun e W' ⟨he, bel⟩ => ?_
  subst he
  exact ⟨_, rfl, _, _, _, [], _, [], hW', trodAll_mk1 (shut_bool Try.underlying4 _), (trodAll_cons_mk (shut_int Try.underlying3 w0) (trodAll_cons_mk (reads1 _ _) (trodAll_cons_mk (shut_int Try.underlying3 w2) trodAll_mk0))), rfl, bel.frame _, fun h => by cases h⟩

theorem over : Rows.fnExactTakeAnswerRow.holds Try.pinned (OpenSpec.ofChange Rows.fnExactTakeAnswerSpec) :=
  OpenClaim.holds_of_wide 11 Try.f11 rfl rfl rfl rfl rfl rfl rfl ⟨rfl, rfl, rfl, rfl, rfl⟩ rfl rfl rfl rfl rfl (by kernel_rfl) Try.func11 (by kernel_rfl)
    (of_decide_eq_true (by kernel_rfl)) (by unfold Func.isWrapper; first | (rw [if_pos (by decide +kernel)]; kernel_rfl) | (rw [if_neg (by decide +kernel)]; exact ⟨rfl, rfl⟩))
    (fun os started H enc _ => lifted os started H enc)

/-- THE STATEMENT -/
theorem proved : Rows.FnExactTakeAnswerSaid := over
#print axioms proved
end Go.Proofs.Ytigaifnoicnafaa.fnExactTakeAnswer
