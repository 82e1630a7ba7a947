/-
  PROVED: FnExactNextPoll: for every input the law returns true, and the input reads as it did. The condition that the row lists: the table of rules (impl.pollRules) holds what the program lays in it; the given tie says that it does.
  The frame is as the kit prints it (proof-skeleton.mjs); the walk is mine.
-/
import Derived.Test.YthbfjmlkcgcgaaaDoorRows
import Derived.Test.YthbfjmlkcgcgaaaDoorNextS
import Derived.Test.YthbfjmlkcgcgaaaDoorCopyPl
import Derived.Test.YthbfjmlkcgcgaaaDoorDoor
import Derived.Test.YthbfjmlkcgcgaaaDoorTie
import Derived.Test.YthbfjmlkcgcgaaaDoorCards
import Derived.LaidMore
import Derived.OpenVars
import Derived.ChangeVars
import Derived.SevenTiedAt
import Derived.WalkKit
import Derived.ProofKit
import Derived.OpenShut
import Derived.ShutString
import Derived.ChangeOld
import Derived.Below
import Derived.Lib.SmallJoins
namespace Go.Proofs.YthbfjmlkcgcgaaaDoor.fnExactNextPoll
open Go.ChangeShapes Go.WideShapes Go.ChangeAt Go.RowKit Go.Joins
set_option linter.unusedVariables false

theorem own : ownKnob Tryd.prog.godebug = none := by kernel_rfl
theorem laidOut : laidOutB Tryd.prog = true := by kernel_rfl
theorem cells : Tryd.prog.cellsOf 37 = 2 := by kernel_rfl

set_option maxRecDepth 100000 in
set_option maxHeartbeats 4000000 in
theorem walk (a0 b0 : Int) (a1 : Int) (a2 : Int) (w : World) (wa0 : (Lit.int .i64 a0).wf = true) (wb0 : (Lit.int .i64 b0).wf = true) (w1 : (Lit.int .i64 a1).wf = true) (w2 : (Lit.int .i64 a2).wf = true) (hg : Gl w) :
    Calls Tryd.prog 9 #[.agg #[.int .i64 a0, .int .i64 b0], .int .i64 a1, .int .i64 a2] w fun e w' => e = .returned (.bool true) ∧ Below w.heap.size w w' := by
  have b1 := (Below.refl w.heap.size w).alloc (Nat.le_refl _) (.cells #[.int .i64 a0, .int .i64 b0] 37)
  have p1 := P2.new w a0 b0 37
  have g1 := hg.al (.cells #[.int .i64 a0, .int .i64 b0] 37)
  have KT := Lib.hid (fun w' => toPoll_any a0 b0 w')
  clear hg
  by_cases hk : ¬ J.Ok a0 b0 a1 a2
  · have K1k := fun w' => NP_impl_no a0 b0 a1 a2 w' hk
    have K1 := Lib.hid K1k
    clear K1k
    have K2k := fun w' => NP_spec_no a0 b0 a1 a2 w' hk
    have K2 := Lib.hid K2k
    clear K2k
    have KE := Lib.hid (fun w' => eqPoll_same 0 0 w')
    clear hk
    go_enter Tryd.func9, Tryd.ntmps9
    have pc0 := p1.c0
    have pc1 := p1.c1
    go_wp2_with fail
    refine (KT.out _).mono ?_
    rintro e w2 ⟨rfl, bb⟩
    clear pc0 pc1
    have p2 := p1.b bb
    have g2 := g1.b bb
    have b2 := b1.trans (bb.mono b1.size)
    clear p1 g1 b1 bb
    go_wp2_with fail
    refine (K2.out _).mono ?_
    rintro e w3 ⟨rfl, bb⟩
    have p3 := p2.b bb
    have g3 := g2.b bb
    have b3 := b2.trans (bb.mono b2.size)
    clear p2 g2 b2 bb
    replace p3 := p3.al (.cells #[.int .i64 0, .int .i64 0] 24)
    replace g3 := g3.al (.cells #[.int .i64 0, .int .i64 0] 24)
    replace b3 := b3.alloc b3.size (.cells #[.int .i64 0, .int .i64 0] 24)
    have r3 := P2.new w3 0 0 24
    have pc0 := p3.c0
    have pc1 := p3.c1
    go_wp2_with fail
    refine (KT.out _).mono ?_
    rintro e w4 ⟨rfl, bb⟩
    clear pc0 pc1
    have p4 := p3.b bb
    have r4 := r3.b bb
    have g4 := g3.b bb
    have b4 := b3.trans (bb.mono b3.size)
    clear p3 r3 g3 b3 bb
    go_wp2_with fail
    refine (K1.out _).mono ?_
    rintro e w5 ⟨rfl, bb⟩
    have p5 := p4.b bb
    have r5 := r4.b bb
    have g5 := g4.b bb
    have b5 := b4.trans (bb.mono b4.size)
    clear p4 r4 g4 b4 bb
    replace p5 := p5.al (.cells #[.int .i64 0, .int .i64 0] 24)
    replace r5 := r5.al (.cells #[.int .i64 0, .int .i64 0] 24)
    replace g5 := g5.al (.cells #[.int .i64 0, .int .i64 0] 24)
    replace b5 := b5.alloc b5.size (.cells #[.int .i64 0, .int .i64 0] 24)
    have q5 := P2.new w5 0 0 24
    have qc0 := q5.c0
    have qc1 := q5.c1
    have rc0 := r5.c0
    have rc1 := r5.c1
    go_wp2_with fail
    refine (KE.out _).mono ?_
    rintro e w6 ⟨rfl, bb⟩
    clear qc0 qc1 rc0 rc1
    have p6 := p5.b bb
    have r6 := r5.b bb
    have q6 := q5.b bb
    have g6 := g5.b bb
    have b6 := b5.trans (bb.mono b5.size)
    clear p5 r5 q5 g5 b5 bb
    go_wp2
    go_ret
    exact ⟨ret_bool (by first | rfl | (simp; done) | simp_all), b6⟩
  · have hk := Decidable.not_not.mp hk
    have K1k := fun w' (hg' : Gl w') => NP_impl_yes a0 b0 a1 a2 w' hg' hk
    have K1 := Lib.hid K1k
    clear K1k
    have K2k := fun w' => NP_spec_yes a0 b0 a1 a2 w' hk
    have K2 := Lib.hid K2k
    clear K2k
    clear hk
    generalize J.np a0 b0 a1 a2 = x at *
    generalize J.nc a0 b0 a1 a2 = y at *
    have KE := Lib.hid (fun w' => eqPoll_same x y w')
    go_enter Tryd.func9, Tryd.ntmps9
    have pc0 := p1.c0
    have pc1 := p1.c1
    go_wp2_with fail
    refine (KT.out _).mono ?_
    rintro e w2 ⟨rfl, bb⟩
    clear pc0 pc1
    have p2 := p1.b bb
    have g2 := g1.b bb
    have b2 := b1.trans (bb.mono b1.size)
    clear p1 g1 b1 bb
    go_wp2_with fail
    refine (K2.out _).mono ?_
    rintro e w3 ⟨rfl, bb⟩
    have p3 := p2.b bb
    have g3 := g2.b bb
    have b3 := b2.trans (bb.mono b2.size)
    clear p2 g2 b2 bb
    replace p3 := p3.al (.cells #[.int .i64 x, .int .i64 y] 24)
    replace g3 := g3.al (.cells #[.int .i64 x, .int .i64 y] 24)
    replace b3 := b3.alloc b3.size (.cells #[.int .i64 x, .int .i64 y] 24)
    have r3 := P2.new w3 x y 24
    have pc0 := p3.c0
    have pc1 := p3.c1
    go_wp2_with fail
    refine (KT.out _).mono ?_
    rintro e w4 ⟨rfl, bb⟩
    clear pc0 pc1
    have p4 := p3.b bb
    have r4 := r3.b bb
    have g4 := g3.b bb
    have b4 := b3.trans (bb.mono b3.size)
    clear p3 r3 g3 b3 bb
    go_wp2_with fail
    refine (K1.out _ g4).mono ?_
    rintro e w5 ⟨rfl, bb⟩
    have p5 := p4.b bb
    have r5 := r4.b bb
    have g5 := g4.b bb
    have b5 := b4.trans (bb.mono b4.size)
    clear p4 r4 g4 b4 bb
    replace p5 := p5.al (.cells #[.int .i64 x, .int .i64 y] 24)
    replace r5 := r5.al (.cells #[.int .i64 x, .int .i64 y] 24)
    replace g5 := g5.al (.cells #[.int .i64 x, .int .i64 y] 24)
    replace b5 := b5.alloc b5.size (.cells #[.int .i64 x, .int .i64 y] 24)
    have q5 := P2.new w5 x y 24
    have qc0 := q5.c0
    have qc1 := q5.c1
    have rc0 := r5.c0
    have rc1 := r5.c1
    go_wp2_with fail
    refine (KE.out _).mono ?_
    rintro e w6 ⟨rfl, bb⟩
    clear qc0 qc1 rc0 rc1
    have p6 := p5.b bb
    have r6 := r5.b bb
    have q6 := q5.b bb
    have g6 := g5.b bb
    have b6 := b5.trans (bb.mono b5.size)
    clear p5 r5 q5 g5 b5 bb
    go_wp2
    go_ret
    exact ⟨ret_bool (by first | rfl | (simp; done) | simp_all), b6⟩

/-! ### THE ROW -/
set_option maxRecDepth 100000 in
theorem lifted (os : Os) (started : os.Started) (H : Type) (enc : TypeId × Value → H) :
    ReturnsInHanded {} Tryd.checked os 9 .any (fun w args => (Rows.fnExactNextPollSpec.pre enc Tryd.prog Tryd.f9 [] false w args ∧ laidMetH Tryd.prog laidL w) ∧ sizedMet enc Tryd.prog Tryd.f9 (OpenSpec.ofChange Rows.fnExactNextPollSpec) false w args) (Rows.fnExactNextPollSpec.post enc Tryd.prog Tryd.f9 false true false false) := by
  refine returnsInHanded_of_change_and (C := Tryd.checked) (X := fun w _ => laidMetH Tryd.prog laidL w) (fun _ _ _ hh h => h.of_heap hh) own started (by kernel_rfl) Tryd.func9
    (ChangeSpec.witness_shaped (enc := enc) (C := Tryd.checked) (os := os) (X := fun w _ => laidMetH Tryd.prog laidL w) false (World.doorLaid Tryd.prog 400 os) #[.agg #[.int .i64 0, .int .i64 0], .int .i64 0, .int .i64 0] 8 rfl (World.shaped_of_RefB (by kernel_rfl) (by kernel_rfl)) (by kernel_rfl) (by kernel_rfl) (by kernel_rfl) (door_met os _)) ?_
  intro W base args ds gs before hval0 hW _ _ hL _
  have hval : ∀ (j : Nat) t v, Tryd.f9.params[j]? = some t → args[j]? = some v → Value.okWide Tryd.prog W .any base t v := hval0
  have hW' := hW
  obtain ⟨p, q, hA0, hV, rfl, hfz, hnd⟩ := hW
  have hA : DataW.TrodAll enc Tryd.prog W 0 (fun _ => true) true Tryd.f9.params.toList args.toList ds p := hA0
  rw [Tryd.params9] at hA hval
  obtain ⟨v0, vs0, d0, ds0, p0, q0, hargs, rfl, rfl, h0, r0⟩ := trodAll_cons hA
  obtain ⟨v1, vs1, d1, ds1, p1, q1, rfl, rfl, rfl, h1, r1⟩ := trodAll_cons r0
  obtain ⟨v2, vs2, d2, ds2, p2, q2, rfl, rfl, rfl, h2, r2⟩ := trodAll_cons r1
  obtain ⟨rfl, rfl, rfl⟩ := trodAll_nil r2
  obtain rfl : args = #[v0, v1, v2] := by cases args; simp_all
  have hVk : DataW.TrodVars enc Tryd.prog W (fun _ => true) [VN] gs q := hV
  obtain ⟨vg, vt, vcs, vf, vd, vp, rfl, vh1, vh2, vh3, vh4, rfl⟩ := trodVars_one (n := VN) hV
  obtain ⟨u0, u0_, y0, y0_, m0, rfl, rfl, rfl, hy0, hy0_⟩ := open_agg2 Tryd.underlying37 (by kernel_rfl) cells (hval 0 37 v0 rfl rfl) h0
  obtain ⟨a0, ea0, rfl, wa0⟩ := DataW.trod_int Tryd.underlying3 hy0
  obtain ⟨b0, eb0, rfl, wb0⟩ := DataW.trod_int Tryd.underlying3 hy0_
  simp at ea0 eb0
  subst ea0 eb0
  obtain ⟨a1, rfl, rfl, rfl, w1⟩ := open_int Tryd.underlying3 (hval 1 3 v1 rfl rfl) h1
  obtain ⟨a2, rfl, rfl, rfl, w2⟩ := open_int Tryd.underlying3 (hval 2 3 v2 rfl rfl) h2
  have reads0 : ∀ (W' : World) (sp : Nat → Bool), DataW.Trod enc Tryd.prog W' 0 sp true 37 (.agg #[.int .i64 a0, .int .i64 b0]) (.agg [.lit (.int .i64 a0), .lit (.int .i64 b0)]) [] := fun W' sp =>
    shut_agg2 (y0 := (.lit (.int .i64 a0), [])) (y1 := (.lit (.int .i64 b0), [])) Tryd.underlying37 (by kernel_rfl) cells ⟨1, by simp [DataW.trod, Tryd.underlying3, wa0]⟩ ⟨1, by simp [DataW.trod, Tryd.underlying3, wb0]⟩
  clear hA0 hval0
  refine (walk a0 b0 a1 a2 W wa0 wb0 w1 w2 (of_laid hL)).mono fun e W' ⟨he, bel⟩ => ?_
  subst he
  exact ⟨_, rfl, _, _, _, [], _, _, hW', trodAll_mk1 (shut_bool Tryd.underlying4 _), (trodAll_cons_mk (reads0 _ _) (trodAll_cons_mk (shut_int Tryd.underlying3 w1) (trodAll_cons_mk (shut_int Tryd.underlying3 w2) trodAll_mk0))), Below.trodVars laidOut bel (by kernel_rfl) hVk, bel.frame _, fun h => by cases h⟩

theorem over : Rows.fnExactNextPollRow.holds Tryd.pinned (OpenSpec.ofChange Rows.fnExactNextPollSpec) :=
  OpenClaim.holds_of_wide 9 Tryd.f9 rfl rfl rfl rfl rfl rfl rfl ⟨rfl, rfl, rfl, rfl, rfl⟩ rfl rfl rfl rfl rfl (by kernel_rfl) Tryd.func9 (by kernel_rfl)
    (of_decide_eq_true (by kernel_rfl)) (by unfold Func.isWrapper; first | (rw [if_pos (by decide +kernel)]; kernel_rfl) | (rw [if_neg (by decide +kernel)]; exact ⟨rfl, rfl⟩))
    (fun os started H enc _ => lifted os started H enc)

/-- THE STATEMENT -/
theorem proved : Rows.FnExactNextPollCardSaid :=
  Claim7.holds_tied_plain_at .later [] [.data] true (true, "f2e49cd36c93ffb06ebc91e7e571fd3580a7b60fdc3852441a80230de0c8a5b1") false over (fun _ h => by cases h) (by kernel_rfl) (fun _ h => by cases h) fnExactNextPoll_row_tie rfl ⟨rfl, rfl⟩ (by kernel_rfl) rfl
    (fun f fn hf hfn => by
      obtain rfl : f = 9 := Option.some.inj ((show Tryd.prog.funcNamed "loop.example/satelliteclock/laws.FnExactNextPoll" = some 9 by kernel_rfl).symm.trans hf) |>.symm
      obtain rfl : fn = Tryd.f9 := (Option.some.inj (Tryd.func9.symm.trans hfn)).symm
      exact ⟨by kernel_rfl, fun j t ht => by
        rw [Tryd.params9] at ht
        have hm : t ∈ [37, 3, 3] := by simpa using Array.mem_of_getElem? ht
        have hall : ([37, 3, 3].all fun u => !Tryd.prog.wantsStandIn u) = true := by kernel_rfl
        exact (show Tryd.prog.wantsStandIn t = false by simpa using List.all_eq_true.1 hall t hm)⟩)
    (by kernel_rfl)
#print axioms proved
end Go.Proofs.YthbfjmlkcgcgaaaDoor.fnExactNextPoll
