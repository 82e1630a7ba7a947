/-
  PROVED: FnExactParseFix: for every input the law returns true, and the input reads as it did. The condition that the row lists: the library's tables hold what the library lays in them; the given tie says that they do.
  The frame is as the kit prints it (proof-skeleton.mjs); the walk is mine.
-/
import Derived.Test.YtopaglepkpblaaaDoorRows
import Derived.Test.YtopaglepkpblaaaDoorReadF
import Derived.Test.YtopaglepkpblaaaDoorParseF
import Derived.Test.YtopaglepkpblaaaDoorDoorT
import Derived.Test.YtopaglepkpblaaaDoorTie
import Derived.Test.YtopaglepkpblaaaDoorCards
import Derived.LaidMore
import Derived.OpenVars
import Derived.ChangeVars
import Derived.SevenTiedAt
import Derived.WalkKit
import Derived.ProofKit
import Derived.OpenShut
import Derived.ShutString
import Derived.ChangeOld
import Derived.Below
namespace Go.Proofs.YtopaglepkpblaaaDoor.fnExactParseFix
open Go.ChangeShapes Go.WideShapes Go.ChangeAt Go.RowKit
open Go.ChangeMaps (open_string shut_string)
set_option linter.unusedVariables false      -- a walk need not use every 'w<i>' (that an integer argument fits its kind)

theorem own : ownKnob Tryd.prog.godebug = none := by kernel_rfl

/-! ### STEP 1: THE WALK: the Go text returns true. 'Grown w w'': the world has at most new blocks (Derived/RowKit3.lean). Part the cases AHEAD of 'go_enter' where a test parts the walk; take each callee by a contract of your own. -/
set_option maxRecDepth 100000 in
set_option maxHeartbeats 2000000 in
theorem walk (a0 : ByteArray) (w0 : a0.size ≤ maxLen) (w : World) (hT : Tb w) :
    Calls Tryd.prog 7 #[.string a0] w fun e w' => e = .returned (.bool true) ∧ Below w.heap.size w w' := by
  by_cases hl : 1048576 < a0.size
  · have hl' : (1048576 : Int) < (a0.size : Int) := by omega
    clear hl
    go_enter Tryd.func7, Tryd.ntmps7
    go_wp2
    go_ret
    exact ⟨rfl, Below.refl _ _⟩
  have hl' : ¬ (1048576 : Int) < (a0.size : Int) := by omega
  have hm : a0.size ≤ 1048576 := by omega
  have K1 := Lib.hid (fun w' => pf_spec a0 hm w')
  have K2 := Lib.hid (fun w' (h : Tb w') => pf_impl a0 hm w' h)
  have HT := Lib.hid hT
  clear hl hT
  generalize X.py a0 = y at *
  generalize X.pm a0 = m at *
  generalize X.pd a0 = d at *
  generalize X.ps a0 = t at *
  generalize X.pn a0 = n at *
  generalize X.pB a0 = ok at *
  go_enter Tryd.func7, Tryd.ntmps7
  go_wp2_with fail
  refine (K1.out _).mono ?_
  rintro e w1 ⟨rfl, b1⟩
  have k1 := C5.new w1 y m d t n 26
  have g1 := b1.alloc b1.size (.cells #[.int .i64 y, .int .i64 m, .int .i64 d, .int .i64 t, .int .i64 n] 26)
  clear b1
  go_wp2_with fail
  refine (K2.out _ (HT.out.b g1)).mono ?_
  rintro e w2 ⟨rfl, b2⟩
  have g2 := g1.trans (b2.mono g1.size)
  have k2 := k1.b b2
  have k3 := k2.al (.cells #[.int .i64 y, .int .i64 m, .int .i64 d, .int .i64 t, .int .i64 n] 26)
  have g3 := g2.alloc g2.size (.cells #[.int .i64 y, .int .i64 m, .int .i64 d, .int .i64 t, .int .i64 n] 26)
  obtain ⟨c0, c1, c2, c3, c4, cl⟩ := k2
  clear b2 g1 g2 k1 k3
  go_wp2_with fail
  refine (eqFix_same _ _ _ _ _ _).mono ?_
  rintro e w4 ⟨rfl, hb⟩
  have g4 := g3.trans (hb.mono g3.size)
  clear hb
  go_wp2
  go_ret
  exact ⟨ret_bool (by simp), g4⟩

/-! ### THE ROW's STEP: WRITTEN OUT: LEAVE IT -/
set_option maxRecDepth 100000 in
theorem lifted (os : Os) (started : os.Started) (H : Type) (enc : TypeId × Value → H) :
    ReturnsInHanded {} Tryd.checked os 7 .any (fun w args => (Rows.fnExactParseFixSpec.pre enc Tryd.prog Tryd.f7 [] false w args ∧ laidMetH Tryd.prog laidL w) ∧ sizedMet enc Tryd.prog Tryd.f7 (OpenSpec.ofChange Rows.fnExactParseFixSpec) false w args) (Rows.fnExactParseFixSpec.post enc Tryd.prog Tryd.f7 false true false false) := by
  refine returnsInHanded_of_change_and (C := Tryd.checked) (X := fun w _ => laidMetH Tryd.prog laidL w) (fun _ _ _ hh h => h.of_heap hh) own started (by kernel_rfl) Tryd.func7
    (ChangeSpec.witness_shaped (enc := enc) (C := Tryd.checked) (os := os) (X := fun w _ => laidMetH Tryd.prog laidL w) false (World.doorLaid Tryd.prog 400 os) #[.string ByteArray.empty] 8 rfl (World.shaped_of_RefB (by kernel_rfl) (by kernel_rfl)) (by kernel_rfl) (by kernel_rfl) (by kernel_rfl) (door_met os _)) ?_
  intro W base args ds gs before hval0 hW _ _ hL _
  have hval : ∀ (j : Nat) t v, Tryd.f7.params[j]? = some t → args[j]? = some v → Value.okWide Tryd.prog W .any base t v := hval0
  have hW' := hW
  obtain ⟨p, q, hA0, hV, rfl, hfz, hnd⟩ := hW
  have hA : DataW.TrodAll enc Tryd.prog W 0 (fun _ => true) true Tryd.f7.params.toList args.toList ds p := hA0
  rw [Tryd.params7] at hA hval
  obtain ⟨v0, vs0, d0, ds0, p0, q0, hargs, rfl, rfl, h0, r0⟩ := trodAll_cons hA
  obtain ⟨rfl, rfl, rfl⟩ := trodAll_nil r0
  obtain rfl : args = #[v0] := by cases args; simp_all
  obtain ⟨rfl, rfl⟩ := trodVars_none hV
  obtain ⟨a0, rfl, rfl, rfl, w0⟩ := open_string Tryd.underlying9 (hval 0 9 v0 rfl rfl) h0
  clear hA0 hval0
  simp only [List.append_nil] at hW'
  refine (walk a0 w0 W (of_laid hL)).mono fun e W' ⟨he, bel⟩ => ?_
  subst he
  exact ⟨_, rfl, _, _, _, [], [], [], hW', trodAll_mk1 (shut_bool Tryd.underlying4 _), (trodAll_cons_mk (shut_string Tryd.underlying9 w0) trodAll_mk0), rfl, bel.frame _, fun h => by cases h⟩

theorem over : Rows.fnExactParseFixRow.holds Tryd.pinned (OpenSpec.ofChange Rows.fnExactParseFixSpec) :=
  OpenClaim.holds_of_wide 7 Tryd.f7 rfl rfl rfl rfl rfl rfl rfl ⟨rfl, rfl, rfl, rfl, rfl⟩ rfl rfl rfl rfl rfl (by kernel_rfl) Tryd.func7 (by kernel_rfl)
    (of_decide_eq_true (by kernel_rfl)) (by unfold Func.isWrapper; first | (rw [if_pos (by decide +kernel)]; kernel_rfl) | (rw [if_neg (by decide +kernel)]; exact ⟨rfl, rfl⟩))
    (fun os started H enc _ => lifted os started H enc)

/-- ████ THE STATEMENT ████ -/
theorem proved : Rows.FnExactParseFixCardSaid :=
  Claim7.holds_tied_plain_at .later [] [.data, .data, .data] true (true, "7534c950e1b8b3a09554c010951edfac61193f197bf831e8d8661f5276180141") false over (fun _ h => by cases h) (by kernel_rfl) (fun _ h => by cases h) fnExactParseFix_row_tie rfl ⟨rfl, rfl⟩ (by kernel_rfl) rfl
    (fun f fn hf hfn => by
      obtain rfl : f = 7 := Option.some.inj ((show Tryd.prog.funcNamed "loop.example/satelliteclock/laws.FnExactParseFix" = some 7 by kernel_rfl).symm.trans hf) |>.symm
      obtain rfl : fn = Tryd.f7 := (Option.some.inj (Tryd.func7.symm.trans hfn)).symm
      exact ⟨by kernel_rfl, fun j t ht => by
        rw [Tryd.params7] at ht
        have hm : t ∈ [9] := by simpa using Array.mem_of_getElem? ht
        have hall : ([9].all fun u => !Tryd.prog.wantsStandIn u) = true := by kernel_rfl
        exact (show Tryd.prog.wantsStandIn t = false by simpa using List.all_eq_true.1 hall t hm)⟩)
    (by kernel_rfl)
#print axioms proved
end Go.Proofs.YtopaglepkpblaaaDoor.fnExactParseFix
