/-
  PROVED: FnExactRunSession: for every input the law returns true, and the input reads as it did. The condition that the row lists: the library's tables hold what the library lays in them; the given tie says that they do.
  The frame is as the kit prints it (proof-skeleton.mjs); the walk is mine.
-/
import Derived.Test.YtpfdjmffgbbmdaaGreatDoorRows
import Derived.Test.YtpfdjmffgbbmdaaGreatDoorCopyT
import Derived.Test.YtpfdjmffgbbmdaaGreatDoorRunI
import Derived.Test.YtpfdjmffgbbmdaaGreatDoorRunD
import Derived.Test.YtpfdjmffgbbmdaaGreatDoorP4
import Derived.Test.YtpfdjmffgbbmdaaGreatDoorTie
import Derived.Test.YtpfdjmffgbbmdaaGreatDoorCards
import Derived.LaidMore
import Derived.OpenVars
import Derived.ChangeVars
import Derived.SevenTiedAt
import Derived.WalkKit
import Derived.ProofKit
import Derived.OpenShut
import Derived.ShutString
import Derived.ChangeOld
import Derived.Below
namespace Go.Proofs.YtpfdjmffgbbmdaaGreatDoor.fnExactRunSession
open Go.ChangeShapes Go.WideShapes Go.ChangeAt Go.RowKit
set_option linter.unusedVariables false

theorem own : ownKnob Tryz.prog.godebug = none := by kernel_rfl
theorem laidOut : laidOutB Tryz.prog = true := by kernel_rfl

set_option maxRecDepth 100000 in
set_option maxHeartbeats 4000000 in
theorem walk (a0 : Option Addr) (len0 cap0 : Nat) (w : World) (w0 : TxRow w a0 len0 cap0) (hT : Tb w) (hM : Mx w) :
    Calls Tryz.prog 7 #[.slice a0 len0 cap0] w fun e w' => e = .returned (.bool true) ∧ Below w.heap.size w w' := by
  obtain ⟨T, hR, hsz⟩ := rd_of w0
  have hcap := txrow_cap w0
  have hlen := txrow_bd w0
  have HT := Lib.hid hT
  have HM := Lib.hid hM
  clear w0 hT hM
  go_enter Tryz.func7, Tryz.ntmps7
  go_wp2_with fail
  refine (szStringS_any _ _ _ _ T w hR hlen hsz).mono ?_
  rintro e w1 ⟨z, rfl, hz, hst⟩
  have b1 := hst.below (B := w.heap.size)
  clear hsz hst
  by_cases hz0 : z < 0
  · have HB := Lib.hid b1
    clear b1 hz
    go_wp2
    go_ret
    exact ⟨rfl, HB.out⟩
  obtain ⟨hn, hs⟩ := hz (by omega)
  have HN := Lib.hid (And.intro hn hs)
  have R1 := hR.keep b1 (Nat.le_refl _)
  clear hn hs hz hR
  go_wp2_with fail
  refine (toStringS_any _ _ _ T w1 (R1.more b1.size) HN.out.1).mono ?_
  rintro e w2 ⟨rfl, Rx, hb⟩
  have b2 := b1.trans (hb.mono b1.size)
  have R2 := R1.keep hb b1.size
  clear R1 b1 hb
  go_wp2_with fail
  refine (RS_spec _ _ _ T w2 Rx HN.out.1 HN.out.2).mono ?_
  rintro e w3 ⟨rfl, hb⟩
  have b3 := b2.trans (hb.mono b2.size)
  have R3 := R2.keep hb b2.size
  clear R2 b2 hb Rx
  go_wp2_with fail
  refine (toStringS_any _ _ _ T w3 (R3.more b3.size) HN.out.1).mono ?_
  rintro e w4 ⟨rfl, Ry, hb⟩
  have b4 := b3.trans (hb.mono b3.size)
  have R4 := R3.keep hb b3.size
  clear R3 b3 hb
  go_wp2_with fail
  refine (RS_impl _ _ _ T w4 Ry (Nat.le_refl _) HN.out.1 HN.out.2 (HT.out.b b4) (HM.out.b b4)).mono ?_
  rintro e w5 ⟨rfl, hb⟩
  have b5 := b4.trans (hb.mono b4.size)
  have R5 := R4.keep hb b4.size
  have Ry5 := Ry.keep hb (Nat.le_refl _)
  have z45 := hb.size
  clear R4 b4 hb Ry
  generalize S.mk (outT T) = x
  go_wp2_with fail
  refine (toStringS_any _ _ _ T w5 (R5.more b5.size) HN.out.1).mono ?_
  rintro e w6 ⟨rfl, Rz, hb⟩
  have b6 := b5.trans (hb.mono b5.size)
  have Ry6 := Ry5.keep hb z45
  clear R5 b5 hb Ry5
  go_wp2_with fail
  refine (eqS_15 _ _ len0 _ _ _ _ T w6 Ry6 Rz HN.out.1).mono ?_
  rintro e w7 ⟨rfl, q⟩
  have HB := Lib.hid (b6.trans (q.below (B := w.heap.size)))
  clear b6 Ry6 Rz q
  go_wp2
  go_ret
  exact ⟨rfl, HB.out⟩

/-! ### THE ROW -/
set_option maxRecDepth 100000 in
theorem lifted (os : Os) (started : os.Started) (H : Type) (enc : TypeId × Value → H) :
    ReturnsInHanded {} Tryz.checked os 7 .any (fun w args => (Rows.fnExactRunSessionSpec.pre enc Tryz.prog Tryz.f7 [] false w args ∧ laidMetH Tryz.prog laidL w) ∧ sizedMet enc Tryz.prog Tryz.f7 (OpenSpec.ofChange Rows.fnExactRunSessionSpec) false w args) (Rows.fnExactRunSessionSpec.post enc Tryz.prog Tryz.f7 false true false false) := by
  refine hands_and_shaped (C := Tryz.checked) (X := fun w _ => laidMetH Tryz.prog laidL w) (fun _ _ _ hh h => h.of_heap hh) own started (by kernel_rfl) Tryz.func7
    (ChangeSpec.witness_shaped (enc := enc) (C := Tryz.checked) (os := os) (X := fun w _ => laidMetH Tryz.prog laidL w) false (World.laidAll Tryz.prog os laidL) #[.slice none 0 0] 8 (World.laidAll_os _ _ _) (door_shaped os) (by kernel_rfl) (by kernel_rfl) (by kernel_rfl) (door_met os _)) ?_
  intro W base args ds gs before hval0 hW hL hSh
  have hval : ∀ (j : Nat) t v, Tryz.f7.params[j]? = some t → args[j]? = some v → Value.okWide Tryz.prog W .any base t v := hval0
  have hW' := hW
  obtain ⟨p, q, hA0, hV, rfl, hfz, hnd⟩ := hW
  have hA : DataW.TrodAll enc Tryz.prog W 0 (fun _ => true) true Tryz.f7.params.toList args.toList ds p := hA0
  rw [Tryz.params7] at hA hval
  obtain ⟨v0, vs0, d0, ds0, p0, q0, hargs, rfl, rfl, h0, r0⟩ := trodAll_cons hA
  obtain ⟨rfl, rfl, rfl⟩ := trodAll_nil r0
  obtain rfl : args = #[v0] := by cases args; simp_all
  obtain ⟨rfl, rfl⟩ := trodVars_none hV
  obtain ⟨a0, len0, cap0, rfl⟩ := okWide_slice Tryz.underlying23 (hval 0 23 v0 rfl rfl)
  have k0 := h0
  have lt0 : ∀ x ∈ p0, x.block < W.heap.size := by obtain ⟨m, hm⟩ := k0; exact DataW.trod_lt m _ _ _ hm
  have w0 : TxRow W a0 len0 cap0 := by obtain ⟨fuel, hf⟩ := h0; exact txrow hf
  clear hA0 hval0
  refine (walk a0 len0 cap0 W w0 (of_laid hL) (of_shaped hSh)).mono fun e W' ⟨he, bel⟩ => ?_
  subst he
  exact ⟨_, rfl, _, _, _, [], _, [], hW', trodAll_mk1 (shut_bool Tryz.underlying4 _), (trodAll_cons_mk (Below.trod laidOut (by kernel_rfl) (of_decide_eq_true (by kernel_rfl)) k0 bel lt0) trodAll_mk0), rfl, bel.frame _, fun h => by cases h⟩

theorem over : Rows.fnExactRunSessionRow.holds Tryz.pinned (OpenSpec.ofChange Rows.fnExactRunSessionSpec) :=
  OpenClaim.holds_of_wide 7 Tryz.f7 rfl rfl rfl rfl rfl rfl rfl ⟨rfl, rfl, rfl, rfl, rfl⟩ rfl rfl rfl rfl rfl (by kernel_rfl) Tryz.func7 (by kernel_rfl)
    (of_decide_eq_true (by kernel_rfl)) (by unfold Func.isWrapper; first | (rw [if_pos (by decide +kernel)]; kernel_rfl) | (rw [if_neg (by decide +kernel)]; exact ⟨rfl, rfl⟩))
    (fun os started H enc _ => lifted os started H enc)

/-- THE STATEMENT -/
theorem proved : Rows.FnExactRunSessionCardSaid :=
  Claim7.holds_tied_plain_at .later [] [.data, .data, .data, .data, .pinned] true (true, "39cf604a1134d02f58146b436bc1bd784b84c6aff116df562854736a3991f4b0") false over (fun _ h => by cases h) (by kernel_rfl) (fun _ h => by cases h) fnExactRunSession_row_tie rfl ⟨rfl, rfl⟩ (by kernel_rfl) rfl
    (fun f fn hf hfn => by
      obtain rfl : f = 7 := Option.some.inj ((show Tryz.prog.funcNamed "loop.example/satelliteclock/laws.FnExactRunSession" = some 7 by kernel_rfl).symm.trans hf) |>.symm
      obtain rfl : fn = Tryz.f7 := (Option.some.inj (Tryz.func7.symm.trans hfn)).symm
      exact ⟨by kernel_rfl, fun j t ht => by
        rw [Tryz.params7] at ht
        have hm : t ∈ [23] := by simpa using Array.mem_of_getElem? ht
        have hall : ([23].all fun u => !Tryz.prog.wantsStandIn u) = true := by kernel_rfl
        exact (show Tryz.prog.wantsStandIn t = false by simpa using List.all_eq_true.1 hall t hm)⟩)
    (by kernel_rfl)
#print axioms proved
end Go.Proofs.YtpfdjmffgbbmdaaGreatDoor.fnExactRunSession
