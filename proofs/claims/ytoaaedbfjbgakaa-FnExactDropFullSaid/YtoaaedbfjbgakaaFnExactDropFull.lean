/-
  PROVED: FnExactDropFull: for every input the law returns true, and the input reads as it did. No condition.
  The frame is as the kit prints it (proof-skeleton.mjs); the walk is mine.
-/
import Derived.Test.YtoaaedbfjbgakaaRows
import Derived.Test.YtoaaedbfjbgakaaSpecB
import Derived.Test.YtoaaedbfjbgakaaMapB
import Derived.Test.YtoaaedbfjbgakaaDropF
import Derived.Test.YtoaaedbfjbgakaaMarkBk
import Derived.Test.YtoaaedbfjbgakaaCopyBk
import Derived.Test.YtoaaedbfjbgakaaJoin
import Derived.WalkKit
import Derived.ProofKit
import Derived.OpenShut
import Derived.ShutString
import Derived.ChangeOld
import Derived.Below
namespace Go.Proofs.Ytoaaedbfjbgakaa.fnExactDropFull
open Go.ChangeShapes Go.WideShapes Go.ChangeAt Go.RowKit
set_option linter.unusedVariables false

theorem own : ownKnob Try.prog.godebug = none := by kernel_rfl
theorem laidOut : laidOutB Try.prog = true := by kernel_rfl

set_option maxRecDepth 100000 in
set_option maxHeartbeats 16000000 in
theorem walk (a0 : Option Addr) (len0 cap0 : Nat) (a1 : Int) (w : World) (w0 : BkRow w a0 len0 cap0) (w1 : (Lit.int .i64 a1).wf = true) :
    Calls Try.prog 8 #[.slice a0 len0 cap0, .int .i64 a1] w fun e w' => e = .returned (.bool true) ∧ Below w.heap.size w w' := by
  by_cases hl : 1048576 < len0
  · have hb := bkrow_bd w0
    clear w0
    go_enter Try.func8, Try.ntmps8
    go_wp2_with (go_at_call 16; refine (szBucketS_no _ _ _ _ hl hb).mono ?_; rintro e w' ⟨rfl, rfl⟩)
    go_ret
    exact ⟨rfl, Below.refl _ _⟩
  have hle : len0 ≤ 1048576 := by omega
  obtain ⟨l, hL⟩ := bk_of w0 hle
  clear w0 hl
  go_enter Try.func8, Try.ntmps8
  go_wp2_with fail
  refine (szBucketS_ok _ _ _ _ hle).mono ?_
  rintro e w1' ⟨⟨z, rfl, hz⟩, rfl⟩
  have hz' : ¬ z < 0 := by omega
  have hlen0 : l.length = len0 := hL.1
  have hdl := (B.df_len l a1).2
  have k1 := fun n c a w' (h : Sms w'.heap.size w' a n l) => DF_spec n c a l a1 w' h
  have k2 := fun n c a w' (h : Sms w'.heap.size w' a n l) => DF_impl n c a l a1 w' h
  generalize B.df l a1 = d at *
  have hA1 := hL
  obtain ⟨q, hq⟩ : ∃ q, d.length = q := ⟨_, rfl⟩
  have HQ := Lib.hid hq
  have HLE := Lib.hid hlen0
  rw [hq] at hdl
  have K1 := Lib.hid k1
  have K2 := Lib.hid k2
  clear k1 k2 hq hlen0 hz
  go_wp2_with fail
  refine (toBucketS_any len0 cap0 a0 l w hL).mono ?_
  rintro e w2 ⟨rfl, hX2, b2⟩
  have A2 := hA1.below b2
  have bl2 := b2
  clear hL b2 hA1
  go_wp2_with fail
  refine (K1.out _ _ _ _ hX2).mono ?_
  rintro e w4 ⟨a3, c3, rfl, N4, b4⟩
  have P4 := (N4.sms (by have := HQ.out; omega)).1
  rw [HQ.out] at P4 ⊢
  have A4 := A2.below (b4.mono bl2.size)
  have bl4 := bl2.trans (b4.mono bl2.size)
  clear N4 b4 A2 bl2 hX2
  go_wp2_with fail
  refine (toBucketS_own len0 cap0 a0 l w4 (A4.more bl4.size)).mono ?_
  rintro e w5 ⟨rfl, X5, b5⟩
  have A5 := A4.below (b5.mono bl4.size)
  have P5 := P4.below b5
  have bl5 := bl4.trans (b5.mono bl4.size)
  have XL5 := (X5.sms' (by have := HLE.out; omega))
  rw [HLE.out] at XL5
  have hE5 : w4.heap.size < w5.heap.size := by
    obtain ⟨g, _, h1, h2⟩ | ⟨g, e, h1, h2, _⟩ := X5.mk
    · cases g
    · injection e with e; injection e with e; omega
  have M5 := X5.mk
  rw [HLE.out] at M5
  have hww : w.heap.size ≤ w4.heap.size := bl4.size
  clear b5 bl4 A4 P4 X5
  generalize w4.heap.size = E3 at *
  go_wp2_with fail
  refine (K2.out _ _ _ _ XL5).mono ?_
  rintro e w6 ⟨a6, c6, rfl, N6, b6⟩
  have G6 := (N6.sms (by have := HQ.out; omega)).1
  have MG6 := N6.mk
  rw [HQ.out] at G6 MG6 ⊢
  have A6 := A5.below (b6.mono bl5.size)
  have P6 := P5.below (b6.mono (by omega))
  have M6 := M5.keep b6
  have XL6 := (XL5.below b6).more b6.size
  have bl6 := bl5.trans (b6.mono bl5.size)
  have hE6 : E3 < w6.heap.size := Nat.lt_of_lt_of_le hE5 b6.size
  have hgE : E3 < w5.heap.size := hE5
  clear N6 b6 A5 P5 M5 XL5 bl5
  generalize w5.heap.size = E5 at *
  go_wp2_with fail
  refine (eqBucketS_same q c6 c3 a6 a3 d w6 G6 (P6.more (by omega))).mono ?_
  rintro e w7 ⟨rfl, b7⟩
  have G7 := (G6.below b7).more b7.size
  have P7 := P6.below (b7.mono (by omega))
  have A7 := A6.below (b7.mono bl6.size)
  have M7 := M6.keep b7
  have MG7 := MG6.keep b7
  have XL7 := (XL6.below b7).more b7.size
  have bl7 := bl6.trans (b7.mono bl6.size)
  have hE7 := Nat.lt_of_lt_of_le hE6 b7.size
  clear G6 P6 A6 M6 MG6 XL6 bl6 b7 hE6
  go_wp2_with fail
  refine (toBucketS_any len0 cap0 a0 l w7 (A7.more bl7.size)).mono ?_
  rintro e w8 ⟨rfl, hX8, b8⟩
  have G8 := (G7.below b8).more b8.size
  have P8 := P7.below (b8.mono (by omega))
  have A8 := A7.below (b8.mono bl7.size)
  have M8 := M7.keep b8
  have MG8 := MG7.keep b8
  have XL8 := (XL7.below b8).more b8.size
  have bl8 := bl7.trans (b8.mono bl7.size)
  have hE8 := Nat.lt_of_lt_of_le hE7 b8.size
  clear G7 P7 A7 M7 MG7 XL7 bl7 b8 hE7
  go_wp2_with fail
  refine (eqBucketS_same len0 len0 len0 _ _ l w8 XL8 hX8).mono ?_
  rintro e w9 ⟨rfl, b9⟩
  have G9 := (G8.below b9).more b9.size
  have P9 := P8.below (b9.mono (by omega))
  have A9 := A8.below (b9.mono bl8.size)
  have M9 := M8.keep b9
  have MG9 := MG8.keep b9
  have bl9 := bl8.trans (b9.mono bl8.size)
  have hE9 := Nat.lt_of_lt_of_le hE8 b9.size
  clear G8 P8 A8 M8 MG8 XL8 hX8 bl8 b9 hE8
  go_wp2_with fail
  refine (markQ_any w9 _ len0 len0 _ M9 hle).mono ?_
  rintro e w10 ⟨rfl, W10⟩
  have neG : ∀ x g, a6 = some x → (some ⟨E3, 0, none⟩ : Option Addr) = some g → x.block ≠ g.block := fun x g hx hg => by
    injection hg with hg
    rcases MG9 with h | ⟨g', e', h1, _⟩
    · rw [h.1] at hx; cases hx
    · rw [e'] at hx; injection hx with hx; subst hx; subst hg; show g' ≠ E3; omega
  have G10 := (W10.sms G9 neG).more (Nat.le_of_eq W10.size.symm)
  have MG10 := W10.mk MG9 neG
  have bE10 : Below E3 w9 w10 := W10.below (fun g hg => by injection hg with hg; subst hg; exact Nat.le_refl _)
  have P10 := P9.below bE10
  have A10 := A9.below (bE10.mono hww)
  have bl10 := bl9.trans (bE10.mono hww)
  have hs10 := W10.size
  have hE10 : E3 < w10.heap.size := by omega
  have hk0 : ¬ ((len0 : Int) * 3 + 1 < 0) := by omega
  have hq0 : ¬ ((q : Int) * 3 + 1 < 0) := by omega
  clear G9 MG9 P9 A9 M9 bl9 bE10 W10 neG hs10 hE9
  go_wp2_with fail
  refine (eqBucketS_same q c6 c3 a6 a3 d w10 G10 (P10.more (by omega))).mono ?_
  rintro e w11 ⟨rfl, b11⟩
  have P11 := P10.below (b11.mono (by omega))
  have A11 := A10.below (b11.mono bl10.size)
  have MG11 := MG10.keep b11
  have bl11 := bl10.trans (b11.mono bl10.size)
  have hE11 := Nat.lt_of_lt_of_le hE10 b11.size
  clear P10 A10 MG10 G10 bl10 b11 hE10
  go_wp2_with fail
  refine (markQ_any w11 _ q c6 a6 MG11 (by omega)).mono ?_
  rintro e w12 ⟨rfl, W12⟩
  have U12 := W12.ups (by omega)
  have bE12 : Below (E3 + 1) w11 w12 := W12.below (fun g hg => by
    rcases MG11 with h | ⟨g', e', h1, _⟩
    · rw [h.1] at hg; cases hg
    · rw [e'] at hg; injection hg with hg; subst hg; show E3 + 1 ≤ g'; omega)
  have P12 := P11.below (bE12.mono (by omega))
  have A12 := A11.below (bE12.mono (by omega))
  have bl12 := bl11.trans (bE12.mono (by omega))
  have hs12 := W12.size
  have hE12 : E3 < w12.heap.size := by omega
  clear P11 A11 MG11 bl11 W12 bE12 hs12 hE11
  go_wp2_with fail
  refine (heldQ _ q c6 a6 w12 U12 (by omega)).mono ?_
  rintro e w13 ⟨rfl, q13⟩
  have b13 : Below w12.heap.size w12 w13 := q13.below
  have U13 := (U12.below b13).more b13.size
  have P13 := P12.below (b13.mono (by omega))
  have A13 := A12.below (b13.mono bl12.size)
  have bl13 := bl12.trans (b13.mono bl12.size)
  have hE13 := Nat.lt_of_lt_of_le hE12 b13.size
  clear U12 P12 A12 bl12 q13 b13 hE12
  go_wp2_with fail
  refine (toBucketS_any len0 cap0 a0 l w13 (A13.more bl13.size)).mono ?_
  rintro e w14 ⟨rfl, hX14, b14⟩
  have U14 := (U13.below b14).more b14.size
  have P14 := P13.below (b14.mono (by omega))
  have bl14 := bl13.trans (b14.mono bl13.size)
  have hE14 := Nat.lt_of_lt_of_le hE13 b14.size
  clear U13 P13 A13 bl13 b14 hE13
  go_wp2_with fail
  refine (K2.out _ _ _ _ hX14).mono ?_
  rintro e w16 ⟨a16, c16, rfl, N16, b16⟩
  have H16 := (N16.sms (by have := HQ.out; omega)).1
  rw [HQ.out] at H16 ⊢
  have U16 := (U14.below b16).more b16.size
  have P16 := P14.below (b16.mono (by omega))
  have bl16 := bl14.trans (b16.mono bl14.size)
  have hE16 := Nat.lt_of_lt_of_le hE14 b16.size
  clear U14 P14 bl14 b16 N16 hX14 hE14
  go_wp2_with fail
  refine (eqBucketS_same q c16 c3 a16 a3 d w16 H16 (P16.more (by omega))).mono ?_
  rintro e w17 ⟨rfl, b17⟩
  have U17 := (U16.below b17).more b17.size
  have bl17 := bl16.trans (b17.mono bl16.size)
  clear U16 P16 H16 bl16 b17 hE16
  go_wp2_with fail
  refine (heldQ _ q c6 a6 w17 U17 (by omega)).mono ?_
  rintro e w18 ⟨rfl, q18⟩
  have HB := Lib.hid (bel_same bl17 q18)
  clear U17 bl17 q18
  go_wp2
  go_ret
  exact ⟨rfl, HB.out⟩

/-! ### THE ROW -/
set_option maxRecDepth 100000 in
theorem lifted (os : Os) (started : os.Started) (H : Type) (enc : TypeId × Value → H) :
    ReturnsInHanded {} Try.checked os 8 .any (Rows.fnExactDropFullSpec.pre6 enc Try.prog Try.f8 Rows.fnExactDropFullRow.domain false) (Rows.fnExactDropFullSpec.post enc Try.prog Try.f8 false true false false) := by
  refine returnsInHanded_of_change (C := Try.checked) own started (by kernel_rfl) Try.func8
    (ChangeSpec.witness6 (enc := enc) (C := Try.checked) false ⟨#[], #[.slice none 0 0, .int .i64 0], []⟩ 8 (by kernel_rfl) (by kernel_rfl) (by kernel_rfl) (by kernel_rfl)) ?_
  intro W base args ds gs before hval0 hW hcnd _
  have hval : ∀ (j : Nat) t v, Try.f8.params[j]? = some t → args[j]? = some v → Value.okWide Try.prog W .any base t v := hval0
  have hW' := hW
  obtain ⟨p, q, hA0, hV, rfl, hfz, hnd⟩ := hW
  have hA : DataW.TrodAll enc Try.prog W 0 (fun _ => true) true Try.f8.params.toList args.toList ds p := hA0
  rw [Try.params8] at hA hval
  obtain ⟨v0, vs0, d0, ds0, p0, q0, hargs, rfl, rfl, h0, r0⟩ := trodAll_cons hA
  obtain ⟨v1, vs1, d1, ds1, p1, q1, rfl, rfl, rfl, h1, r1⟩ := trodAll_cons r0
  obtain ⟨rfl, rfl, rfl⟩ := trodAll_nil r1
  obtain rfl : args = #[v0, v1] := by cases args; simp_all
  obtain ⟨rfl, rfl⟩ := trodVars_none hV
  obtain ⟨a0, len0, cap0, rfl⟩ := okWide_slice Try.underlying22 (hval 0 22 v0 rfl rfl)
  have k0 := h0
  have lt0 : ∀ x ∈ p0, x.block < W.heap.size := by obtain ⟨m, hm⟩ := k0; exact DataW.trod_lt m _ _ _ hm
  have w0 : BkRow W a0 len0 cap0 := by obtain ⟨fuel, hf⟩ := h0; exact bkrow hf
  obtain ⟨a1, rfl, rfl, rfl, w1⟩ := open_int Try.underlying3 (hval 1 3 v1 rfl rfl) h1
  clear hA0 hval0
  refine (walk a0 len0 cap0 a1 W w0 w1).mono fun e W' ⟨he, bel⟩ => ?_
  subst he
  exact ⟨_, rfl, _, _, _, [], _, [], hW', trodAll_mk1 (shut_bool Try.underlying4 _), (trodAll_cons_mk (Below.trod laidOut (by kernel_rfl) (of_decide_eq_true (by kernel_rfl)) k0 bel lt0) (trodAll_cons_mk (shut_int Try.underlying3 w1) trodAll_mk0)), rfl, bel.frame _, fun h => by cases h⟩

theorem closed : joinedFacts Try.pinned.checked.prog 8 Try.f8 Rows.fnExactDropFullSpec Rows.fnExactDropFullRow = true := by
  unfold joinedFacts
  rw [mayJ, liftsJ, makeJ]
  kernel_rfl

theorem over : Rows.fnExactDropFullRow.holds Try.pinned (OpenSpec.ofChange Rows.fnExactDropFullSpec) :=
  OpenClaim.holds_of_wide 8 Try.f8 rfl rfl rfl rfl rfl rfl rfl ⟨rfl, rfl, rfl, rfl, rfl⟩ rfl rfl rfl rfl rfl (by kernel_rfl) Try.func8 closed
    (of_decide_eq_true (by kernel_rfl)) (by unfold Func.isWrapper; first | (rw [if_pos (by decide +kernel)]; kernel_rfl) | (rw [if_neg (by decide +kernel)]; exact ⟨rfl, rfl⟩))
    (fun os started H enc _ => lifted os started H enc)

/-- THE STATEMENT -/
theorem proved : Rows.FnExactDropFullSaid := over
#print axioms proved
end Go.Proofs.Ytoaaedbfjbgakaa.fnExactDropFull
