/-
  PROVED: FnExactCleanPulses: for every input the law returns true, and the input reads as it did. No condition.
  The frame is as the kit prints it (proof-skeleton.mjs); the walk is mine.
-/
import Derived.Test.YtiogcaalapoehaaRows
import Derived.Test.YtiogcaalapoehaaClean
import Derived.Test.YtiogcaalapoehaaMarkM
import Derived.Test.YtiogcaalapoehaaJoin
import Derived.WalkKit
import Derived.ProofKit
import Derived.OpenShut
import Derived.ShutString
import Derived.ChangeOld
import Derived.Below
namespace Go.Proofs.Ytiogcaalapoehaa.fnExactCleanPulses
open Go.ChangeShapes Go.WideShapes Go.ChangeAt Go.RowKit
set_option linter.unusedVariables false

def IsRow (k : IntKind) (w : World) (a : Option Addr) (len cap : Nat) (zs : List Int) : Prop :=
  (a = none ∧ len = 0 ∧ cap = 0 ∧ zs = []) ∨
  ∃ x, a = some x ∧ len ≤ cap ∧ cap ≤ maxLen ∧ zs.length = cap ∧ (∀ i, i < zs.length → w.cell? (x.add i) = some (.int k (zs.getD i 0))) ∧ ∀ n ∈ zs, (Lit.int k n).wf = true
theorem own : ownKnob Try.prog.godebug = none := by kernel_rfl
theorem laidOut : laidOutB Try.prog = true := by kernel_rfl

set_option maxRecDepth 100000 in
set_option maxHeartbeats 8000000 in
theorem walk (a0 : Option Addr) (len0 cap0 : Nat) (z0 : List Int) (w : World) (w0 : IsRow .i64 w a0 len0 cap0 z0) :
    Calls Try.prog 5 #[.slice a0 len0 cap0] w fun e w' => e = .returned (.bool true) ∧ Below w.heap.size w w' := by
  by_cases hl : 1048576 < len0
  · have hl' : (1048576 : Int) < (len0 : Int) := by omega
    clear w0 hl
    go_enter Try.func5, Try.ntmps5
    go_wp2
    go_ret
    exact ⟨rfl, Below.refl _ _⟩
  have hl' : ¬ (1048576 : Int) < (len0 : Int) := by omega
  obtain ⟨l, hL⟩ := lst_of w0 (by omega)
  have hL0 := hL
  clear w0 hl
  go_enter Try.func5, Try.ntmps5
  go_wp2_with fail
  refine (toIntS_any len0 cap0 a0 l w hL).mono ?_
  rintro e w2 ⟨rfl, hX2, b2⟩
  have hA2 := lst_same hL b2 (Nat.le_refl _)
  have bl2 := b2
  clear hL b2
  have hdl := (U.cp_len l).2
  have k1 := fun n c a w' (h : Lst w'.heap.size w' a n l) => CP_spec n c a l w' h
  have k2 := fun n c a w' (h : Lst w'.heap.size w' a n l) => CP_impl n c a l w' h
  have hlen0 : l.length = len0 := hA2.1
  generalize U.cp l = d at *
  obtain ⟨q, hq⟩ : ∃ q, d.length = q := ⟨_, rfl⟩
  have HQ := Lib.hid hq
  have HLE := Lib.hid hlen0
  rw [hq] at hdl
  have K1 := Lib.hid k1
  have K2 := Lib.hid k2
  have hle : len0 ≤ 1048576 := hX2.2.1
  have hwA : Lst w.heap.size w2 a0 len0 l := hL0.below bl2
  clear k1 k2 hq hlen0 hA2 hL0
  go_wp2_with fail
  refine (K1.out _ _ _ _ hX2).mono ?_
  rintro e w3 ⟨a3, c3, rfl, N3, b3⟩
  have P3 := N3.lst (by have := HQ.out; omega)
  rw [HQ.out] at P3 ⊢
  have A3 := hwA.below (b3.mono bl2.size)
  have bl3 := bl2.trans (b3.mono bl2.size)
  have hwE := bl3.size
  clear N3 b3 bl2 hwA hX2
  go_wp2_with fail
  refine (toIntS_own len0 cap0 a0 l w3 (A3.more bl3.size)).mono ?_
  rintro e w4 ⟨rfl, X4, b4⟩
  have A4 := A3.below (b4.mono bl3.size)
  have P4 := P3.below b4
  have bl4 := bl3.trans (b4.mono bl3.size)
  have XL4 := X4.lst (by have := HLE.out; omega)
  rw [HLE.out] at XL4
  have hE4 : w3.heap.size < w4.heap.size := by
    obtain ⟨g, _, h1, h2⟩ | ⟨g, e, h1, h2, _⟩ := X4.mk
    · cases g
    · injection e with e; injection e with e; omega
  have M4 := X4.mk
  rw [HLE.out] at M4
  clear b4 bl3 A3 P3 X4
  generalize w3.heap.size = E3 at *
  go_wp2_with fail
  refine (K2.out _ _ _ _ XL4).mono ?_
  rintro e w5 ⟨a5, c5, rfl, N5, b5⟩
  have G5 := N5.lst (by have := HQ.out; omega)
  have MG5 := N5.mk
  rw [HQ.out] at G5 MG5 ⊢
  have A5 := A4.below (b5.mono bl4.size)
  have P5 := P4.below (b5.mono (by omega))
  have M5 := M4.keep b5
  have XL5 := lst_same XL4 b5 (Nat.le_refl _)
  have bl5 := bl4.trans (b5.mono bl4.size)
  have hE5 : E3 < w5.heap.size := Nat.lt_of_lt_of_le hE4 b5.size
  have hww : w.heap.size ≤ E3 := hwE
  clear N5 b5 A4 P4 M4 XL4 bl4 hwE
  go_wp2_with fail
  refine (eqIntS_any q c5 c3 _ a5 a3 d w5 G5 (P5.more (by omega))).mono ?_
  rintro e w6 ⟨rfl, q6⟩
  have G6 := lst_same G5 q6.below (Nat.le_refl _)
  have P6 := P5.same q6
  have A6 := A5.same q6
  have M6 := M5.same q6
  have MG6 := MG5.same q6
  have XL6 := lst_same XL5 q6.below (Nat.le_refl _)
  have bl6 := bel_same bl5 q6
  have hE6 : w5.heap.size ≤ w6.heap.size := (q6.below (B := 0)).size
  clear G5 P5 A5 M5 MG5 XL5 bl5 q6
  go_wp2_with fail
  refine (toIntS_any len0 cap0 a0 l w6 (A6.more bl6.size)).mono ?_
  rintro e w7 ⟨rfl, hX7, b7⟩
  have G7 := lst_same G6 b7 (Nat.le_refl _)
  have P7 := P6.below (b7.mono (by omega))
  have A7 := A6.below (b7.mono bl6.size)
  have M7 := M6.keep b7
  have MG7 := MG6.keep b7
  have XL7 := lst_same XL6 b7 (Nat.le_refl _)
  have bl7 := bl6.trans (b7.mono bl6.size)
  have hE7 := b7.size
  clear G6 P6 A6 M6 MG6 XL6 bl6 b7
  generalize w6.heap.size = E6 at *
  go_wp2_with fail
  refine (eqIntS_any len0 len0 len0 _ _ _ l w7 XL7 hX7).mono ?_
  rintro e w8 ⟨rfl, q8⟩
  have G8 := lst_same G7 q8.below (Nat.le_refl _)
  have P8 := P7.same q8
  have A8 := A7.same q8
  have M8 := M7.same q8
  have MG8 := MG7.same q8
  have bl8 := bel_same bl7 q8
  have hE8 : w7.heap.size ≤ w8.heap.size := (q8.below (B := 0)).size
  clear G7 P7 A7 M7 MG7 XL7 hX7 bl7 q8
  go_wp2_with fail
  refine (mark_any w8 _ len0 len0 _ M8 hle).mono ?_
  rintro e w9 ⟨rfl, W9⟩
  have neG : ∀ x g, a5 = some x → (some ⟨E3, 0, none⟩ : Option Addr) = some g → x.block ≠ g.block := fun x g hx hg => by
    injection hg with hg
    rcases MG8 with h | ⟨g', e', h1, _⟩
    · rw [h.1] at hx; cases hx
    · rw [e'] at hx; injection hx with hx; subst hx; subst hg; show g' ≠ E3; omega
  have G9 := (W9.lst G8 neG).more (Nat.le_of_eq W9.size.symm)
  have MG9 := W9.mk MG8 neG
  have bE9 : Below E3 w8 w9 := W9.below (fun g hg => by injection hg with hg; subst hg; exact Nat.le_refl _)
  have P9 := P8.below bE9
  have A9 := A8.below (bE9.mono hww)
  have bl9 := bl8.trans (bE9.mono hww)
  have hE9 := W9.size
  clear G8 MG8 P8 A8 M8 bl8 bE9 W9 neG
  go_wp2_with fail
  refine (eqIntS_any q c5 c3 _ a5 a3 d w9 G9 (P9.more (by omega))).mono ?_
  rintro e w10 ⟨rfl, q10⟩
  have P10 := P9.same q10
  have A10 := A9.same q10
  have MG10 := MG9.same q10
  have bl10 := bel_same bl9 q10
  have hE10 : w9.heap.size ≤ w10.heap.size := (q10.below (B := 0)).size
  clear P9 A9 MG9 G9 bl9 q10
  go_wp2_with fail
  refine (mark_any w10 _ q c5 a5 MG10 (by omega)).mono ?_
  rintro e w11 ⟨rfl, W11⟩
  have U11 := W11.ups (by omega)
  have bE11 : Below (E3 + 1) w10 w11 := W11.below (fun g hg => by
    rcases MG10 with h | ⟨g', e', h1, _⟩
    · rw [h.1] at hg; cases hg
    · rw [e'] at hg; injection hg with hg; subst hg; show E3 + 1 ≤ g'; omega)
  have P11 := P10.below (bE11.mono (by omega))
  have A11 := A10.below (bE11.mono (by omega))
  have bl11 := bl10.trans (bE11.mono (by omega))
  have hE11 := W11.size
  clear P10 A10 MG10 bl10 W11 bE11
  go_wp2_with fail
  refine (heldI _ q c5 a5 w11 U11 (by omega)).mono ?_
  rintro e w12 ⟨rfl, q12⟩
  have U12 := lst_same U11 q12.below (Nat.le_refl _)
  have P12 := P11.same q12
  have A12 := A11.same q12
  have bl12 := bel_same bl11 q12
  have hE12 : w11.heap.size ≤ w12.heap.size := (q12.below (B := 0)).size
  clear U11 P11 A11 bl11 q12
  have hq0 : ¬ ((q : Int) + 1 < 0) := by omega
  go_wp2_with fail
  refine (toIntS_any len0 cap0 a0 l w12 (A12.more bl12.size)).mono ?_
  rintro e w13 ⟨rfl, hX13, b13⟩
  have U13 := lst_same U12 b13 (Nat.le_refl _)
  have P13 := P12.below (b13.mono (by omega))
  have bl13 := bl12.trans (b13.mono bl12.size)
  have hE13 := b13.size
  clear U12 P12 A12 bl12 b13
  generalize w12.heap.size = E12 at *
  go_wp2_with fail
  refine (K2.out _ _ _ _ hX13).mono ?_
  rintro e w14 ⟨a14, c14, rfl, N14, b14⟩
  have H14 := N14.lst (by have := HQ.out; omega)
  rw [HQ.out] at H14 ⊢
  have U14 := lst_same U13 b14 (Nat.le_refl _)
  have P14 := P13.below (b14.mono (by omega))
  have bl14 := bl13.trans (b14.mono bl13.size)
  have hE14 := b14.size
  clear U13 P13 bl13 b14 N14 hX13
  go_wp2_with fail
  refine (eqIntS_any q c14 c3 _ a14 a3 d w14 H14 (P14.more (by omega))).mono ?_
  rintro e w15 ⟨rfl, q15⟩
  have U15 := lst_same U14 q15.below (Nat.le_refl _)
  have bl15 := bel_same bl14 q15
  clear U14 P14 H14 bl14 q15
  go_wp2_with fail
  refine (heldI _ q c5 a5 w15 U15 (by omega)).mono ?_
  rintro e w16 ⟨rfl, q16⟩
  have HB := Lib.hid (bel_same bl15 q16)
  clear U15 bl15 q16
  go_wp2
  go_ret
  exact ⟨rfl, HB.out⟩

/-! ### THE ROW -/
set_option maxRecDepth 100000 in
theorem lifted (os : Os) (started : os.Started) (H : Type) (enc : TypeId × Value → H) :
    ReturnsInHanded {} Try.checked os 5 .any (Rows.fnExactCleanPulsesSpec.pre6 enc Try.prog Try.f5 Rows.fnExactCleanPulsesRow.domain false) (Rows.fnExactCleanPulsesSpec.post enc Try.prog Try.f5 false true false false) := by
  refine returnsInHanded_of_change (C := Try.checked) own started (by kernel_rfl) Try.func5
    (ChangeSpec.witness6 (enc := enc) (C := Try.checked) false ⟨#[], #[.slice none 0 0], []⟩ 8 (by kernel_rfl) (by kernel_rfl) (by kernel_rfl) (by kernel_rfl)) ?_
  intro W base args ds gs before hval0 hW hcnd _
  have hval : ∀ (j : Nat) t v, Try.f5.params[j]? = some t → args[j]? = some v → Value.okWide Try.prog W .any base t v := hval0
  have hW' := hW
  obtain ⟨p, q, hA0, hV, rfl, hfz, hnd⟩ := hW
  have hA : DataW.TrodAll enc Try.prog W 0 (fun _ => true) true Try.f5.params.toList args.toList ds p := hA0
  rw [Try.params5] at hA hval
  obtain ⟨v0, vs0, d0, ds0, p0, q0, hargs, rfl, rfl, h0, r0⟩ := trodAll_cons hA
  obtain ⟨rfl, rfl, rfl⟩ := trodAll_nil r0
  obtain rfl : args = #[v0] := by cases args; simp_all
  obtain ⟨rfl, rfl⟩ := trodVars_none hV
  obtain ⟨a0, len0, cap0, rfl⟩ := okWide_slice Try.underlying23 (hval 0 23 v0 rfl rfl)
  have k0 := h0
  have lt0 : ∀ x ∈ p0, x.block < W.heap.size := by obtain ⟨m, hm⟩ := k0; exact DataW.trod_lt m _ _ _ hm
  obtain ⟨z0, w0⟩ : ∃ zs, IsRow .i64 W a0 len0 cap0 zs := by
    obtain ⟨fuel, hf⟩ := h0
    rcases open_ints Try.underlying23 Try.underlying3 (by kernel_rfl) hf with ⟨hcs, _⟩ | ⟨x, l, c, zs, hcs, _, hl, hm, hz, _, hcell, hwz⟩
    · simp [Value.cells] at hcs
      obtain ⟨rfl, rfl, rfl⟩ := hcs
      exact ⟨[], .inl ⟨rfl, rfl, rfl, rfl⟩⟩
    · simp [Value.cells] at hcs
      obtain ⟨rfl, rfl, rfl⟩ := hcs
      exact ⟨zs, .inr ⟨_, rfl, hl, hm, by simpa using hz, hcell, hwz⟩⟩
  clear hA0 hval0
  refine (walk a0 len0 cap0 z0 W w0).mono fun e W' ⟨he, bel⟩ => ?_
  subst he
  exact ⟨_, rfl, _, _, _, [], _, [], hW', trodAll_mk1 (shut_bool Try.underlying4 _), (trodAll_cons_mk (Below.trod laidOut (by kernel_rfl) (of_decide_eq_true (by kernel_rfl)) k0 bel lt0) trodAll_mk0), rfl, bel.frame _, fun h => by cases h⟩

theorem closed : joinedFacts Try.pinned.checked.prog 5 Try.f5 Rows.fnExactCleanPulsesSpec Rows.fnExactCleanPulsesRow = true := by
  unfold joinedFacts
  rw [mayJ, liftsJ, makeJ]
  kernel_rfl

theorem over : Rows.fnExactCleanPulsesRow.holds Try.pinned (OpenSpec.ofChange Rows.fnExactCleanPulsesSpec) :=
  OpenClaim.holds_of_wide 5 Try.f5 rfl rfl rfl rfl rfl rfl rfl ⟨rfl, rfl, rfl, rfl, rfl⟩ rfl rfl rfl rfl rfl (by kernel_rfl) Try.func5 closed
    (of_decide_eq_true (by kernel_rfl)) (by unfold Func.isWrapper; first | (rw [if_pos (by decide +kernel)]; kernel_rfl) | (rw [if_neg (by decide +kernel)]; exact ⟨rfl, rfl⟩))
    (fun os started H enc _ => lifted os started H enc)

/-- THE STATEMENT -/
theorem proved : Rows.FnExactCleanPulsesSaid := over
#print axioms proved
end Go.Proofs.Ytiogcaalapoehaa.fnExactCleanPulses
