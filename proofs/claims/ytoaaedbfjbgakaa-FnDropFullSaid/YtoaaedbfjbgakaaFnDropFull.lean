/-
  PROVED: FnDropFull: for every input the law returns true, and the input reads as it did. No condition.
  The frame is as the kit prints it (proof-skeleton.mjs); the walk is mine.
-/
import Derived.Test.YtoaaedbfjbgakaaRows
import Derived.Test.YtoaaedbfjbgakaaMapB
import Derived.Test.YtoaaedbfjbgakaaSpecB
import Derived.Test.YtoaaedbfjbgakaaDropF
import Derived.Test.YtoaaedbfjbgakaaDrawBt
import Derived.Test.YtoaaedbfjbgakaaEqBk
import Derived.Test.YtoaaedbfjbgakaaBDrop
import Derived.Test.YtoaaedbfjbgakaaJoin
import Derived.WalkKit
import Derived.ProofKit
import Derived.OpenShut
import Derived.ShutString
import Derived.ChangeOld
import Derived.Below
namespace Go.Proofs.Ytoaaedbfjbgakaa.fnDropFull
open Go.ChangeShapes Go.WideShapes Go.ChangeAt Go.RowKit
open Go.ChangeMaps (open_string shut_string)
set_option linter.unusedVariables false

theorem own : ownKnob Try.prog.godebug = none := by kernel_rfl
theorem laidOut : laidOutB Try.prog = true := by kernel_rfl

/-- WHAT THE WALK IS TOLD OF A SLICE OF INTEGERS THAT CAME IN: it is nil; or it leads to a row of 'cap' cells, the numbers 'zs' (the first 'len' are its elements, the rest its spare room), each fitting its kind. -/
def IsRow (k : IntKind) (w : World) (a : Option Addr) (len cap : Nat) (zs : List Int) : Prop :=
  (a = none ∧ len = 0 ∧ cap = 0 ∧ zs = []) ∨
  ∃ x, a = some x ∧ len ≤ cap ∧ cap ≤ maxLen ∧ zs.length = cap ∧ (∀ i, i < zs.length → w.cell? (x.add i) = some (.int k (zs.getD i 0))) ∧ ∀ n ∈ zs, (Lit.int k n).wf = true

/-! ### STEP 1: THE WALK: the Go text returns true, AND WRITES NOTHING THAT WAS THERE: 'Below w.heap.size w w'' (Derived/Below.lean: '.refl', '.alloc', '.drew', '.setCell' at a new block, '.trans'). Open each 'IsRow' by 'rcases' AHEAD of 'go_enter'; part every test ahead of the walk. -/
set_option maxRecDepth 100000 in
set_option maxHeartbeats 8000000 in
theorem walk (a0 : Option Addr) (len0 cap0 : Nat) (z0 : List Int) (w : World) (w0 : IsRow .u8 w a0 len0 cap0 z0) :
    Calls Try.prog 14 #[.slice a0 len0 cap0] w fun e w' => e = .returned (.bool true) ∧ Below w.heap.size w w' := by
  by_cases hl : 1048576 < len0
  · have hl' : (1048576 : Int) < (len0 : Int) := by omega
    clear w0 hl
    go_enter Try.func14, Try.ntmps14
    go_wp2
    go_ret
    exact ⟨rfl, Below.refl _ _⟩
  have hl' : ¬ (1048576 : Int) < (len0 : Int) := by omega
  obtain ⟨hc, hcap⟩ := code_of w0 (by omega)
  clear w0 hl
  go_enter Try.func14, Try.ntmps14
  go_wp2_with fail
  refine (DrawDropFull_any w a0 len0 cap0 hc hcap).mono ?_
  rintro e w1 ⟨a, c, l, t, rfl, ht, hl9, hlc, hcm, hS, bl⟩
  clear hc hcap
  have st1 : Sq w w1 a l.length l := ⟨hS, bl⟩
  clear hS bl hlc hcm
  have k1 := fun n c a w' (h : Sms w'.heap.size w' a n l) => DF_impl n c a l t w' h
  have k2 := fun n c a w' (h : Sms w'.heap.size w' a n l) => DF_spec n c a l t w' h
  have k5 := fun n c a w' (h : Sms w'.heap.size w' a n l) => vb_impl n c a l w' h
  have hdl := (B.df_len l t).2
  obtain ⟨d, hdd⟩ : ∃ d, B.df l t = d := ⟨_, rfl⟩
  rw [hdd] at hdl k1 k2
  have HDD := Lib.hid hdd
  have HDL := Lib.hid hdl
  obtain ⟨f, hv⟩ : ∃ f, B.bv l = f := ⟨_, rfl⟩
  rw [hv] at k5
  have HV := Lib.hid hv
  have K1 := Lib.hid k1
  have K2 := Lib.hid k2
  have K5 := Lib.hid k5
  have HL9 := Lib.hid hl9
  clear k1 k2 k5 hdd hdl hv hl9
  go_wp2_with fail
  refine (K1.out _ _ _ _ st1.here).mono ?_
  rintro e w2 ⟨a2, c2, rfl, O2, b2⟩
  have P2 := (O2.sms (by have := HDL.out; omega)).1
  have st2 := st1.b b2
  clear O2 b2 st1
  go_wp2_with fail
  refine (K2.out _ _ _ _ st2.here).mono ?_
  rintro e w3 ⟨a3, c3, rfl, O3, b3⟩
  have Q3 := (O3.sms (by have := HDL.out; omega)).1
  have P3 := P2.keepB b3
  have st3 := st2.b b3
  clear O3 b3 st2 P2
  go_wp2_with fail
  refine (equalBuckets_any _ _ _ _ _ _ d _ P3 Q3).mono ?_
  rintro e w4 ⟨rfl, q4⟩
  have st4 := st3.same q4
  have P4 := P3.keepB q4.below
  clear st3 q4 P3 Q3
  go_wp2_with fail
  refine (K5.out _ _ _ _ st4.here).mono ?_
  rintro e w5 ⟨rfl, b5⟩
  have st5 := st4.b b5
  have P5 := P4.keepB b5
  clear st4 P4 b5
  rcases f with _ | _
  · skip
    go_wp2_with fail
    refine (K2.out _ _ _ _ st5.here).mono ?_
    rintro e w6 ⟨a6, c6, rfl, O6, b6⟩
    have Q6 := (O6.sms (by have := HDL.out; omega)).1
    have P6 := P5.keepB b6
    have st6 := st5.b b6
    clear O6 b6 st5 P5
    go_wp2_with fail
    refine (equalBuckets_any _ _ _ _ _ _ d _ P6 Q6).mono ?_
    rintro e w7 ⟨rfl, q7⟩
    have HB := Lib.hid (st6.same q7).bel
    clear st6 q7 P6 Q6
    go_wp2
    go_ret
    exact ⟨ret_bool (by first | rfl | simp), HB.out⟩
  by_cases hn : t < 0
  · skip
    go_wp2_with fail
    refine (K2.out _ _ _ _ st5.here).mono ?_
    rintro e w6 ⟨a6, c6, rfl, O6, b6⟩
    have Q6 := (O6.sms (by have := HDL.out; omega)).1
    have P6 := P5.keepB b6
    have st6 := st5.b b6
    clear O6 b6 st5 P5
    go_wp2_with fail
    refine (equalBuckets_any _ _ _ _ _ _ d _ P6 Q6).mono ?_
    rintro e w7 ⟨rfl, q7⟩
    have HB := Lib.hid (st6.same q7).bel
    clear st6 q7 P6 Q6
    go_wp2
    go_ret
    exact ⟨ret_bool (by first | rfl | simp), HB.out⟩
  by_cases hm : 3786479899 < t
  · skip
    go_wp2_with fail
    refine (K2.out _ _ _ _ st5.here).mono ?_
    rintro e w6 ⟨a6, c6, rfl, O6, b6⟩
    have Q6 := (O6.sms (by have := HDL.out; omega)).1
    have P6 := P5.keepB b6
    have st6 := st5.b b6
    clear O6 b6 st5 P5
    go_wp2_with fail
    refine (equalBuckets_any _ _ _ _ _ _ d _ P6 Q6).mono ?_
    rintro e w7 ⟨rfl, q7⟩
    have HB := Lib.hid (st6.same q7).bel
    clear st6 q7 P6 Q6
    go_wp2
    go_ret
    exact ⟨ret_bool (by first | rfl | simp), HB.out⟩
  have k6 := fun (k : Nat) (hk : k < 15) w' (h : Sms w'.heap.size w' a2 d.length d) => TA_impl d.length c2 a2 d k t w' h (wfC (by omega))
  have k7 := fun (k : Nat) (hk : k < 15) w' (h : Sms w'.heap.size w' a2 d.length d) => TA_impl d.length c2 a2 d k (t + 9) w' h (wfC (by omega))
  have k8 := fun (k : Nat) (hk : k < 15) w' (h : Sms w'.heap.size w' a l.length l) => TA_impl l.length c a l k t w' h (wfC (by omega))
  have k9 := fun (k : Nat) (hk : k < 15) w' (h : Sms w'.heap.size w' a l.length l) => TA_impl l.length c a l k (t + 9) w' h (wfC (by omega))
  have hta : ∀ c, B.ta d c t = B.ta l c t := fun c => by rw [← HDD.out]; exact B.df_ta HV.out ⟨by omega, by omega⟩ ⟨by omega, by omega⟩ c
  have htb : ∀ c, B.ta d c (t + 9) = B.ta l c (t + 9) := fun c => by rw [← HDD.out]; exact B.df_ta HV.out ⟨by omega, by omega⟩ ⟨by omega, by omega⟩ c
  simp only [hta] at k6
  simp only [htb] at k7
  have hbd : B.bv d = true := by rw [← HDD.out]; exact B.df_bv HV.out ⟨by omega, by omega⟩
  have hdf : B.df d t = d := by rw [← HDD.out]; exact B.df_df HV.out ⟨by omega, by omega⟩
  have HBD := Lib.hid hbd
  have HDF := Lib.hid hdf
  have K6 := Lib.hid k6
  have K7 := Lib.hid k7
  have K8 := Lib.hid k8
  have K9 := Lib.hid k9
  clear k6 k7 k8 k9 hta htb hbd hdf
  go_wp2_with fail
  go_loopw [6] (fun i wr => ∃ k : Nat, k ≤ 15 ∧ i = .int .i64 k ∧ Sms wr.heap.size wr a2 d.length d ∧ Sq w wr a l.length l) (fun i _ => 15 - (intOf i).toNat)
  case atStart => exact ⟨0, by omega, rfl, P5, st5⟩
  case round =>
    obtain ⟨k, hk, rfl, P6, st6⟩ := hrel
    clear P5 st5
    by_cases hlt : k < 15
    · have k6 := K6.out k hlt
      have k7 := K7.out k hlt
      have k8 := K8.out k hlt
      have k9 := K9.out k hlt
      generalize B.ta l k t = V1 at *
      generalize B.ta l k (t + 9) = V2 at *
      have A6 := Lib.hid k6
      have A7 := Lib.hid k7
      have A8 := Lib.hid k8
      have A9 := Lib.hid k9
      clear k6 k7 k8 k9
      go_wp2_with fail
      refine (A6.out _ P6).mono ?_
      rintro e w7 ⟨rfl, b7⟩
      have P7 := P6.keepB b7
      have st7 := st6.b b7
      clear P6 st6 b7
      go_wp2_with fail
      refine (A8.out _ st7.here).mono ?_
      rintro e w8 ⟨rfl, b8⟩
      have P8 := P7.keepB b8
      have st8 := st7.b b8
      clear P7 st7 b8
      go_wp2_with fail
      refine (A7.out _ P8).mono ?_
      rintro e w9 ⟨rfl, b9⟩
      have P9 := P8.keepB b9
      have st9 := st8.b b9
      clear P8 st8 b9
      go_wp2_with fail
      refine (A9.out _ st9.here).mono ?_
      rintro e w10 ⟨rfl, b10⟩
      have HP := Lib.hid (And.intro (P9.keepB b10) (st9.b b10))
      clear P9 st9 b10
      go_wp2
      go_roundw
      case rel => exact ⟨k + 1, by omega, by go_num, HP.out⟩
      case measure => simp [intOf]; omega
    · obtain rfl : k = 15 := by omega
      go_wp2_with fail
      refine (vb_impl _ _ _ _ _ P6).mono ?_
      rw [HBD.out]
      rintro e w7 ⟨rfl, b7⟩
      have P7 := P6.keepB b7
      have st7 := st6.b b7
      clear P6 st6 b7
      go_wp2_with fail
      refine (DF_impl _ _ _ d t _ P7).mono ?_
      rw [HDF.out]
      rintro e w8 ⟨a8, c8, rfl, O8, b8⟩
      have Q8 := (O8.sms (by have := HDL.out; omega)).1
      have P8 := P7.keepB b8
      have st8 := st7.b b8
      clear P7 st7 b8 O8
      go_wp2_with fail
      refine (equalBuckets_any _ _ _ _ _ _ d _ Q8 P8).mono ?_
      rintro e w9 ⟨rfl, q9⟩
      have HB := Lib.hid (st8.same q9).bel
      clear st8 q9 P8 Q8
      go_wp2
      go_ret
      exact ⟨ret_bool (by first | rfl | simp), HB.out⟩

/-! ### THE ROW's STEP: WRITTEN OUT: LEAVE IT -/
set_option maxRecDepth 100000 in
theorem lifted (os : Os) (started : os.Started) (H : Type) (enc : TypeId × Value → H) :
    ReturnsInHanded {} Try.checked os 14 .any (Rows.fnDropFullSpec.pre6 enc Try.prog Try.f14 Rows.fnDropFullRow.domain false) (Rows.fnDropFullSpec.post enc Try.prog Try.f14 false true false false) := by
  refine returnsInHanded_of_change (C := Try.checked) own started (by kernel_rfl) Try.func14
    (ChangeSpec.witness6 (enc := enc) (C := Try.checked) false ⟨#[], #[.slice none 0 0], []⟩ 8 (by kernel_rfl) (by kernel_rfl) (by kernel_rfl) (by kernel_rfl)) ?_
  intro W base args ds gs before hval0 hW hcnd _
  have hval : ∀ (j : Nat) t v, Try.f14.params[j]? = some t → args[j]? = some v → Value.okWide Try.prog W .any base t v := hval0
  have hW' := hW
  obtain ⟨p, q, hA0, hV, rfl, hfz, hnd⟩ := hW
  have hA : DataW.TrodAll enc Try.prog W 0 (fun _ => true) true Try.f14.params.toList args.toList ds p := hA0
  rw [Try.params14] at hA hval
  obtain ⟨v0, vs0, d0, ds0, p0, q0, hargs, rfl, rfl, h0, r0⟩ := trodAll_cons hA
  obtain ⟨rfl, rfl, rfl⟩ := trodAll_nil r0
  obtain rfl : args = #[v0] := by cases args; simp_all
  obtain ⟨rfl, rfl⟩ := trodVars_none hV
  obtain ⟨a0, len0, cap0, rfl⟩ := okWide_slice Try.underlying29 (hval 0 29 v0 rfl rfl)
  have k0 := h0
  have lt0 : ∀ x ∈ p0, x.block < W.heap.size := by obtain ⟨m, hm⟩ := k0; exact DataW.trod_lt m _ _ _ hm
  obtain ⟨z0, w0⟩ : ∃ zs, IsRow .u8 W a0 len0 cap0 zs := by
    obtain ⟨fuel, hf⟩ := h0
    rcases open_ints Try.underlying29 Try.underlying5 (by kernel_rfl) hf with ⟨hcs, _⟩ | ⟨x, l, c, zs, hcs, _, hl, hm, hz, _, hcell, hwz⟩
    · simp [Value.cells] at hcs
      obtain ⟨rfl, rfl, rfl⟩ := hcs
      exact ⟨[], .inl ⟨rfl, rfl, rfl, rfl⟩⟩
    · simp [Value.cells] at hcs
      obtain ⟨rfl, rfl, rfl⟩ := hcs
      exact ⟨zs, .inr ⟨_, rfl, hl, hm, by simpa using hz, hcell, hwz⟩⟩
  clear hA0 hval0
  refine (walk a0 len0 cap0 z0 W w0).mono fun e W' ⟨he, bel⟩ => ?_
  subst he
  exact ⟨_, rfl, _, _, _, [], _, [], hW', trodAll_mk1 (shut_bool Try.underlying4 _), (trodAll_cons_mk (Below.trod laidOut (by kernel_rfl) (of_decide_eq_true (by kernel_rfl)) k0 bel lt0) trodAll_mk0), rfl, bel.frame _, fun h => by cases h⟩

theorem closed : joinedFacts Try.pinned.checked.prog 14 Try.f14 Rows.fnDropFullSpec Rows.fnDropFullRow = true := by
  unfold joinedFacts
  rw [mayJ, liftsJ, makeJ]
  kernel_rfl

theorem over : Rows.fnDropFullRow.holds Try.pinned (OpenSpec.ofChange Rows.fnDropFullSpec) :=
  OpenClaim.holds_of_wide 14 Try.f14 rfl rfl rfl rfl rfl rfl rfl ⟨rfl, rfl, rfl, rfl, rfl⟩ rfl rfl rfl rfl rfl (by kernel_rfl) Try.func14 closed
    (of_decide_eq_true (by kernel_rfl)) (by unfold Func.isWrapper; first | (rw [if_pos (by decide +kernel)]; kernel_rfl) | (rw [if_neg (by decide +kernel)]; exact ⟨rfl, rfl⟩))
    (fun os started H enc _ => lifted os started H enc)

/-- ████ THE STATEMENT ████ -/
theorem proved : Rows.FnDropFullSaid := over
#print axioms proved
end Go.Proofs.Ytoaaedbfjbgakaa.fnDropFull
