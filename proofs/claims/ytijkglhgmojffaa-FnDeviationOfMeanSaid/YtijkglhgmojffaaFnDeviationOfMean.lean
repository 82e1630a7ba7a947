/-
  PROVED: FnDeviationOfMean: for every input the law returns true, and the input reads as it did. No condition.
  The frame is as the kit prints it (proof-skeleton.mjs); the walk is mine.
-/
import Derived.Test.YtijkglhgmojffaaRows
import Derived.Test.YtijkglhgmojffaaDev
import Derived.Test.YtijkglhgmojffaaDrawP2
import Derived.Test.YtijkglhgmojffaaMarkI
import Derived.WalkKit
import Derived.ProofKit
import Derived.OpenShut
import Derived.ShutString
import Derived.ChangeOld
import Derived.Below
namespace Go.Proofs.Ytijkglhgmojffaa.fnDeviationOfMean
open Go.ChangeShapes Go.WideShapes Go.ChangeAt Go.RowKit
open Go.ChangeMaps (open_string shut_string)
set_option linter.unusedVariables false

theorem own : ownKnob Try.prog.godebug = none := by kernel_rfl
theorem laidOut : laidOutB Try.prog = true := by kernel_rfl

/-- WHAT THE WALK IS TOLD OF A SLICE OF INTEGERS THAT CAME IN: it is nil; or it leads to a row of 'cap' cells, the numbers 'zs' (the first 'len' are its elements, the rest its spare room), each fitting its kind. -/
def IsRow (k : IntKind) (w : World) (a : Option Addr) (len cap : Nat) (zs : List Int) : Prop :=
  (a = none ∧ len = 0 ∧ cap = 0 ∧ zs = []) ∨
  ∃ x, a = some x ∧ len ≤ cap ∧ cap ≤ maxLen ∧ zs.length = cap ∧ (∀ i, i < zs.length → w.cell? (x.add i) = some (.int k (zs.getD i 0))) ∧ ∀ n ∈ zs, (Lit.int k n).wf = true

/-! ### STEP 1: THE WALK: the Go text returns true, AND WRITES NOTHING THAT WAS THERE: 'Below w.heap.size w w'' (Derived/Below.lean: '.refl', '.alloc', '.drew', '.setCell' at a new block, '.trans'). Open each 'IsRow' by 'rcases' AHEAD of 'go_enter'; part every test ahead of the walk. -/
set_option maxRecDepth 100000 in
set_option maxHeartbeats 8000000 in
theorem walk (a0 : Option Addr) (len0 cap0 : Nat) (z0 : List Int) (w : World) (w0 : IsRow .u8 w a0 len0 cap0 z0) :
    Calls Try.prog 7 #[.slice a0 len0 cap0] w fun e w' => e = .returned (.bool true) ∧ Below w.heap.size w w' := by
  by_cases hl : 1048576 < len0
  · have hl' : (1048576 : Int) < (len0 : Int) := by omega
    clear w0 hl
    go_enter Try.func7, Try.ntmps7
    go_wp2
    go_ret
    exact ⟨rfl, Below.refl _ _⟩
  have hl' : ¬ (1048576 : Int) < (len0 : Int) := by omega
  obtain ⟨hc, hcap⟩ := code_of w0 (by omega)
  clear w0 hl
  go_enter Try.func7, Try.ntmps7
  go_wp2_with fail
  refine (DrawDeviationOf_any w a0 len0 cap0 hc hcap).mono ?_
  rintro e w1 ⟨a, n, c, l, st, rfl, hL, hn18, hnc, hcm, hS, hx, bl⟩
  clear hc hcap
  have hln := hL.1
  have k1 := fun w' (h : Lst w'.heap.size w' a n l) => DV_impl n c st a l w' h
  have k2 := fun w' (h : Lst w'.heap.size w' a n l) => DV_spec n c st a l w' h
  have k3 := fun w' (h : Lst w'.heap.size w' a n l) => SD_impl n c st a l w' h
  have hdl := F.sdr_len l st
  have hdi := F.dev_in l st
  have hcase : F.dev l st < 0 ∨ (0 ≤ F.dev l st ∧ 0 < (F.sdr l st).length ∧ ∃ s : Nat, st = (s : Int) ∧ n = (F.sdr l st).length + 2 * s ∧ n ≤ 16 ∧ F.vp l = true ∧ 1 ≤ s ∧ s ≤ 16 ∧ F.sdr l st = F.sds l s (F.sdr l st).length) := by
    rcases Int.lt_or_le (F.dev l st) 0 with hd0 | hd0
    · exact .inl hd0
    rcases hd : F.dok l st with _ | _
    · have := F.dev_neg.2 (show (F.sdr l st).length = 0 by rw [F.sdr_no hd]; rfl); omega
    · have h1 := F.dok_of hd
      obtain ⟨s, rfl⟩ := Int.eq_ofNat_of_zero_le (show 0 ≤ st by omega)
      have h16 := (F.vp_of h1.1).1
      have hne : ¬ (F.sdr l (s : Int)).length = 0 := fun h => by have := F.dev_neg.2 h; omega
      right
      refine ⟨hd0, by omega, ?_⟩
      rw [F.sdr_yes hd, F.sds_len] at hne ⊢
      exact ⟨s, rfl, by omega, by omega, h1.1, by omega, by omega, rfl⟩
  have hdd : F.dev l st = F.dv (F.sdr l st) := rfl
  have hss := F.sdr_in l st
  generalize F.dev l st = D at *
  have HDD := Lib.hid hdd
  have HLN := Lib.hid hln
  have HSS := Lib.hid hss
  have HDL := Lib.hid hdl
  have K1 := Lib.hid k1
  have K2 := Lib.hid k2
  have K3 := Lib.hid k3
  clear k1 k2 k3 hdd hln hss hdl
  go_wp2_with fail
  refine (K1.out _ hL).mono ?_
  rintro e w2 ⟨rfl, b2⟩
  have hL2 := lst_same hL b2 (Nat.le_refl _)
  have bl2 := bl.trans (b2.mono bl.size)
  clear b2 bl hL K1
  go_wp2_with fail
  refine (K2.out _ hL2).mono ?_
  rintro e w3 ⟨rfl, b3⟩
  have hL3 := lst_same hL2 b3 (Nat.le_refl _)
  have bl3 := bl2.trans (b3.mono bl2.size)
  clear b3 bl2 hL2
  rcases hcase with h0 | ⟨h0, hq0, s, rfl, hn, hn16, hv, hs1, hs2, hds⟩
  · have h0' : decide (D < 0) = true := decide_eq_true h0
    go_wp2_with fail
    refine (K2.out _ hL3).mono ?_
    rintro e w5 ⟨rfl, b5⟩
    have HB := Lib.hid (bl3.trans (b5.mono bl3.size))
    clear b5 bl3 hL3
    go_wp2
    go_ret
    exact ⟨ret_bool (by first | rfl | simp), HB.out⟩
  · have h0' : ¬ D < 0 := by omega
    have HN := Lib.hid hn
    have HV := Lib.hid hv
    have HD := Lib.hid hds
    have HW := Lib.hid (And.intro hL3 bl3)
    have HQ0 := Lib.hid hq0
    clear hv hn hds hL3 bl3 K2 hq0
    go_wp2_with fail
    refine (K3.out _ HW.out.1).mono ?_
    rintro e w5 ⟨a5, c5, rfl, N5, b5⟩
    have M5 := N5.lst (by have := HDL.out; omega)
    have hrest := F.dv_rest HQ0.out
    rw [← HDD.out] at hrest
    have hss := HSS.out
    have hdl := HDL.out
    generalize F.sdr l (s : Int) = d at *
    obtain ⟨q, hq⟩ : ∃ q, d.length = q := ⟨_, rfl⟩
    rw [hq] at M5 hrest hdl ⊢
    have HSI := Lib.hid hss
    have HR := Lib.hid hrest
    have HB := Lib.hid (And.intro (HW.out.2.trans (b5.mono HW.out.2.size)) M5)
    clear N5 b5 M5 hss hrest hq HDD HSS HDL HQ0 HN HD
    go_wp2_with fail
    go_loopw [7, 8] (fun t i wr => ∃ k : Nat, k ≤ q ∧ t = .int .i64 (F.sqs d k) ∧ i = .int .i64 k ∧ Same w5 wr) (fun _ i _ => q - (intOf i).toNat)
    case atStart => exact ⟨0, Nat.zero_le _, rfl, rfl, Same.refl _⟩
    case round =>
      obtain ⟨k, hk, rfl, rfl, hsm⟩ := hrel
      have hs := F.sqs_in HSI.out k
      by_cases hlt : k < q
      · obtain ⟨b, off, rfl, hb, hc⟩ := (HB.out.2.same hsm).at_ k hlt
        have ck := hc k hlt
        have hg := F.sq_in (HSI.out k)
        have HS := Lib.hid (F.sqs_succ d k)
        clear hc
        generalize F.sqs d k = S at *
        generalize hx' : L.g d k = x at *
        have HX := Lib.hid hx'
        clear hx'
        have w1' : IntKind.i64.wrap (x * x) = x * x := IntWalk.i64_in _ (by omega)
        have w2' : IntKind.i64.wrap (S + x * x) = S + x * x := IntWalk.i64_in _ (by omega)
        go_wp2_with fail
        go_quiet (fail)
        clear w1' w2'
        go_wp2
        go_roundw
        case rel => exact ⟨k + 1, by omega, by rw [HS.out], by go_num, hsm.drewN _⟩
        case measure => simp [intOf]; omega
      · obtain rfl : k = q := by omega
        have hr := HR.out
        generalize F.sqs d k = S at *
        have hm : -40 ≤ 2 * (k : Int) * D ∧ 2 * (k : Int) * D ≤ 1000000000000000 := by omega
        have w1' : IntKind.i64.wrap (2 * (k : Int) * D) = 2 * (k : Int) * D := IntWalk.i64_in _ (by omega)
        have w2' : IntKind.i64.wrap (S - 2 * (k : Int) * D) = S - 2 * (k : Int) * D := IntWalk.i64_in _ (by omega)
        have hr1 : 0 ≤ S - 2 * (k : Int) * D := hr.1
        have hr2 : S - 2 * (k : Int) * D < 2 * (k : Int) := hr.2
        have HB2 := Lib.hid (bel_same HB.out.1 hsm)
        clear hr hm
        go_wp2
        go_ret
        exact ⟨ret_bool (by first | rfl | (simp; done)), HB2.out⟩

/-! ### THE ROW's STEP: WRITTEN OUT: LEAVE IT -/
set_option maxRecDepth 100000 in
theorem lifted (os : Os) (started : os.Started) (H : Type) (enc : TypeId × Value → H) :
    ReturnsInHanded {} Try.checked os 7 .any (Rows.fnDeviationOfMeanSpec.pre6 enc Try.prog Try.f7 Rows.fnDeviationOfMeanRow.domain false) (Rows.fnDeviationOfMeanSpec.post enc Try.prog Try.f7 false true false false) := by
  refine returnsInHanded_of_change (C := Try.checked) own started (by kernel_rfl) Try.func7
    (ChangeSpec.witness6 (enc := enc) (C := Try.checked) false ⟨#[], #[.slice none 0 0], []⟩ 8 (by kernel_rfl) (by kernel_rfl) (by kernel_rfl) (by kernel_rfl)) ?_
  intro W base args ds gs before hval0 hW hcnd _
  have hval : ∀ (j : Nat) t v, Try.f7.params[j]? = some t → args[j]? = some v → Value.okWide Try.prog W .any base t v := hval0
  have hW' := hW
  obtain ⟨p, q, hA0, hV, rfl, hfz, hnd⟩ := hW
  have hA : DataW.TrodAll enc Try.prog W 0 (fun _ => true) true Try.f7.params.toList args.toList ds p := hA0
  rw [Try.params7] at hA hval
  obtain ⟨v0, vs0, d0, ds0, p0, q0, hargs, rfl, rfl, h0, r0⟩ := trodAll_cons hA
  obtain ⟨rfl, rfl, rfl⟩ := trodAll_nil r0
  obtain rfl : args = #[v0] := by cases args; simp_all
  obtain ⟨rfl, rfl⟩ := trodVars_none hV
  obtain ⟨a0, len0, cap0, rfl⟩ := okWide_slice Try.underlying22 (hval 0 22 v0 rfl rfl)
  have k0 := h0
  have lt0 : ∀ x ∈ p0, x.block < W.heap.size := by obtain ⟨m, hm⟩ := k0; exact DataW.trod_lt m _ _ _ hm
  obtain ⟨z0, w0⟩ : ∃ zs, IsRow .u8 W a0 len0 cap0 zs := by
    obtain ⟨fuel, hf⟩ := h0
    rcases open_ints Try.underlying22 Try.underlying5 (by kernel_rfl) hf with ⟨hcs, _⟩ | ⟨x, l, c, zs, hcs, _, hl, hm, hz, _, hcell, hwz⟩
    · simp [Value.cells] at hcs
      obtain ⟨rfl, rfl, rfl⟩ := hcs
      exact ⟨[], .inl ⟨rfl, rfl, rfl, rfl⟩⟩
    · simp [Value.cells] at hcs
      obtain ⟨rfl, rfl, rfl⟩ := hcs
      exact ⟨zs, .inr ⟨_, rfl, hl, hm, by simpa using hz, hcell, hwz⟩⟩
  clear hA0 hval0
  refine (walk a0 len0 cap0 z0 W w0).mono fun e W' ⟨he, bel⟩ => ?_
  subst he
  exact ⟨_, rfl, _, _, _, [], _, [], hW', trodAll_mk1 (shut_bool Try.underlying4 _), (trodAll_cons_mk (Below.trod laidOut (by kernel_rfl) (of_decide_eq_true (by kernel_rfl)) k0 bel lt0) trodAll_mk0), rfl, bel.frame _, fun h => by cases h⟩

theorem over : Rows.fnDeviationOfMeanRow.holds Try.pinned (OpenSpec.ofChange Rows.fnDeviationOfMeanSpec) :=
  OpenClaim.holds_of_wide 7 Try.f7 rfl rfl rfl rfl rfl rfl rfl ⟨rfl, rfl, rfl, rfl, rfl⟩ rfl rfl rfl rfl rfl (by kernel_rfl) Try.func7 (by kernel_rfl)
    (of_decide_eq_true (by kernel_rfl)) (by unfold Func.isWrapper; first | (rw [if_pos (by decide +kernel)]; kernel_rfl) | (rw [if_neg (by decide +kernel)]; exact ⟨rfl, rfl⟩))
    (fun os started H enc _ => lifted os started H enc)

/-- ████ THE STATEMENT ████ -/
theorem proved : Rows.FnDeviationOfMeanSaid := over
#print axioms proved
end Go.Proofs.Ytijkglhgmojffaa.fnDeviationOfMean
