/-
  PROVED: FnSecondDiffs: for every input the law returns true, and the input reads as it did. No condition.
  The frame is as the kit prints it (proof-skeleton.mjs); the walk is mine.
-/
import Derived.Test.YtijkglhgmojffaaRows
import Derived.Test.YtijkglhgmojffaaDev
import Derived.Test.YtijkglhgmojffaaDrawP2
import Derived.Test.YtijkglhgmojffaaMarkI
import Derived.WalkKit
import Derived.ProofKit
import Derived.OpenShut
import Derived.ShutString
import Derived.ChangeOld
import Derived.Below
namespace Go.Proofs.Ytijkglhgmojffaa.fnSecondDiffs
open Go.ChangeShapes Go.WideShapes Go.ChangeAt Go.RowKit
open Go.ChangeMaps (open_string shut_string)
set_option linter.unusedVariables false

theorem own : ownKnob Try.prog.godebug = none := by kernel_rfl
theorem laidOut : laidOutB Try.prog = true := by kernel_rfl

/-- WHAT THE WALK IS TOLD OF A SLICE OF INTEGERS THAT CAME IN: it is nil; or it leads to a row of 'cap' cells, the numbers 'zs' (the first 'len' are its elements, the rest its spare room), each fitting its kind. -/
def IsRow (k : IntKind) (w : World) (a : Option Addr) (len cap : Nat) (zs : List Int) : Prop :=
  (a = none ∧ len = 0 ∧ cap = 0 ∧ zs = []) ∨
  ∃ x, a = some x ∧ len ≤ cap ∧ cap ≤ maxLen ∧ zs.length = cap ∧ (∀ i, i < zs.length → w.cell? (x.add i) = some (.int k (zs.getD i 0))) ∧ ∀ n ∈ zs, (Lit.int k n).wf = true

/-! ### STEP 1: THE WALK: the Go text returns true, AND WRITES NOTHING THAT WAS THERE: 'Below w.heap.size w w'' (Derived/Below.lean: '.refl', '.alloc', '.drew', '.setCell' at a new block, '.trans'). Open each 'IsRow' by 'rcases' AHEAD of 'go_enter'; part every test ahead of the walk. -/
set_option maxRecDepth 100000 in
set_option maxHeartbeats 8000000 in
theorem walk (a0 : Option Addr) (len0 cap0 : Nat) (z0 : List Int) (w : World) (w0 : IsRow .u8 w a0 len0 cap0 z0) :
    Calls Try.prog 3 #[.slice a0 len0 cap0] w fun e w' => e = .returned (.bool true) ∧ Below w.heap.size w w' := by
  by_cases hl : 1048576 < len0
  · have hl' : (1048576 : Int) < (len0 : Int) := by omega
    clear w0 hl
    go_enter Try.func3, Try.ntmps3
    go_wp2
    go_ret
    exact ⟨rfl, Below.refl _ _⟩
  have hl' : ¬ (1048576 : Int) < (len0 : Int) := by omega
  obtain ⟨hc, hcap⟩ := code_of w0 (by omega)
  clear w0 hl
  go_enter Try.func3, Try.ntmps3
  go_wp2_with fail
  refine (DrawSecondDiffs_any w a0 len0 cap0 hc hcap).mono ?_
  rintro e w1 ⟨a, n, c, l, st, rfl, hL, hn18, hnc, hcm, hS, hx, bl⟩
  clear hc hcap
  have hln := hL.1
  have k1 := fun w' (h : Lst w'.heap.size w' a n l) => SD_impl n c st a l w' h
  have k2 := fun w' (h : Lst w'.heap.size w' a n l) => SD_spec n c st a l w' h
  have k3 := fun w' (h : Lst w'.heap.size w' a n l) => SD_impl n c 1 a l w' h
  have hdl := F.sdr_len l st
  have hcase : (F.sdr l st).length = 0 ∨ (0 < (F.sdr l st).length ∧ ((F.sdr l st).length : Int) = (n : Int) - 2 * st ∧ F.vp l = true ∧ 1 ≤ st ∧ st ≤ 16 ∧ F.sdr l 1 = F.sds l 1 (n - 2) ∧ 2 ≤ n) := by
    rcases hd : F.dok l st with _ | _
    · left; rw [F.sdr_no hd]; rfl
    · have h1 := F.dok_of hd
      obtain ⟨s, rfl⟩ := Int.eq_ofNat_of_zero_le (show 0 ≤ st by omega)
      rw [F.sdr_yes hd, F.sds_len]
      rcases Nat.eq_zero_or_pos (l.length - 2 * s) with h0 | h0
      · exact .inl h0
      · refine .inr ⟨h0, by omega, h1.1, h1.2.1, h1.2.2, ?_, by omega⟩
        have := F.sdr_yes (l := l) (s := 1) (F.dok_yes ⟨h1.1, by decide, by decide⟩)
        rw [hln] at this
        exact this
  generalize F.sdr l st = d at *
  obtain ⟨q, hq⟩ : ∃ q, d.length = q := ⟨_, rfl⟩
  have HQ := Lib.hid hq
  rw [hq] at hdl hcase
  have K1 := Lib.hid k1
  have K2 := Lib.hid k2
  have K3 := Lib.hid k3
  clear k1 k2 k3 hq hln
  go_wp2_with fail
  refine (K1.out _ hL).mono ?_
  rintro e w2 ⟨a2, c2, rfl, N2, b2⟩
  have M2 := N2.lst (by have := HQ.out; omega)
  rw [HQ.out] at M2 ⊢
  have hL2 := lst_same hL b2 (Nat.le_refl _)
  have bl2 := bl.trans (b2.mono bl.size)
  clear N2 b2 bl hL K1
  go_wp2_with fail
  refine (K2.out _ hL2).mono ?_
  rintro e w3 ⟨a3, c3, rfl, N3, b3⟩
  have M3 := N3.lst (by have := HQ.out; omega)
  rw [HQ.out] at M3 ⊢
  have P3 := lst_same M2 b3 (Nat.le_refl _)
  have hL3 := lst_same hL2 b3 (Nat.le_refl _)
  have bl3 := bl2.trans (b3.mono bl2.size)
  clear N3 b3 bl2 hL2 M2
  go_wp2_with fail
  refine (equalInts_any q c2 c3 _ a2 a3 d w3 P3 M3).mono ?_
  rintro e w4 ⟨rfl, q4⟩
  have bl4 := bel_same bl3 q4
  have P4 := lst_same P3 q4.below (Nat.le_refl _)
  have hL4 := lst_same hL3 q4.below (Nat.le_refl _)
  clear q4 bl3 P3 M3 hL3
  rcases hcase with h0 | ⟨h0, hqn, hv, hs1, hs2, hone, h2n⟩
  · have h0' : ((q : Int) == 0) = true := by rw [h0]; rfl
    clear h0
    go_wp2_with fail
    refine (K2.out _ hL4).mono ?_
    rintro e w5 ⟨a5, c5, rfl, N5, b5⟩
    have M5 := N5.lst (by have := HQ.out; omega)
    rw [HQ.out] at M5 ⊢
    have P5 := lst_same P4 b5 (Nat.le_refl _)
    have bl5 := bl4.trans (b5.mono bl4.size)
    clear N5 b5 bl4
    go_wp2_with fail
    refine (equalInts_any q c2 c5 _ a2 a5 d w5 P5 M5).mono ?_
    rintro e w6 ⟨rfl, q6⟩
    have HB := Lib.hid (bel_same bl5 q6)
    clear q6 bl5 P5 M5
    go_wp2
    go_ret
    exact ⟨ret_bool (by first | rfl | simp), HB.out⟩
  · have h0' : ((q : Int) == 0) = false := by rw [beq_eq_false_iff_ne]; omega
    have HQN := Lib.hid hqn
    have HV := Lib.hid hv
    have HP := Lib.hid P4
    clear hv P4 hqn
    go_wp2_with fail
    refine (K3.out _ hL4).mono ?_
    rintro e w5 ⟨a5, c5, rfl, N5, b5⟩
    have hlo : (F.sdr l 1).length = n - 2 := by rw [hone, F.sds_len]
    have M5 := N5.lst (by omega)
    rw [hlo] at M5 ⊢
    have hg5 : ∀ i, i < n - 2 → L.g (F.sdr l 1) i = L.g l (i + 2) - 2 * L.g l (i + 1) + L.g l i := fun i hi => by rw [hone, F.sds_g _ _ _ _ hi, F.sd_eq]
    generalize F.sdr l 1 = d1 at *
    have hL5 := lst_same hL4 b5 (Nat.le_refl _)
    have bl5 := bl4.trans (b5.mono bl4.size)
    have HG := Lib.hid hg5
    obtain ⟨m, rfl⟩ : ∃ m, n = m + 2 := ⟨n - 2, by omega⟩
    rw [Nat.add_sub_cancel] at M5 HG ⊢
    have HL := Lib.hid (And.intro hL5 M5)
    have HB := Lib.hid bl5
    clear N5 b5 bl4 hL4 hlo hone hg5 hL5 M5 bl5
    go_wp2_with fail
    go_loopw [7] (fun i wr => ∃ k : Nat, k ≤ m ∧ i = .int .i64 k ∧ Same w5 wr) (fun i _ => m - (intOf i).toNat)
    case atStart => exact ⟨0, Nat.zero_le _, rfl, Same.refl _⟩
    case round =>
      obtain ⟨k, hk, rfl, hsm⟩ := hrel
      by_cases hlt : k < m
      · obtain ⟨b, off, rfl, hb, hc⟩ := (HL.out.1.same hsm).at_ k (by omega)
        obtain ⟨b', off', rfl, hb', hc'⟩ := (HL.out.2.same hsm).at_ k hlt
        have y0 := hc k (by omega)
        have y1 := hc (k + 1) (by omega)
        have y2 := hc (k + 2) (by omega)
        have y3 := hc' k hlt
        rw [HG.out k hlt] at y3
        have g0 := F.vp_g HV.out k
        have g1 := F.vp_g HV.out (k + 1)
        have g2 := F.vp_g HV.out (k + 2)
        generalize L.g l k = x0 at *
        generalize L.g l (k + 1) = x1 at *
        generalize L.g l (k + 2) = x2 at *
        have e1 : IntKind.i64.wrap ((k : Int) + 1) = (k : Int) + 1 := IntWalk.i64_in _ (by omega)
        have e2 : IntKind.i64.wrap ((k : Int) + 2) = (k : Int) + 2 := IntWalk.i64_in _ (by omega)
        have n1 : ((k : Int) + 1).toNat = k + 1 := by omega
        have n2 : ((k : Int) + 2).toNat = k + 2 := by omega
        have p1 : (0 : Int) ≤ (k : Int) + 1 := by omega
        have p2 : (0 : Int) ≤ (k : Int) + 2 := by omega
        have v1 : IntKind.i64.wrap (x2 - x1) = x2 - x1 := IntWalk.i64_in _ (by omega)
        have v2 : IntKind.i64.wrap (x1 - x0) = x1 - x0 := IntWalk.i64_in _ (by omega)
        have v3 : IntKind.i64.wrap (x2 - x1 - (x1 - x0)) = x2 - x1 - (x1 - x0) := IntWalk.i64_in _ (by omega)
        have hge : decide (m ≤ k) = false := decide_eq_false (by omega)
        have hne : ((x2 - 2 * x1 + x0) != (x2 - x1 - (x1 - x0))) = false := by rw [bne_eq_false_iff_eq]; omega
        clear hc hc' g0 g1 g2
        go_wp2_with fail
        go_quiet (fail)
        clear e1 e2 v1 v2 v3 y0 y1 y2 y3
        go_wp2
        go_roundw
        case rel => exact ⟨k + 1, by omega, by go_num, hsm.drewN _⟩
        case measure => simp [intOf]; omega
      · obtain rfl : k = m := by omega
        have hq1 : ((q : Int) == (k : Int) + 2 - 2 * st) = true := by have := HQN.out; rw [beq_iff_eq]; omega
        have HB2 := Lib.hid (bel_same HB.out hsm)
        go_wp2
        go_ret
        exact ⟨ret_bool (by first | rfl | (simp; done) | (have := HQN.out; simp; omega)), HB2.out⟩

/-! ### THE ROW's STEP: WRITTEN OUT: LEAVE IT -/
set_option maxRecDepth 100000 in
theorem lifted (os : Os) (started : os.Started) (H : Type) (enc : TypeId × Value → H) :
    ReturnsInHanded {} Try.checked os 3 .any (Rows.fnSecondDiffsSpec.pre6 enc Try.prog Try.f3 Rows.fnSecondDiffsRow.domain false) (Rows.fnSecondDiffsSpec.post enc Try.prog Try.f3 false true false false) := by
  refine returnsInHanded_of_change (C := Try.checked) own started (by kernel_rfl) Try.func3
    (ChangeSpec.witness6 (enc := enc) (C := Try.checked) false ⟨#[], #[.slice none 0 0], []⟩ 8 (by kernel_rfl) (by kernel_rfl) (by kernel_rfl) (by kernel_rfl)) ?_
  intro W base args ds gs before hval0 hW hcnd _
  have hval : ∀ (j : Nat) t v, Try.f3.params[j]? = some t → args[j]? = some v → Value.okWide Try.prog W .any base t v := hval0
  have hW' := hW
  obtain ⟨p, q, hA0, hV, rfl, hfz, hnd⟩ := hW
  have hA : DataW.TrodAll enc Try.prog W 0 (fun _ => true) true Try.f3.params.toList args.toList ds p := hA0
  rw [Try.params3] at hA hval
  obtain ⟨v0, vs0, d0, ds0, p0, q0, hargs, rfl, rfl, h0, r0⟩ := trodAll_cons hA
  obtain ⟨rfl, rfl, rfl⟩ := trodAll_nil r0
  obtain rfl : args = #[v0] := by cases args; simp_all
  obtain ⟨rfl, rfl⟩ := trodVars_none hV
  obtain ⟨a0, len0, cap0, rfl⟩ := okWide_slice Try.underlying22 (hval 0 22 v0 rfl rfl)
  have k0 := h0
  have lt0 : ∀ x ∈ p0, x.block < W.heap.size := by obtain ⟨m, hm⟩ := k0; exact DataW.trod_lt m _ _ _ hm
  obtain ⟨z0, w0⟩ : ∃ zs, IsRow .u8 W a0 len0 cap0 zs := by
    obtain ⟨fuel, hf⟩ := h0
    rcases open_ints Try.underlying22 Try.underlying5 (by kernel_rfl) hf with ⟨hcs, _⟩ | ⟨x, l, c, zs, hcs, _, hl, hm, hz, _, hcell, hwz⟩
    · simp [Value.cells] at hcs
      obtain ⟨rfl, rfl, rfl⟩ := hcs
      exact ⟨[], .inl ⟨rfl, rfl, rfl, rfl⟩⟩
    · simp [Value.cells] at hcs
      obtain ⟨rfl, rfl, rfl⟩ := hcs
      exact ⟨zs, .inr ⟨_, rfl, hl, hm, by simpa using hz, hcell, hwz⟩⟩
  clear hA0 hval0
  refine (walk a0 len0 cap0 z0 W w0).mono fun e W' ⟨he, bel⟩ => ?_
  subst he
  exact ⟨_, rfl, _, _, _, [], _, [], hW', trodAll_mk1 (shut_bool Try.underlying4 _), (trodAll_cons_mk (Below.trod laidOut (by kernel_rfl) (of_decide_eq_true (by kernel_rfl)) k0 bel lt0) trodAll_mk0), rfl, bel.frame _, fun h => by cases h⟩

theorem over : Rows.fnSecondDiffsRow.holds Try.pinned (OpenSpec.ofChange Rows.fnSecondDiffsSpec) :=
  OpenClaim.holds_of_wide 3 Try.f3 rfl rfl rfl rfl rfl rfl rfl ⟨rfl, rfl, rfl, rfl, rfl⟩ rfl rfl rfl rfl rfl (by kernel_rfl) Try.func3 (by kernel_rfl)
    (of_decide_eq_true (by kernel_rfl)) (by unfold Func.isWrapper; first | (rw [if_pos (by decide +kernel)]; kernel_rfl) | (rw [if_neg (by decide +kernel)]; exact ⟨rfl, rfl⟩))
    (fun os started H enc _ => lifted os started H enc)

/-- ████ THE STATEMENT ████ -/
theorem proved : Rows.FnSecondDiffsSaid := over
#print axioms proved
end Go.Proofs.Ytijkglhgmojffaa.fnSecondDiffs
