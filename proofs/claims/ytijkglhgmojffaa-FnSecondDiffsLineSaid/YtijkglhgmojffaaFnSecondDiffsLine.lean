/-
  PROVED: FnSecondDiffsLine: for every input the law returns true, and the input reads as it did. No condition.
  The frame is as the kit prints it (proof-skeleton.mjs); the walk is mine.
-/
import Derived.Test.YtijkglhgmojffaaRows
import Derived.Test.YtijkglhgmojffaaDev
import Derived.Test.YtijkglhgmojffaaDrawP2
import Derived.Test.YtijkglhgmojffaaMarkI
import Derived.WalkKit
import Derived.ProofKit
import Derived.OpenShut
import Derived.ShutString
import Derived.ChangeOld
import Derived.Below
namespace Go.Proofs.Ytijkglhgmojffaa.fnSecondDiffsLine
open Go.ChangeShapes Go.WideShapes Go.ChangeAt Go.RowKit
open Go.ChangeMaps (open_string shut_string)
set_option linter.unusedVariables false

theorem own : ownKnob Try.prog.godebug = none := by kernel_rfl
theorem laidOut : laidOutB Try.prog = true := by kernel_rfl

/-- WHAT THE WALK IS TOLD OF A SLICE OF INTEGERS THAT CAME IN: it is nil; or it leads to a row of 'cap' cells, the numbers 'zs' (the first 'len' are its elements, the rest its spare room), each fitting its kind. -/
def IsRow (k : IntKind) (w : World) (a : Option Addr) (len cap : Nat) (zs : List Int) : Prop :=
  (a = none ∧ len = 0 ∧ cap = 0 ∧ zs = []) ∨
  ∃ x, a = some x ∧ len ≤ cap ∧ cap ≤ maxLen ∧ zs.length = cap ∧ (∀ i, i < zs.length → w.cell? (x.add i) = some (.int k (zs.getD i 0))) ∧ ∀ n ∈ zs, (Lit.int k n).wf = true

/-! ### STEP 1: THE WALK: the Go text returns true, AND WRITES NOTHING THAT WAS THERE: 'Below w.heap.size w w'' (Derived/Below.lean: '.refl', '.alloc', '.drew', '.setCell' at a new block, '.trans'). Open each 'IsRow' by 'rcases' AHEAD of 'go_enter'; part every test ahead of the walk. -/
set_option maxRecDepth 100000 in
set_option maxHeartbeats 8000000 in
theorem walk (a0 : Option Addr) (len0 cap0 : Nat) (z0 : List Int) (w : World) (w0 : IsRow .u8 w a0 len0 cap0 z0) :
    Calls Try.prog 4 #[.slice a0 len0 cap0] w fun e w' => e = .returned (.bool true) ∧ Below w.heap.size w w' := by
  by_cases hl : 1048576 < len0
  · have hl' : (1048576 : Int) < (len0 : Int) := by omega
    clear w0 hl
    go_enter Try.func4, Try.ntmps4
    go_wp2
    go_ret
    exact ⟨rfl, Below.refl _ _⟩
  have hl' : ¬ (1048576 : Int) < (len0 : Int) := by omega
  obtain ⟨hc, hcap⟩ := code_of w0 (by omega)
  clear w0 hl
  go_enter Try.func4, Try.ntmps4
  go_wp2_with fail
  refine (DrawSecondDiffs_any w a0 len0 cap0 hc hcap).mono ?_
  rintro e w1 ⟨a, n, c, l, st, rfl, hL, hn18, hnc, hcm, hS, hx, bl⟩
  clear hc hcap
  have hln := hL.1
  have k1 := fun w' (h : Lst w'.heap.size w' a n l) => SD_impl n c st a l w' h
  have k2 := fun w' (h : Lst w'.heap.size w' a n l) => SD_spec n c st a l w' h
  have hdl := F.sdr_len l st
  have hcase : (F.sdr l st).length = 0 ∨ (0 < (F.sdr l st).length ∧ ∃ s : Nat, st = (s : Int) ∧ n = (F.sdr l st).length + 2 * s ∧ n ≤ 16 ∧ F.vp l = true ∧ 1 ≤ s ∧ s ≤ 16 ∧ F.sdr l st = F.sds l s (F.sdr l st).length) := by
    rcases hd : F.dok l st with _ | _
    · left; rw [F.sdr_no hd]; rfl
    · have h1 := F.dok_of hd
      obtain ⟨s, rfl⟩ := Int.eq_ofNat_of_zero_le (show 0 ≤ st by omega)
      have h16 := (F.vp_of h1.1).1
      rw [F.sdr_yes hd, F.sds_len]
      rcases Nat.eq_zero_or_pos (l.length - 2 * s) with h0 | h0
      · exact .inl h0
      · exact .inr ⟨h0, s, rfl, by omega, by omega, h1.1, by omega, by omega, rfl⟩
  generalize F.sdr l st = d at *
  obtain ⟨q, hq⟩ : ∃ q, d.length = q := ⟨_, rfl⟩
  have HQ := Lib.hid hq
  have HLN := Lib.hid hln
  rw [hq] at hdl hcase
  have K1 := Lib.hid k1
  have K2 := Lib.hid k2
  clear k1 k2 hq hln
  go_wp2_with fail
  refine (K1.out _ hL).mono ?_
  rintro e w2 ⟨a2, c2, rfl, N2, b2⟩
  have M2 := N2.lst (by have := HQ.out; omega)
  rw [HQ.out] at M2 ⊢
  have hL2 := lst_same hL b2 (Nat.le_refl _)
  have bl2 := bl.trans (b2.mono bl.size)
  clear N2 b2 bl hL K1
  go_wp2_with fail
  refine (K2.out _ hL2).mono ?_
  rintro e w3 ⟨a3, c3, rfl, N3, b3⟩
  have M3 := N3.lst (by have := HQ.out; omega)
  rw [HQ.out] at M3 ⊢
  have P3 := lst_same M2 b3 (Nat.le_refl _)
  have hL3 := lst_same hL2 b3 (Nat.le_refl _)
  have bl3 := bl2.trans (b3.mono bl2.size)
  clear N3 b3 bl2 hL2 M2
  go_wp2_with fail
  refine (equalInts_any q c2 c3 _ a2 a3 d w3 P3 M3).mono ?_
  rintro e w4 ⟨rfl, q4⟩
  have bl4 := bel_same bl3 q4
  have P4 := lst_same P3 q4.below (Nat.le_refl _)
  have hL4 := lst_same hL3 q4.below (Nat.le_refl _)
  clear q4 bl3 P3 M3 hL3
  rcases hcase with h0 | ⟨h0, s, rfl, hn, hn16, hv, hs1, hs2, hds⟩
  · have h0' : ((q : Int) == 0) = true := by rw [h0]; rfl
    clear h0
    go_wp2_with fail
    refine (K2.out _ hL4).mono ?_
    rintro e w5 ⟨a5, c5, rfl, N5, b5⟩
    have M5 := N5.lst (by have := HQ.out; omega)
    rw [HQ.out] at M5 ⊢
    have P5 := lst_same P4 b5 (Nat.le_refl _)
    have bl5 := bl4.trans (b5.mono bl4.size)
    clear N5 b5 bl4
    go_wp2_with fail
    refine (equalInts_any q c2 c5 _ a2 a5 d w5 P5 M5).mono ?_
    rintro e w6 ⟨rfl, q6⟩
    have HB := Lib.hid (bel_same bl5 q6)
    clear q6 bl5 P5 M5
    go_wp2
    go_ret
    exact ⟨ret_bool (by first | rfl | simp), HB.out⟩
  · have h0' : ((q : Int) == 0) = false := by rw [beq_eq_false_iff_ne]; omega
    have HN := Lib.hid hn
    have HV := Lib.hid hv
    have HD := Lib.hid hds
    have HW := Lib.hid (And.intro hL4 (And.intro P4 bl4))
    clear hv P4 hn hds hL4 bl4 K2
    have hL0 := HW.out.1
    have O0 := Ow.new (Below.refl w4.heap.size w4)
    have hL0 := hL0.below ((Below.refl w4.heap.size w4).alloc (Nat.le_refl _) (.cells #[] 3))
    go_wp2_with fail
    go_loopw [6, 7] (fun o i wr => ∃ (k : Nat) (v : Value), o = v ∧ i = .int .i64 k ∧ k ≤ n ∧ Ow w4 wr w4.heap.size v (F.mk (fun i => 7 * (i : Int) - 30) k) ∧ Lst w4.heap.size wr a n l) (fun _ i _ => n - (intOf i).toNat)
    case atStart => exact ⟨0, _, rfl, rfl, Nat.zero_le _, O0, hL0⟩
    case round =>
      obtain ⟨k, v, rfl, rfl, hk, O, hLr⟩ := hrel
      clear O0 hL0
      by_cases hlt : k < n
      · have HM := Lib.hid (F.mk_snoc (fun i => 7 * (i : Int) - 30) k)
        have hml := F.mk_len (fun i => 7 * (i : Int) - 30) k
        have e1 : IntKind.i64.wrap (7 * (k : Int)) = 7 * (k : Int) := IntWalk.i64_in _ (by omega)
        have e2 : IntKind.i64.wrap (7 * (k : Int) - 30) = 7 * (k : Int) - 30 := IntWalk.i64_in _ (by omega)
        go_wp2_with (at_builtin; refine app_i rfl _ _ rfl rfl rfl (by simp) (O.al _) (by omega) (F.mk (fun i => 7 * (i : Int) - 30) (k + 1)) HM.out ?_)
        intro v' w9 O9 b9
        have hL9 := Lib.hid (hLr.below (((Below.refl w4.heap.size wr).alloc O.hi _).trans b9))
        clear O hLr b9
        go_wp2
        go_roundw
        case rel => exact ⟨k + 1, v', rfl, by go_num, by omega, O9, hL9.out⟩
        case measure => simp [intOf]; omega
      · obtain rfl : k = n := by omega
        have hml := F.mk_len (fun i => 7 * (i : Int) - 30) k
        obtain ⟨a5, c5, rfl, hM⟩ := O.lst (by omega)
        rw [hml] at hM ⊢
        have hz := F.line_zero (n := k) (s := s) hn16 hs1 hs2
        have k5 := SD_impl k c5 (s : Int) a5 _ wr hM
        have hbw := HW.out.2.2.trans (O.bel.mono HW.out.2.2.size)
        have P5 := (HW.out.2.1.below (O.bel)).more (show w4.heap.size ≤ wr.heap.size from O.hi)
        have HO := Lib.hid (And.intro hbw P5)
        clear O hLr hM hbw P5
        generalize F.sdr (F.mk (fun i => 7 * (i : Int) - 30) k) (s : Int) = z at *
        have K5 := Lib.hid k5
        have HZ := Lib.hid hz.2
        have hzl : z.length = q := by have := HN.out; omega
        clear k5 hz
        go_wp2_with fail
        refine K5.out.mono ?_
        rintro e w6 ⟨a6, c6, rfl, N6, b6⟩
        have M6 := N6.lst (by omega)
        rw [hzl] at M6 ⊢
        have HB := Lib.hid (And.intro (HO.out.1.trans (b6.mono HO.out.1.size)) M6)
        clear N6 b6 M6 hzl
        go_wp2_with fail
        go_loopw [9] (fun i wr => ∃ j : Nat, j ≤ q ∧ i = .int .i64 j ∧ Same w6 wr) (fun i _ => q - (intOf i).toNat)
        case atStart => exact ⟨0, Nat.zero_le _, rfl, Same.refl _⟩
        case round =>
          obtain ⟨j, hj, rfl, hsm⟩ := hrel
          by_cases hlt2 : j < q
          · obtain ⟨b, off, rfl, hb, hc⟩ := (HB.out.2.same hsm).at_ j hlt2
            have y0 := hc j hlt2
            rw [HZ.out j] at y0
            clear hc
            go_wp2
            go_roundw
            case rel => exact ⟨j + 1, by omega, by go_num, hsm⟩
            case measure => simp [intOf]; omega
          · obtain rfl : j = q := by omega
            have HB2 := Lib.hid (bel_same HB.out.1 hsm)
            go_wp2
            go_ret
            exact ⟨ret_bool (by first | rfl | (simp; done)), HB2.out⟩

/-! ### THE ROW's STEP: WRITTEN OUT: LEAVE IT -/
set_option maxRecDepth 100000 in
theorem lifted (os : Os) (started : os.Started) (H : Type) (enc : TypeId × Value → H) :
    ReturnsInHanded {} Try.checked os 4 .any (Rows.fnSecondDiffsLineSpec.pre6 enc Try.prog Try.f4 Rows.fnSecondDiffsLineRow.domain false) (Rows.fnSecondDiffsLineSpec.post enc Try.prog Try.f4 false true false false) := by
  refine returnsInHanded_of_change (C := Try.checked) own started (by kernel_rfl) Try.func4
    (ChangeSpec.witness6 (enc := enc) (C := Try.checked) false ⟨#[], #[.slice none 0 0], []⟩ 8 (by kernel_rfl) (by kernel_rfl) (by kernel_rfl) (by kernel_rfl)) ?_
  intro W base args ds gs before hval0 hW hcnd _
  have hval : ∀ (j : Nat) t v, Try.f4.params[j]? = some t → args[j]? = some v → Value.okWide Try.prog W .any base t v := hval0
  have hW' := hW
  obtain ⟨p, q, hA0, hV, rfl, hfz, hnd⟩ := hW
  have hA : DataW.TrodAll enc Try.prog W 0 (fun _ => true) true Try.f4.params.toList args.toList ds p := hA0
  rw [Try.params4] at hA hval
  obtain ⟨v0, vs0, d0, ds0, p0, q0, hargs, rfl, rfl, h0, r0⟩ := trodAll_cons hA
  obtain ⟨rfl, rfl, rfl⟩ := trodAll_nil r0
  obtain rfl : args = #[v0] := by cases args; simp_all
  obtain ⟨rfl, rfl⟩ := trodVars_none hV
  obtain ⟨a0, len0, cap0, rfl⟩ := okWide_slice Try.underlying22 (hval 0 22 v0 rfl rfl)
  have k0 := h0
  have lt0 : ∀ x ∈ p0, x.block < W.heap.size := by obtain ⟨m, hm⟩ := k0; exact DataW.trod_lt m _ _ _ hm
  obtain ⟨z0, w0⟩ : ∃ zs, IsRow .u8 W a0 len0 cap0 zs := by
    obtain ⟨fuel, hf⟩ := h0
    rcases open_ints Try.underlying22 Try.underlying5 (by kernel_rfl) hf with ⟨hcs, _⟩ | ⟨x, l, c, zs, hcs, _, hl, hm, hz, _, hcell, hwz⟩
    · simp [Value.cells] at hcs
      obtain ⟨rfl, rfl, rfl⟩ := hcs
      exact ⟨[], .inl ⟨rfl, rfl, rfl, rfl⟩⟩
    · simp [Value.cells] at hcs
      obtain ⟨rfl, rfl, rfl⟩ := hcs
      exact ⟨zs, .inr ⟨_, rfl, hl, hm, by simpa using hz, hcell, hwz⟩⟩
  clear hA0 hval0
  refine (walk a0 len0 cap0 z0 W w0).mono fun e W' ⟨he, bel⟩ => ?_
  subst he
  exact ⟨_, rfl, _, _, _, [], _, [], hW', trodAll_mk1 (shut_bool Try.underlying4 _), (trodAll_cons_mk (Below.trod laidOut (by kernel_rfl) (of_decide_eq_true (by kernel_rfl)) k0 bel lt0) trodAll_mk0), rfl, bel.frame _, fun h => by cases h⟩

theorem over : Rows.fnSecondDiffsLineRow.holds Try.pinned (OpenSpec.ofChange Rows.fnSecondDiffsLineSpec) :=
  OpenClaim.holds_of_wide 4 Try.f4 rfl rfl rfl rfl rfl rfl rfl ⟨rfl, rfl, rfl, rfl, rfl⟩ rfl rfl rfl rfl rfl (by kernel_rfl) Try.func4 (by kernel_rfl)
    (of_decide_eq_true (by kernel_rfl)) (by unfold Func.isWrapper; first | (rw [if_pos (by decide +kernel)]; kernel_rfl) | (rw [if_neg (by decide +kernel)]; exact ⟨rfl, rfl⟩))
    (fun os started H enc _ => lifted os started H enc)

/-- ████ THE STATEMENT ████ -/
theorem proved : Rows.FnSecondDiffsLineSaid := over
#print axioms proved
end Go.Proofs.Ytijkglhgmojffaa.fnSecondDiffsLine
