/-
  PROVED: FnSlopeOfBack: for every input the law returns true, and the input reads as it did. No condition.
  The frame is as the kit prints it (proof-skeleton.mjs); the walk is mine.
-/
import Derived.Test.YtlkcbdcdldndcaaRows
import Derived.Test.YtlkcbdcdldndcaaPhase
import Derived.Test.YtlkcbdcdldndcaaDrawP
import Derived.Test.YtlkcbdcdldndcaaOwn
import Derived.Test.YtlkcbdcdldndcaaLine
import Derived.WalkKit
import Derived.ProofKit
import Derived.OpenShut
import Derived.ShutString
import Derived.ChangeOld
import Derived.Below
namespace Go.Proofs.Ytlkcbdcdldndcaa.fnSlopeOfBack
open Go.ChangeShapes Go.WideShapes Go.ChangeAt Go.RowKit
open Go.ChangeMaps (open_string shut_string)
set_option linter.unusedVariables false

theorem own : ownKnob Try.prog.godebug = none := by kernel_rfl
theorem laidOut : laidOutB Try.prog = true := by kernel_rfl

/-- WHAT THE WALK IS TOLD OF A SLICE OF INTEGERS THAT CAME IN: it is nil; or it leads to a row of 'cap' cells, the numbers 'zs' (the first 'len' are its elements, the rest its spare room), each fitting its kind. -/
def IsRow (k : IntKind) (w : World) (a : Option Addr) (len cap : Nat) (zs : List Int) : Prop :=
  (a = none ∧ len = 0 ∧ cap = 0 ∧ zs = []) ∨
  ∃ x, a = some x ∧ len ≤ cap ∧ cap ≤ maxLen ∧ zs.length = cap ∧ (∀ i, i < zs.length → w.cell? (x.add i) = some (.int k (zs.getD i 0))) ∧ ∀ n ∈ zs, (Lit.int k n).wf = true

/-! ### STEP 1: THE WALK: the Go text returns true, AND WRITES NOTHING THAT WAS THERE: 'Below w.heap.size w w'' (Derived/Below.lean: '.refl', '.alloc', '.drew', '.setCell' at a new block, '.trans'). Open each 'IsRow' by 'rcases' AHEAD of 'go_enter'; part every test ahead of the walk. -/
set_option maxRecDepth 100000 in
set_option maxHeartbeats 2000000 in
theorem walk (a0 : Option Addr) (len0 cap0 : Nat) (z0 : List Int) (w : World) (w0 : IsRow .u8 w a0 len0 cap0 z0) :
    Calls Try.prog 5 #[.slice a0 len0 cap0] w fun e w' => e = .returned (.bool true) ∧ Below w.heap.size w w' := by
  by_cases hl : 1048576 < len0
  · have hl' : (1048576 : Int) < (len0 : Int) := by omega
    clear w0 hl
    go_enter Try.func5, Try.ntmps5
    go_wp2
    go_ret
    exact ⟨rfl, Below.refl _ _⟩
  have hl' : ¬ (1048576 : Int) < (len0 : Int) := by omega
  obtain ⟨hc, hcap⟩ := code_of w0 (by omega)
  clear w0 hl
  go_enter Try.func5, Try.ntmps5
  go_wp2_with fail
  refine (DrawSlopeOf_any w a0 len0 cap0 hc hcap).mono ?_
  rintro e w1 ⟨a, n, c, l, rfl, hL, hn18, hnc, hcm, hS, bl⟩
  clear hc hcap
  have hl := hL.1
  have k1 := fun w' h => SL_impl w1.heap.size n c a l w' h
  have k2 := fun w' h => SL_spec w1.heap.size n c a l w' h
  rcases hv : F.sok l with _ | _
  · simp only [hv, F.sn_no hv] at k1 k2
    have K1 := Lib.hid k1
    have K2 := Lib.hid k2
    clear k1 k2 hv
    go_wp2_with fail
    refine (K1.out _ hL).mono ?_
    rintro e w2 ⟨rfl, q2⟩
    go_wp2_with fail
    refine (K2.out _ (hL.same q2)).mono ?_
    rintro e w3 ⟨rfl, q3⟩
    have HB := Lib.hid (bel_same (bel_same bl q2) q3)
    clear q2 q3
    go_wp2
    go_ret
    exact ⟨ret_bool (by first | rfl | simp), HB.out⟩
  · have hvp := F.vp_of (F.sok_of hv).1
    have h2 := (F.sok_of hv).2
    obtain ⟨m, rfl⟩ : ∃ m, n = m + 1 := ⟨n - 1, by omega⟩
    have hm1 : 1 ≤ m := by omega
    have g0 := hvp.2 0 (by omega)
    have g1 := hvp.2 m (by omega)
    have hsl : F.sl l = (L.g l m - L.g l 0) / (m : Int) := by unfold F.sl; rw [hl]; simp
    simp only [hv, F.sn_yes hv] at k1 k2
    have K1 := Lib.hid k1
    have K2 := Lib.hid k2
    have hm16 : m ≤ 15 := by omega
    have HV := Lib.hid (And.intro hvp hv)
    clear k1 k2 hv hvp hl
    obtain ⟨i0, hi0, hz0, hz1, hz2⟩ := info_parts int_info
    have hI := Lib.hid hi0
    have hZ0 := Lib.hid hz0
    have hZ1 := Lib.hid hz1
    have hZ2 := Lib.hid hz2
    have hsb : -2000001 ≤ F.sl l ∧ F.sl l ≤ 2000001 := by
      have u1 : -2000001 ≤ F.sl l := by rw [hsl, Int.le_ediv_iff_mul_le (by omega)]; omega
      have u2 : F.sl l < 2000002 := by rw [hsl, Int.ediv_lt_iff_lt_mul (by omega)]; omega
      omega
    clear hi0 hz0 hz1 hz2 hsl g0 g1
    have hlm := hL.1
    have hcl := hL
    go_wp2_with fail
    refine (K1.out _ hL).mono ?_
    rintro e w2 ⟨rfl, q2⟩
    have hL2 := hL.same q2
    go_wp2_with fail
    refine (K2.out _ hL2).mono ?_
    rintro e w3 ⟨rfl, q3⟩
    have hL3 := hL2.same q3
    have HB := Lib.hid (bel_same (bel_same bl q2) q3)
    have hb3 : w1.heap.size ≤ w3.heap.size := by obtain ⟨p, rfl⟩ := q2; obtain ⟨p, rfl⟩ := q3; exact Nat.le_refl _
    have O0 := Ow.new (Below.refl w3.heap.size w3)
    clear q2 q3 hL hL2 bl hcl K1 K2
    go_wp2_with fail
    go_loopw [8, 9] (fun o i wr => ∃ (k : Nat) (v : Value), o = v ∧ i = .int .i64 ((m : Int) - k) ∧ k ≤ m + 1 ∧ Ow w3 wr w3.heap.size v (F.bk l k)) (fun _ i _ => (intOf i + 1).toNat)
    case atStart => exact ⟨0, _, rfl, by go_num, Nat.zero_le _, O0⟩
    case round =>
      obtain ⟨k, v, rfl, rfl, hk, O⟩ := hrel
      clear O0
      by_cases hlt : k < m + 1
      · have hlen := F.bk_len l k
        obtain ⟨j, hj⟩ : ∃ j : Nat, m = j + k := ⟨m - k, by omega⟩
        obtain ⟨b, off, rfl, hb, hc⟩ := (hL3.below (O.bel.mono hb3)).at_ j (by omega)
        have ck := hc j (by omega)
        have hjk : (m : Int) - k = j := by omega
        rw [hjk]
        have HJ := Lib.hid (And.intro hj hlm)
        have hjm : j < m + 1 := by omega
        have hjn : ¬ m + 1 ≤ j := by omega
        clear hc hj hjk
        go_wp2_with (at_builtin; refine wpList_append_own _ rfl _ _ 23 rfl w3.heap.size 3 i0 (.int .i64 0) 1 8 Try.underlying23 hI.out hZ0.out hZ1.out hZ2.out rfl (by decide) _ _ _ rfl (O.own.alloc _) ⟨wr.heap.size, 0, none⟩ 1 1 [.int .i64 (L.g l j)] rfl rfl (cell_one_new _ _ _) (by intro u hu; simp at hu; subst hu; rfl) (by unfold maxLen; omega) (by omega) (by have := O.hi; simp; omega) ?_)
        intro v' w4 own4 hg4 _
        have O4 := (O.al (.cells #[.int .i64 (L.g l j)] 3)).grown own4 hg4
        rw [show j = l.length - 1 - k by have := HJ.out; omega, F.bk_snoc] at O4
        clear own4 hg4 O
        go_wp2
        go_roundw
        case rel => exact ⟨k + 1, v', rfl, by have := HJ.out; go_num, by omega, O4⟩
        case measure => have := HJ.out; simp [intOf] <;> omega
      · obtain rfl : k = m + 1 := by omega
        have hlen := F.bk_len l (m + 1)
        obtain ⟨a4, c4, rfl, hL4⟩ := O.lst (by omega)
        rw [hlen] at hL4 ⊢
        have hln := F.bk_sl HV.out.2 hlm hm1
        have k4 := SL_impl wr.heap.size (m + 1) c4 a4 _ wr hL4
        simp only [hln.1] at k4
        have HB2 := Lib.hid (HB.out.trans (O.bel.mono HB.out.size))
        clear O hL4
        have hz : ((m : Int) - ((m : Int) + 1)) = -1 := by omega
        go_wp2_with fail
        refine k4.mono ?_
        rintro e w5 ⟨rfl, q5⟩
        have HB3 := Lib.hid (bel_same HB2.out q5)
        have hs2 := hln.2
        clear q5 k4 hln
        generalize F.sn (F.bk l (m + 1)) = x at *
        generalize F.sl l = y at *
        have e1 : IntKind.i64.wrap (-y) = -y := IntWalk.i64_in _ (by omega)
        have e2 : IntKind.i64.wrap (-y - 1) = -y - 1 := IntWalk.i64_in _ (by omega)
        rcases hs2 with rfl | ⟨hs2, rfl⟩
        · go_wp2
          go_ret
          exact ⟨ret_bool (by first | rfl | simp), HB3.out⟩
        · have e3 : (-y - 1 == -y) = false := by rw [beq_eq_false_iff_ne]; omega
          clear hs2
          go_wp2
          go_ret
          exact ⟨ret_bool (by first | rfl | simp), HB3.out⟩

/-! ### THE ROW's STEP: WRITTEN OUT: LEAVE IT -/
set_option maxRecDepth 100000 in
theorem lifted (os : Os) (started : os.Started) (H : Type) (enc : TypeId × Value → H) :
    ReturnsInHanded {} Try.checked os 5 .any (Rows.fnSlopeOfBackSpec.pre6 enc Try.prog Try.f5 Rows.fnSlopeOfBackRow.domain false) (Rows.fnSlopeOfBackSpec.post enc Try.prog Try.f5 false true false false) := by
  refine returnsInHanded_of_change (C := Try.checked) own started (by kernel_rfl) Try.func5
    (ChangeSpec.witness6 (enc := enc) (C := Try.checked) false ⟨#[], #[.slice none 0 0], []⟩ 8 (by kernel_rfl) (by kernel_rfl) (by kernel_rfl) (by kernel_rfl)) ?_
  intro W base args ds gs before hval0 hW hcnd _
  have hval : ∀ (j : Nat) t v, Try.f5.params[j]? = some t → args[j]? = some v → Value.okWide Try.prog W .any base t v := hval0
  have hW' := hW
  obtain ⟨p, q, hA0, hV, rfl, hfz, hnd⟩ := hW
  have hA : DataW.TrodAll enc Try.prog W 0 (fun _ => true) true Try.f5.params.toList args.toList ds p := hA0
  rw [Try.params5] at hA hval
  obtain ⟨v0, vs0, d0, ds0, p0, q0, hargs, rfl, rfl, h0, r0⟩ := trodAll_cons hA
  obtain ⟨rfl, rfl, rfl⟩ := trodAll_nil r0
  obtain rfl : args = #[v0] := by cases args; simp_all
  obtain ⟨rfl, rfl⟩ := trodVars_none hV
  obtain ⟨a0, len0, cap0, rfl⟩ := okWide_slice Try.underlying22 (hval 0 22 v0 rfl rfl)
  have k0 := h0
  have lt0 : ∀ x ∈ p0, x.block < W.heap.size := by obtain ⟨m, hm⟩ := k0; exact DataW.trod_lt m _ _ _ hm
  obtain ⟨z0, w0⟩ : ∃ zs, IsRow .u8 W a0 len0 cap0 zs := by
    obtain ⟨fuel, hf⟩ := h0
    rcases open_ints Try.underlying22 Try.underlying5 (by kernel_rfl) hf with ⟨hcs, _⟩ | ⟨x, l, c, zs, hcs, _, hl, hm, hz, _, hcell, hwz⟩
    · simp [Value.cells] at hcs
      obtain ⟨rfl, rfl, rfl⟩ := hcs
      exact ⟨[], .inl ⟨rfl, rfl, rfl, rfl⟩⟩
    · simp [Value.cells] at hcs
      obtain ⟨rfl, rfl, rfl⟩ := hcs
      exact ⟨zs, .inr ⟨_, rfl, hl, hm, by simpa using hz, hcell, hwz⟩⟩
  clear hA0 hval0
  refine (walk a0 len0 cap0 z0 W w0).mono fun e W' ⟨he, bel⟩ => ?_
  subst he
  exact ⟨_, rfl, _, _, _, [], _, [], hW', trodAll_mk1 (shut_bool Try.underlying4 _), (trodAll_cons_mk (Below.trod laidOut (by kernel_rfl) (of_decide_eq_true (by kernel_rfl)) k0 bel lt0) trodAll_mk0), rfl, bel.frame _, fun h => by cases h⟩

theorem over : Rows.fnSlopeOfBackRow.holds Try.pinned (OpenSpec.ofChange Rows.fnSlopeOfBackSpec) :=
  OpenClaim.holds_of_wide 5 Try.f5 rfl rfl rfl rfl rfl rfl rfl ⟨rfl, rfl, rfl, rfl, rfl⟩ rfl rfl rfl rfl rfl (by kernel_rfl) Try.func5 (by kernel_rfl)
    (of_decide_eq_true (by kernel_rfl)) (by unfold Func.isWrapper; first | (rw [if_pos (by decide +kernel)]; kernel_rfl) | (rw [if_neg (by decide +kernel)]; exact ⟨rfl, rfl⟩))
    (fun os started H enc _ => lifted os started H enc)

/-- ████ THE STATEMENT ████ -/
theorem proved : Rows.FnSlopeOfBackSaid := over
#print axioms proved
end Go.Proofs.Ytlkcbdcdldndcaa.fnSlopeOfBack
