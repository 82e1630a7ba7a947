/-
  PROVED: FnTakeTokenMany: for every input the law returns true, and the input reads as it did. No condition.
  The frame is as the kit prints it (proof-skeleton.mjs); the walk is mine.
-/
import Derived.Test.YtoaaedbfjbgakaaRows
import Derived.Test.YtoaaedbfjbgakaaMapB
import Derived.Test.YtoaaedbfjbgakaaSpecB
import Derived.Test.YtoaaedbfjbgakaaTakeT
import Derived.Test.YtoaaedbfjbgakaaDrawBt
import Derived.Test.YtoaaedbfjbgakaaEqBk
import Derived.Test.YtoaaedbfjbgakaaBWait
import Derived.Test.YtoaaedbfjbgakaaJoin
import Derived.WalkKit
import Derived.ProofKit
import Derived.OpenShut
import Derived.ShutString
import Derived.ChangeOld
import Derived.Below
namespace Go.Proofs.Ytoaaedbfjbgakaa.fnTakeTokenMany
open Go.ChangeShapes Go.WideShapes Go.ChangeAt Go.RowKit
open Go.ChangeMaps (open_string shut_string)
set_option linter.unusedVariables false

theorem own : ownKnob Try.prog.godebug = none := by kernel_rfl
theorem laidOut : laidOutB Try.prog = true := by kernel_rfl

/-- WHAT THE WALK IS TOLD OF A SLICE OF INTEGERS THAT CAME IN: it is nil; or it leads to a row of 'cap' cells, the numbers 'zs' (the first 'len' are its elements, the rest its spare room), each fitting its kind. -/
def IsRow (k : IntKind) (w : World) (a : Option Addr) (len cap : Nat) (zs : List Int) : Prop :=
  (a = none ∧ len = 0 ∧ cap = 0 ∧ zs = []) ∨
  ∃ x, a = some x ∧ len ≤ cap ∧ cap ≤ maxLen ∧ zs.length = cap ∧ (∀ i, i < zs.length → w.cell? (x.add i) = some (.int k (zs.getD i 0))) ∧ ∀ n ∈ zs, (Lit.int k n).wf = true

/-! ### STEP 1: THE WALK: the Go text returns true, AND WRITES NOTHING THAT WAS THERE: 'Below w.heap.size w w'' (Derived/Below.lean: '.refl', '.alloc', '.drew', '.setCell' at a new block, '.trans'). Open each 'IsRow' by 'rcases' AHEAD of 'go_enter'; part every test ahead of the walk. -/
set_option maxRecDepth 100000 in
set_option maxHeartbeats 4000000 in
theorem walk (a0 : Option Addr) (len0 cap0 : Nat) (z0 : List Int) (w : World) (w0 : IsRow .u8 w a0 len0 cap0 z0) :
    Calls Try.prog 12 #[.slice a0 len0 cap0] w fun e w' => e = .returned (.bool true) ∧ Below w.heap.size w w' := by
  by_cases hl : 1048576 < len0
  · have hl' : (1048576 : Int) < (len0 : Int) := by omega
    clear w0 hl
    go_enter Try.func12, Try.ntmps12
    go_wp2
    go_ret
    exact ⟨rfl, Below.refl _ _⟩
  have hl' : ¬ (1048576 : Int) < (len0 : Int) := by omega
  obtain ⟨hc, hcap⟩ := code_of w0 (by omega)
  clear w0 hl
  go_enter Try.func12, Try.ntmps12
  go_wp2_with fail
  refine (DrawTakeToken_any w a0 len0 cap0 hc hcap).mono ?_
  rintro e w1 ⟨a, c, l, x, t, rfl, hx, ht, hl9, hlc, hcm, hS, bl⟩
  clear hc hcap
  have st1 : Sq w w1 a l.length l := ⟨hS, bl⟩
  clear hS bl hl9 hlc hcm
  have HX := Lib.hid hx
  have hwx : (Lit.int .i64 x).wf = true := wfC (by omega)
  have HWX := Lib.hid hwx
  have k1 := fun n c a w' (h : Sms w'.heap.size w' a n l) => TT_impl n c a l x t w' h hwx
  have k2 := fun n c a w' (h : Sms w'.heap.size w' a n l) => TT_spec n c a l x t w' h
  have hdl := (B.tt_len l x t).2
  obtain ⟨dd, hdd⟩ : ∃ dd, B.tt l x t = dd := ⟨_, rfl⟩
  rw [hdd] at hdl k1 k2
  obtain ⟨d, u, v⟩ := dd
  dsimp only at hdl
  have HDD := Lib.hid hdd
  have K1 := Lib.hid k1
  have K2 := Lib.hid k2
  clear k1 k2 hdd hx hwx
  go_wp2_with fail
  refine (K1.out _ _ _ _ st1.here).mono ?_
  rintro e w2 hz_
  obtain ⟨a2, c2, rfl, O2, b2⟩ := toldT3' hz_
  have P2 := (O2.sms (by omega)).1
  have st2 := st1.b b2
  clear hz_ O2 b2 st1
  go_wp2_with fail
  refine (K2.out _ _ _ _ st2.here).mono ?_
  rintro e w3 hz_
  obtain ⟨a3, c3, rfl, O3, b3⟩ := toldT3' hz_
  have Q3 := (O3.sms (by omega)).1
  have P3 := P2.keepB b3
  have st3 := st2.b b3
  clear hz_ O3 b3 st2 P2 hdl
  go_wp2_with fail
  refine (equalBuckets_any _ _ _ _ _ _ d _ P3 Q3).mono ?_
  rintro e w4 ⟨rfl, q4⟩
  have st4 := st3.same q4
  have P4 := P3.keepB q4.below
  have Q4 := Q3.keepB q4.below
  clear st3 q4 P3 Q3
  by_cases hn : t < 0
  · go_wp2_with fail
    refine (equalBuckets_any _ _ _ _ _ _ d _ P4 Q4).mono ?_
    rintro e w5 ⟨rfl, q5⟩
    have HB := Lib.hid (st4.same q5).bel
    clear st4 q5 P4 Q4
    go_wp2
    go_ret
    exact ⟨ret_bool (by first | rfl | simp), HB.out⟩
  by_cases hm : 3786479999 < t
  · go_wp2_with fail
    refine (equalBuckets_any _ _ _ _ _ _ d _ P4 Q4).mono ?_
    rintro e w5 ⟨rfl, q5⟩
    have HB := Lib.hid (st4.same q5).bel
    clear st4 q5 P4 Q4
    go_wp2
    go_ret
    exact ⟨ret_bool (by first | rfl | simp), HB.out⟩
  have htt : 0 ≤ t ∧ t ≤ 3786479999 := ⟨by omega, by omega⟩
  have HTT := Lib.hid htt
  have HS := Lib.hid (And.intro st4.bel st4.bel.size)
  clear st4 P4 Q4 htt
  go_wp2_with fail
  have B0 : Below w.heap.size w (w4.alloc (.cells #[] 37)) := HS.out.1.trans (((Below.refl w4.heap.size w4).alloc (Nat.le_refl _) _).mono HS.out.2)
  have S0 : Sms (w4.alloc (.cells #[] 37)).heap.size (w4.alloc (.cells #[] 37)) (some ⟨w4.heap.size, 0, none⟩) 0 (B.sq t 0) := ⟨rfl, by omega, .inl rfl⟩
  go_loopw [12, 13] (fun x i wr => ∃ (k : Nat) (a' : Option Addr) (c' : Nat) (X : List Q.Sm), k ≤ 6 ∧ B.sq t (min k 5) = X ∧ x = .slice a' X.length c' ∧ i = .int .i64 k ∧ Sms wr.heap.size wr a' X.length X ∧ Below w.heap.size w wr) (fun _ i _ => 6 - (intOf i).toNat)
  case atStart => exact ⟨0, _, _, _, by omega, rfl, rfl, rfl, S0, B0⟩
  case round =>
    obtain ⟨k, a', c', X, hk, hX, rfl, rfl, S, bl⟩ := hrel
    clear S0 B0
    have hs := bl.size
    have HB := Lib.hid (And.intro bl hs)
    clear bl hs
    have k3 := TT_impl X.length c' a' X 7 t wr S (wfC (by omega))
    by_cases h5 : k ≤ 4
    · have hk5 : (k : Int) < 5 := by omega
      have hk6 : (k : Int) ≤ 5 := by omega
      rw [show min k 5 = k by omega] at hX
      have hY : B.sq t (k + 1) = B.sq t (min (k + 1) 5) := by rw [show min (k + 1) 5 = k + 1 by omega]
      rw [← hX, B.many_ok HTT.out k h5, hY, hX] at k3
      have hln : (B.sq t (min (k + 1) 5)).length ≤ 8 := by rw [← hY]; unfold B.sq; simp
      obtain ⟨Y, hYY⟩ : ∃ Y, B.sq t (min (k + 1) 5) = Y := ⟨_, rfl⟩
      rw [hYY] at k3 hln
      have K3 := Lib.hid k3
      have HY := Lib.hid hYY
      clear k3 S hX hY hYY
      go_wp2_with fail
      refine K3.out.mono ?_
      rintro e w5 hz_
      obtain ⟨a5, c5, rfl, O5, b5⟩ := toldT3' hz_
      have S5 := (O5.sms (by omega)).1
      have B5 := Lib.hid (HB.out.1.trans (b5.mono HB.out.2))
      clear hz_ O5 b5 hln
      go_wp2
      go_roundw
      case rel => exact ⟨k + 1, a5, c5, Y, by omega, HY.out, rfl, by go_num, S5, B5.out⟩
      case measure => simp [intOf]; omega
    · by_cases h6 : k = 5
      · subst h6
        rw [show min 5 5 = 5 by omega] at hX
        rw [← hX, B.many_end HTT.out, hX] at k3
        have hln : X.length ≤ 8 := by rw [← hX]; unfold B.sq; simp
        have K3 := Lib.hid k3
        have HY := Lib.hid hX
        clear k3 S hX
        go_wp2_with fail
        refine K3.out.mono ?_
        rintro e w5 hz_
        obtain ⟨a5, c5, rfl, O5, b5⟩ := toldT3' hz_
        have S5 := (O5.sms (by omega)).1
        have B5 := Lib.hid (HB.out.1.trans (b5.mono HB.out.2))
        clear hz_ O5 b5 hln
        go_wp2
        go_roundw
        case rel => exact ⟨6, a5, c5, X, by omega, HY.out, rfl, by go_num, S5, B5.out⟩
        case measure => simp [intOf]
      · obtain rfl : k = 6 := by omega
        clear S k3 hX
        go_wp2
        go_ret
        exact ⟨ret_bool (by first | rfl | simp), HB.out.1⟩

/-! ### THE ROW's STEP: WRITTEN OUT: LEAVE IT -/
set_option maxRecDepth 100000 in
theorem lifted (os : Os) (started : os.Started) (H : Type) (enc : TypeId × Value → H) :
    ReturnsInHanded {} Try.checked os 12 .any (Rows.fnTakeTokenManySpec.pre6 enc Try.prog Try.f12 Rows.fnTakeTokenManyRow.domain false) (Rows.fnTakeTokenManySpec.post enc Try.prog Try.f12 false true false false) := by
  refine returnsInHanded_of_change (C := Try.checked) own started (by kernel_rfl) Try.func12
    (ChangeSpec.witness6 (enc := enc) (C := Try.checked) false ⟨#[], #[.slice none 0 0], []⟩ 8 (by kernel_rfl) (by kernel_rfl) (by kernel_rfl) (by kernel_rfl)) ?_
  intro W base args ds gs before hval0 hW hcnd _
  have hval : ∀ (j : Nat) t v, Try.f12.params[j]? = some t → args[j]? = some v → Value.okWide Try.prog W .any base t v := hval0
  have hW' := hW
  obtain ⟨p, q, hA0, hV, rfl, hfz, hnd⟩ := hW
  have hA : DataW.TrodAll enc Try.prog W 0 (fun _ => true) true Try.f12.params.toList args.toList ds p := hA0
  rw [Try.params12] at hA hval
  obtain ⟨v0, vs0, d0, ds0, p0, q0, hargs, rfl, rfl, h0, r0⟩ := trodAll_cons hA
  obtain ⟨rfl, rfl, rfl⟩ := trodAll_nil r0
  obtain rfl : args = #[v0] := by cases args; simp_all
  obtain ⟨rfl, rfl⟩ := trodVars_none hV
  obtain ⟨a0, len0, cap0, rfl⟩ := okWide_slice Try.underlying29 (hval 0 29 v0 rfl rfl)
  have k0 := h0
  have lt0 : ∀ x ∈ p0, x.block < W.heap.size := by obtain ⟨m, hm⟩ := k0; exact DataW.trod_lt m _ _ _ hm
  obtain ⟨z0, w0⟩ : ∃ zs, IsRow .u8 W a0 len0 cap0 zs := by
    obtain ⟨fuel, hf⟩ := h0
    rcases open_ints Try.underlying29 Try.underlying5 (by kernel_rfl) hf with ⟨hcs, _⟩ | ⟨x, l, c, zs, hcs, _, hl, hm, hz, _, hcell, hwz⟩
    · simp [Value.cells] at hcs
      obtain ⟨rfl, rfl, rfl⟩ := hcs
      exact ⟨[], .inl ⟨rfl, rfl, rfl, rfl⟩⟩
    · simp [Value.cells] at hcs
      obtain ⟨rfl, rfl, rfl⟩ := hcs
      exact ⟨zs, .inr ⟨_, rfl, hl, hm, by simpa using hz, hcell, hwz⟩⟩
  clear hA0 hval0
  refine (walk a0 len0 cap0 z0 W w0).mono fun e W' ⟨he, bel⟩ => ?_
  subst he
  exact ⟨_, rfl, _, _, _, [], _, [], hW', trodAll_mk1 (shut_bool Try.underlying4 _), (trodAll_cons_mk (Below.trod laidOut (by kernel_rfl) (of_decide_eq_true (by kernel_rfl)) k0 bel lt0) trodAll_mk0), rfl, bel.frame _, fun h => by cases h⟩

theorem closed : joinedFacts Try.pinned.checked.prog 12 Try.f12 Rows.fnTakeTokenManySpec Rows.fnTakeTokenManyRow = true := by
  unfold joinedFacts
  rw [mayJ, liftsJ, makeJ]
  kernel_rfl

theorem over : Rows.fnTakeTokenManyRow.holds Try.pinned (OpenSpec.ofChange Rows.fnTakeTokenManySpec) :=
  OpenClaim.holds_of_wide 12 Try.f12 rfl rfl rfl rfl rfl rfl rfl ⟨rfl, rfl, rfl, rfl, rfl⟩ rfl rfl rfl rfl rfl (by kernel_rfl) Try.func12 closed
    (of_decide_eq_true (by kernel_rfl)) (by unfold Func.isWrapper; first | (rw [if_pos (by decide +kernel)]; kernel_rfl) | (rw [if_neg (by decide +kernel)]; exact ⟨rfl, rfl⟩))
    (fun os started H enc _ => lifted os started H enc)

/-- ████ THE STATEMENT ████ -/
theorem proved : Rows.FnTakeTokenManySaid := over
#print axioms proved
end Go.Proofs.Ytoaaedbfjbgakaa.fnTakeTokenMany
