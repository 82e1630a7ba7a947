/-
  PROVED: FnTakeToken: for every input the law returns true, and the input reads as it did. No condition.
  The frame is as the kit prints it (proof-skeleton.mjs); the walk is mine.
-/
import Derived.Test.YtoaaedbfjbgakaaRows
import Derived.Test.YtoaaedbfjbgakaaMapB
import Derived.Test.YtoaaedbfjbgakaaSpecB
import Derived.Test.YtoaaedbfjbgakaaTakeT
import Derived.Test.YtoaaedbfjbgakaaDrawBt
import Derived.Test.YtoaaedbfjbgakaaEqBk
import Derived.Test.YtoaaedbfjbgakaaBWait
import Derived.Test.YtoaaedbfjbgakaaJoin
import Derived.WalkKit
import Derived.ProofKit
import Derived.OpenShut
import Derived.ShutString
import Derived.ChangeOld
import Derived.Below
namespace Go.Proofs.Ytoaaedbfjbgakaa.fnTakeToken
open Go.ChangeShapes Go.WideShapes Go.ChangeAt Go.RowKit
open Go.ChangeMaps (open_string shut_string)
set_option linter.unusedVariables false

theorem own : ownKnob Try.prog.godebug = none := by kernel_rfl
theorem laidOut : laidOutB Try.prog = true := by kernel_rfl

/-- WHAT THE WALK IS TOLD OF A SLICE OF INTEGERS THAT CAME IN: it is nil; or it leads to a row of 'cap' cells, the numbers 'zs' (the first 'len' are its elements, the rest its spare room), each fitting its kind. -/
def IsRow (k : IntKind) (w : World) (a : Option Addr) (len cap : Nat) (zs : List Int) : Prop :=
  (a = none ∧ len = 0 ∧ cap = 0 ∧ zs = []) ∨
  ∃ x, a = some x ∧ len ≤ cap ∧ cap ≤ maxLen ∧ zs.length = cap ∧ (∀ i, i < zs.length → w.cell? (x.add i) = some (.int k (zs.getD i 0))) ∧ ∀ n ∈ zs, (Lit.int k n).wf = true

/-! ### STEP 1: THE WALK: the Go text returns true, AND WRITES NOTHING THAT WAS THERE: 'Below w.heap.size w w'' (Derived/Below.lean: '.refl', '.alloc', '.drew', '.setCell' at a new block, '.trans'). Open each 'IsRow' by 'rcases' AHEAD of 'go_enter'; part every test ahead of the walk. -/
set_option maxRecDepth 100000 in
set_option maxHeartbeats 4000000 in
theorem walk (a0 : Option Addr) (len0 cap0 : Nat) (z0 : List Int) (w : World) (w0 : IsRow .u8 w a0 len0 cap0 z0) :
    Calls Try.prog 10 #[.slice a0 len0 cap0] w fun e w' => e = .returned (.bool true) ∧ Below w.heap.size w w' := by
  by_cases hl : 1048576 < len0
  · have hl' : (1048576 : Int) < (len0 : Int) := by omega
    clear w0 hl
    go_enter Try.func10, Try.ntmps10
    go_wp2
    go_ret
    exact ⟨rfl, Below.refl _ _⟩
  have hl' : ¬ (1048576 : Int) < (len0 : Int) := by omega
  obtain ⟨hc, hcap⟩ := code_of w0 (by omega)
  clear w0 hl
  go_enter Try.func10, Try.ntmps10
  go_wp2_with fail
  refine (DrawTakeToken_any w a0 len0 cap0 hc hcap).mono ?_
  rintro e w1 ⟨a, c, l, x, t, rfl, hx, ht, hl9, hlc, hcm, hS, bl⟩
  clear hc hcap
  have st1 : Sq w w1 a l.length l := ⟨hS, bl⟩
  clear hS bl hl9 hlc hcm
  have HX := Lib.hid hx
  have hwx : (Lit.int .i64 x).wf = true := wfC (by omega)
  have HWX := Lib.hid hwx
  have k1 := fun n c a w' (h : Sms w'.heap.size w' a n l) => TT_impl n c a l x t w' h hwx
  have k2 := fun n c a w' (h : Sms w'.heap.size w' a n l) => TT_spec n c a l x t w' h
  have hdl := (B.tt_len l x t).2
  obtain ⟨dd, hdd⟩ : ∃ dd, B.tt l x t = dd := ⟨_, rfl⟩
  rw [hdd] at hdl k1 k2
  obtain ⟨d, u, v⟩ := dd
  dsimp only at hdl
  have HDD := Lib.hid hdd
  have K1 := Lib.hid k1
  have K2 := Lib.hid k2
  clear k1 k2 hdd hx hwx
  go_wp2_with fail
  refine (K1.out _ _ _ _ st1.here).mono ?_
  rintro e w2 hz_
  obtain ⟨a2, c2, rfl, O2, b2⟩ := toldT3' hz_
  have P2 := (O2.sms (by omega)).1
  have st2 := st1.b b2
  clear hz_ O2 b2 st1
  go_wp2_with fail
  refine (K2.out _ _ _ _ st2.here).mono ?_
  rintro e w3 hz_
  obtain ⟨a3, c3, rfl, O3, b3⟩ := toldT3' hz_
  have Q3 := (O3.sms (by omega)).1
  have P3 := P2.keepB b3
  have st3 := st2.b b3
  clear hz_ O3 b3 st2 P2 hdl
  go_wp2_with fail
  refine (equalBuckets_any _ _ _ _ _ _ d _ P3 Q3).mono ?_
  rintro e w4 ⟨rfl, q4⟩
  have st4 := st3.same q4
  have P4 := P3.keepB q4.below
  have Q4 := Q3.keepB q4.below
  clear st3 q4 P3 Q3
  rcases v with _ | _
  · go_wp2_with fail
    refine (equalBuckets_any _ _ _ _ _ _ d _ P4 Q4).mono ?_
    rintro e w5 ⟨rfl, q5⟩
    have HB := Lib.hid (st4.same q5).bel
    clear st4 q5 P4 Q4
    go_wp2
    go_ret
    exact ⟨ret_bool (by first | rfl | simp), HB.out⟩
  · obtain ⟨hv, hu, hta, h0, h5⟩ := B.left_ok HDD.out
    have k3 := TA_impl l.length c a l x t w4 st4.here HWX.out
    have HV := Lib.hid hv
    have k4 := fun w' (h : Sms w'.heap.size w' a2 d.length d) => TA_impl d.length c2 a2 d x t w' h HWX.out
    rw [hta] at k4
    generalize B.ta l x t = T at *
    clear hta
    by_cases hT : 0 < T
    · obtain rfl : u = true := by rw [hu]; exact decide_eq_true hT
      clear hu h0
      rw [if_pos rfl] at k4
      have K3 := Lib.hid k3
      have K4 := Lib.hid k4
      clear k3 k4 hv Q4
      go_wp2_with fail
      refine K3.out.mono ?_
      rintro e w5 ⟨rfl, b5⟩
      have st5 := st4.b b5
      have P5 := P4.keepB b5
      clear st4 P4 b5
      go_wp2_with fail
      refine (K4.out _ P5).mono ?_
      rintro e w6 ⟨rfl, b6⟩
      have st6 := st5.b b6
      have P6 := P5.keepB b6
      clear st5 P5 b6
      go_wp2_with fail
      refine (vb_impl _ _ _ _ _ P6).mono ?_
      rw [HV.out]
      rintro e w7 ⟨rfl, b7⟩
      have HB := Lib.hid (st6.b b7).bel
      clear st6 P6 b7
      go_wp2
      go_ret
      exact ⟨ret_bool (by first | rfl | simp), HB.out⟩
    · obtain rfl : T = 0 := by omega
      obtain rfl : u = false := by rw [hu]; rfl
      clear hu h0 h5 hT
      rw [if_neg (by decide)] at k4
      have K3 := Lib.hid k3
      have K4 := Lib.hid k4
      clear k3 k4 hv Q4
      go_wp2_with fail
      refine K3.out.mono ?_
      rintro e w5 ⟨rfl, b5⟩
      have st5 := st4.b b5
      have P5 := P4.keepB b5
      clear st4 P4 b5
      go_wp2_with fail
      refine (K4.out _ P5).mono ?_
      rintro e w6 ⟨rfl, b6⟩
      have st6 := st5.b b6
      have P6 := P5.keepB b6
      clear st5 P5 b6
      go_wp2_with fail
      refine (vb_impl _ _ _ _ _ P6).mono ?_
      rw [HV.out]
      rintro e w7 ⟨rfl, b7⟩
      have HB := Lib.hid (st6.b b7).bel
      clear st6 P6 b7
      go_wp2
      go_ret
      exact ⟨ret_bool (by first | rfl | simp), HB.out⟩

/-! ### THE ROW's STEP: WRITTEN OUT: LEAVE IT -/
set_option maxRecDepth 100000 in
theorem lifted (os : Os) (started : os.Started) (H : Type) (enc : TypeId × Value → H) :
    ReturnsInHanded {} Try.checked os 10 .any (Rows.fnTakeTokenSpec.pre6 enc Try.prog Try.f10 Rows.fnTakeTokenRow.domain false) (Rows.fnTakeTokenSpec.post enc Try.prog Try.f10 false true false false) := by
  refine returnsInHanded_of_change (C := Try.checked) own started (by kernel_rfl) Try.func10
    (ChangeSpec.witness6 (enc := enc) (C := Try.checked) false ⟨#[], #[.slice none 0 0], []⟩ 8 (by kernel_rfl) (by kernel_rfl) (by kernel_rfl) (by kernel_rfl)) ?_
  intro W base args ds gs before hval0 hW hcnd _
  have hval : ∀ (j : Nat) t v, Try.f10.params[j]? = some t → args[j]? = some v → Value.okWide Try.prog W .any base t v := hval0
  have hW' := hW
  obtain ⟨p, q, hA0, hV, rfl, hfz, hnd⟩ := hW
  have hA : DataW.TrodAll enc Try.prog W 0 (fun _ => true) true Try.f10.params.toList args.toList ds p := hA0
  rw [Try.params10] at hA hval
  obtain ⟨v0, vs0, d0, ds0, p0, q0, hargs, rfl, rfl, h0, r0⟩ := trodAll_cons hA
  obtain ⟨rfl, rfl, rfl⟩ := trodAll_nil r0
  obtain rfl : args = #[v0] := by cases args; simp_all
  obtain ⟨rfl, rfl⟩ := trodVars_none hV
  obtain ⟨a0, len0, cap0, rfl⟩ := okWide_slice Try.underlying29 (hval 0 29 v0 rfl rfl)
  have k0 := h0
  have lt0 : ∀ x ∈ p0, x.block < W.heap.size := by obtain ⟨m, hm⟩ := k0; exact DataW.trod_lt m _ _ _ hm
  obtain ⟨z0, w0⟩ : ∃ zs, IsRow .u8 W a0 len0 cap0 zs := by
    obtain ⟨fuel, hf⟩ := h0
    rcases open_ints Try.underlying29 Try.underlying5 (by kernel_rfl) hf with ⟨hcs, _⟩ | ⟨x, l, c, zs, hcs, _, hl, hm, hz, _, hcell, hwz⟩
    · simp [Value.cells] at hcs
      obtain ⟨rfl, rfl, rfl⟩ := hcs
      exact ⟨[], .inl ⟨rfl, rfl, rfl, rfl⟩⟩
    · simp [Value.cells] at hcs
      obtain ⟨rfl, rfl, rfl⟩ := hcs
      exact ⟨zs, .inr ⟨_, rfl, hl, hm, by simpa using hz, hcell, hwz⟩⟩
  clear hA0 hval0
  refine (walk a0 len0 cap0 z0 W w0).mono fun e W' ⟨he, bel⟩ => ?_
  subst he
  exact ⟨_, rfl, _, _, _, [], _, [], hW', trodAll_mk1 (shut_bool Try.underlying4 _), (trodAll_cons_mk (Below.trod laidOut (by kernel_rfl) (of_decide_eq_true (by kernel_rfl)) k0 bel lt0) trodAll_mk0), rfl, bel.frame _, fun h => by cases h⟩

theorem closed : joinedFacts Try.pinned.checked.prog 10 Try.f10 Rows.fnTakeTokenSpec Rows.fnTakeTokenRow = true := by
  unfold joinedFacts
  rw [mayJ, liftsJ, makeJ]
  kernel_rfl

theorem over : Rows.fnTakeTokenRow.holds Try.pinned (OpenSpec.ofChange Rows.fnTakeTokenSpec) :=
  OpenClaim.holds_of_wide 10 Try.f10 rfl rfl rfl rfl rfl rfl rfl ⟨rfl, rfl, rfl, rfl, rfl⟩ rfl rfl rfl rfl rfl (by kernel_rfl) Try.func10 closed
    (of_decide_eq_true (by kernel_rfl)) (by unfold Func.isWrapper; first | (rw [if_pos (by decide +kernel)]; kernel_rfl) | (rw [if_neg (by decide +kernel)]; exact ⟨rfl, rfl⟩))
    (fun os started H enc _ => lifted os started H enc)

/-- ████ THE STATEMENT ████ -/
theorem proved : Rows.FnTakeTokenSaid := over
#print axioms proved
end Go.Proofs.Ytoaaedbfjbgakaa.fnTakeToken
