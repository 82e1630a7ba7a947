/-
  PROVED: FnSplitFramesJoin: for every input the law returns true, and the input reads as it did. No condition.
  The frame is as the kit prints it (proof-skeleton.mjs); the walk is mine.
-/
import Derived.Test.YtoomkafhmennoaaRows
import Derived.Test.YtoomkafhmennoaaDrawT
import Derived.Test.YtoomkafhmennoaaSMathC
import Derived.Test.YtoomkafhmennoaaEqS
import Derived.WalkKit
import Derived.ProofKit
import Derived.OpenShut
import Derived.ShutString
import Derived.ChangeOld
import Derived.Below
namespace Go.Proofs.Ytoomkafhmennoaa.fnSplitFramesJoin
open Go.ChangeShapes Go.WideShapes Go.ChangeAt Go.RowKit
open Go.ChangeMaps (open_string shut_string)
set_option linter.unusedVariables false

theorem own : ownKnob Try.prog.godebug = none := by kernel_rfl
theorem laidOut : laidOutB Try.prog = true := by kernel_rfl

/-- WHAT THE WALK IS TOLD OF A SLICE OF INTEGERS THAT CAME IN: it is nil; or it leads to a row of 'cap' cells, the numbers 'zs' (the first 'len' are its elements, the rest its spare room), each fitting its kind. -/
def IsRow (k : IntKind) (w : World) (a : Option Addr) (len cap : Nat) (zs : List Int) : Prop :=
  (a = none ∧ len = 0 ∧ cap = 0 ∧ zs = []) ∨
  ∃ x, a = some x ∧ len ≤ cap ∧ cap ≤ maxLen ∧ zs.length = cap ∧ (∀ i, i < zs.length → w.cell? (x.add i) = some (.int k (zs.getD i 0))) ∧ ∀ n ∈ zs, (Lit.int k n).wf = true

/-! ### STEP 1: THE WALK: the Go text returns true, AND WRITES NOTHING THAT WAS THERE: 'Below w.heap.size w w'' (Derived/Below.lean: '.refl', '.alloc', '.drew', '.setCell' at a new block, '.trans'). Open each 'IsRow' by 'rcases' AHEAD of 'go_enter'; part every test ahead of the walk. -/
theorem bel_b {a w w' : World} (h : Below a.heap.size a w) (hb : Below w.heap.size w w') : Below a.heap.size a w' := h.trans (hb.mono h.size)
set_option maxRecDepth 100000 in
set_option maxHeartbeats 4000000 in
theorem walk (a0 : Option Addr) (len0 cap0 : Nat) (z0 : List Int) (w : World) (w0 : IsRow .u8 w a0 len0 cap0 z0) :
    Calls Try.prog 9 #[.slice a0 len0 cap0] w fun e w' => e = .returned (.bool true) ∧ Below w.heap.size w w' := by
  by_cases hl : 1048576 < len0
  · have hl' : (1048576 : Int) < (len0 : Int) := by omega
    clear w0 hl
    go_enter Try.func9, Try.ntmps9
    go_wp2
    go_ret
    exact ⟨rfl, Below.refl _ _⟩
  have hl' : ¬ (1048576 : Int) < (len0 : Int) := by omega
  obtain ⟨hc, hcap⟩ := code_of w0 (by omega)
  clear w0 hl
  go_enter Try.func9, Try.ntmps9
  go_wp2_with fail
  refine (DrawSplitFrames_any w a0 len0 cap0 hc hcap).mono ?_
  rintro e w1 ⟨s, rfl, hs, bl⟩
  clear hc hcap
  have hm : s.size ≤ 1048576 := by omega
  go_wp2_with fail
  refine (split_impl s hm _).mono ?_
  rintro e w2 ⟨a, c, T, rfl, hS, hT, b2⟩
  have hT8 := hS.len
  have bl2 := bel_b bl b2
  have hR2 := hT.rd
  go_wp2_with fail
  refine (split_spec s hm _).mono ?_
  rintro e w3 ⟨a', c', T', rfl, hS', hT', b3⟩
  obtain rfl := hS.same hS'
  have hR3 := hR2.keep b3 (Nat.le_refl _)
  have bl3 := bel_b bl2 b3
  go_wp2_with fail
  refine (eqS_26 _ _ T.length _ _ _ _ T w3 hR3 hT'.rd (by omega)).mono ?_
  rintro e w4 ⟨rfl, q4⟩
  have hR4 := (hR3.more b3.size).keep (q4.below (B := w3.heap.size)) (Nat.le_refl _)
  have bl4 := bl3.trans (q4.below (B := w.heap.size))
  have z34 := q4.size
  clear hR2 hR3 hT hT' b2 b3 bl bl2 bl3 hS'
  by_cases h300 : s.size + 5 ≤ 300
  · have f1 : ¬ (300 : Int) < (s.size : Int) + 5 := by omega
    by_cases h8 : T.length < 8
    · have f2 : ¬ (8 : Int) ≤ (T.length : Int) := by omega
      have hrun : S.Run s 0 [] T := by
        rcases hS with ⟨_, h⟩ | ⟨h, _⟩
        · exact h
        · omega
      have hN := S.run_join hrun h8
      have hz5 := S.zed_size
      have hz : (S.frame S.zed ++ s).size = 5 + s.size := by rw [S.size_app, hz5]
      have n1 : (s.size : Int) ≤ 295 := by omega
      have n2 : ((S.frame S.zed).size : Int) ≤ 5 := by omega
      have HN := Lib.hid hN
      have HZ := Lib.hid hz
      have Hz5 := Lib.hid hz5
      clear hN hz hrun hz5
      go_wp2_with fail
      refine (frameB_impl S.zed (by decide) w4).mono ?_
      rintro e w5 ⟨rfl, b5⟩
      have hR5 := hR4.keep b5 (by rw [z34]; exact Nat.le_refl _)
      have bl5 := bel_b bl4 b5
      have z45 : w3.heap.size ≤ w5.heap.size := by rw [← z34]; exact b5.size
      clear hR4 bl4
      go_wp2_with fail
      refine (split_impl (S.frame S.zed ++ s) (by rw [HZ.out]; omega) w5).mono ?_
      rintro e w6 ⟨a6, c6, T6, rfl, hS6, hT6, b6⟩
      have hTT : S.zed :: T = T6 := by
        rcases hS6 with ⟨_, h⟩ | ⟨h, _⟩
        · exact HN.out.same h
        · rw [HZ.out] at h; omega
      subst hTT
      have hR6 := hR5.keep b6 z45
      have bl6 := bel_b bl5 b6
      obtain ⟨g, x, hg, hg0, hg1, hx, hcell⟩ := hT6.at_ 0 (by simp)
      obtain rfl : S.zed = x := by simpa using hx
      subst hg
      have hcap : (S.zed :: T).length ≤ c6 := by
        rcases hT6.2 with ⟨hv, hn⟩ | ⟨g', cap, cur, hv, _, _, hle, _⟩
        · simp at hn
        · injection hv with _ _ e3; rw [e3]; exact hle
      simp only [List.length_cons] at hcap
      have hcm : c6 ≤ maxLen := by
        rcases hT6.2 with ⟨hv, hn⟩ | ⟨g', cap, cur, hv, _, _, _, hle, _⟩
        · simp at hn
        · injection hv with _ _ e3; rw [e3]; exact hle
      have hRX : Rd w6.heap.size w6 (some ⟨g, 1, none⟩) T.length T := by
        refine ⟨rfl, ?_⟩
        rcases Nat.eq_zero_or_pos T.length with h0 | h0
        · exact .inl h0
        · refine .inr ⟨g, 1, rfl, hg1, fun i hi => ?_⟩
          obtain ⟨g', x', e', _, _, hx', hc'⟩ := hT6.at_ (i + 1) (by simp; omega)
          injection e' with e'; injection e' with e'
          subst e'
          rw [Nat.add_comm 1 i, hc', List.getD_eq_getElem?_getD]
          rw [List.getElem?_cons_succ] at hx'
          rw [hx']; rfl
      have hzz : (S.zed.toList == [90]) = true := by rw [Go.ByteArray.toList_eq]; rfl
      have hcp : (1 : Int) ≤ (c6 : Int) := by omega
      have hc1 : (T.length : Int) + 1 ≤ (c6 : Int) := by omega
      clear hT6 hS6 HZ HN hx hR5 bl5
      by_cases hcc : c6 = 1
      · have hT0 : T.length = 0 := by omega
        obtain rfl := List.eq_nil_of_length_eq_zero hT0
        have hRY : ∀ ad, Rd 0 w6 ad 0 [] := fun ad => ⟨rfl, .inl rfl⟩
        have HRY := Lib.hid hRY
        clear hRY hRX hT0 hR6 hcap hc1
        subst hcc
        go_wp2_with fail
        refine (eqS_26 0 0 0 _ _ _ _ [] w6 (HRY.out _) (HRY.out _) (by omega)).mono ?_
        rintro e w7 ⟨rfl, q7⟩
        have bl7 := bl6.trans (q7.below (B := w.heap.size))
        go_wp2
        go_ret
        exact ⟨ret_bool (by first | rfl | simp), bl7⟩
      · have hcn : ((c6 : Int) == 1) = false := by rw [beq_eq_false_iff_ne]; omega
        go_wp2_with fail
        refine (eqS_26 _ _ T.length _ _ _ _ T w6 hRX hR6 (by omega)).mono ?_
        rintro e w7 ⟨rfl, q7⟩
        have bl7 := bl6.trans (q7.below (B := w.heap.size))
        clear hRX hR6 bl6
        go_wp2
        go_ret
        exact ⟨ret_bool (by first | rfl | simp), bl7⟩
    · have f2 : (8 : Int) ≤ (T.length : Int) := by omega
      go_wp2_with fail
      refine (split_spec s hm _).mono ?_
      rintro e w5 ⟨a5, c5, T5, rfl, hS5, hT5, b5⟩
      obtain rfl := hS.same hS5
      have hR5 := hR4.keep b5 (by rw [z34]; exact Nat.le_refl _)
      have bl5 := bel_b bl4 b5
      go_wp2_with fail
      refine (eqS_26 _ _ T.length _ _ _ _ T w5 hR5 hT5.rd (by omega)).mono ?_
      rintro e w6 ⟨rfl, q6⟩
      have bl6 := bl5.trans (q6.below (B := w.heap.size))
      clear hR5 bl5 hT5
      go_wp2
      go_ret
      exact ⟨rfl, bl6⟩
  · have f1 : (300 : Int) < (s.size : Int) + 5 := by omega
    go_wp2_with fail
    refine (split_spec s hm _).mono ?_
    rintro e w5 ⟨a5, c5, T5, rfl, hS5, hT5, b5⟩
    obtain rfl := hS.same hS5
    have hR5 := hR4.keep b5 (by rw [z34]; exact Nat.le_refl _)
    have bl5 := bel_b bl4 b5
    go_wp2_with fail
    refine (eqS_26 _ _ T.length _ _ _ _ T w5 hR5 hT5.rd (by omega)).mono ?_
    rintro e w6 ⟨rfl, q6⟩
    have bl6 := bl5.trans (q6.below (B := w.heap.size))
    clear hR5 bl5 hT5
    go_wp2
    go_ret
    exact ⟨rfl, bl6⟩

/-! ### THE ROW's STEP: WRITTEN OUT: LEAVE IT -/
set_option maxRecDepth 100000 in
theorem lifted (os : Os) (started : os.Started) (H : Type) (enc : TypeId × Value → H) :
    ReturnsInHanded {} Try.checked os 9 .any (Rows.fnSplitFramesJoinSpec.pre6 enc Try.prog Try.f9 Rows.fnSplitFramesJoinRow.domain false) (Rows.fnSplitFramesJoinSpec.post enc Try.prog Try.f9 false true false false) := by
  refine returnsInHanded_of_change (C := Try.checked) own started (by kernel_rfl) Try.func9
    (ChangeSpec.witness6 (enc := enc) (C := Try.checked) false ⟨#[], #[.slice none 0 0], []⟩ 8 (by kernel_rfl) (by kernel_rfl) (by kernel_rfl) (by kernel_rfl)) ?_
  intro W base args ds gs before hval0 hW hcnd _
  have hval : ∀ (j : Nat) t v, Try.f9.params[j]? = some t → args[j]? = some v → Value.okWide Try.prog W .any base t v := hval0
  have hW' := hW
  obtain ⟨p, q, hA0, hV, rfl, hfz, hnd⟩ := hW
  have hA : DataW.TrodAll enc Try.prog W 0 (fun _ => true) true Try.f9.params.toList args.toList ds p := hA0
  rw [Try.params9] at hA hval
  obtain ⟨v0, vs0, d0, ds0, p0, q0, hargs, rfl, rfl, h0, r0⟩ := trodAll_cons hA
  obtain ⟨rfl, rfl, rfl⟩ := trodAll_nil r0
  obtain rfl : args = #[v0] := by cases args; simp_all
  obtain ⟨rfl, rfl⟩ := trodVars_none hV
  obtain ⟨a0, len0, cap0, rfl⟩ := okWide_slice Try.underlying22 (hval 0 22 v0 rfl rfl)
  have k0 := h0
  have lt0 : ∀ x ∈ p0, x.block < W.heap.size := by obtain ⟨m, hm⟩ := k0; exact DataW.trod_lt m _ _ _ hm
  obtain ⟨z0, w0⟩ : ∃ zs, IsRow .u8 W a0 len0 cap0 zs := by
    obtain ⟨fuel, hf⟩ := h0
    rcases open_ints Try.underlying22 Try.underlying5 (by kernel_rfl) hf with ⟨hcs, _⟩ | ⟨x, l, c, zs, hcs, _, hl, hm, hz, _, hcell, hwz⟩
    · simp [Value.cells] at hcs
      obtain ⟨rfl, rfl, rfl⟩ := hcs
      exact ⟨[], .inl ⟨rfl, rfl, rfl, rfl⟩⟩
    · simp [Value.cells] at hcs
      obtain ⟨rfl, rfl, rfl⟩ := hcs
      exact ⟨zs, .inr ⟨_, rfl, hl, hm, by simpa using hz, hcell, hwz⟩⟩
  clear hA0 hval0
  refine (walk a0 len0 cap0 z0 W w0).mono fun e W' ⟨he, bel⟩ => ?_
  subst he
  exact ⟨_, rfl, _, _, _, [], _, [], hW', trodAll_mk1 (shut_bool Try.underlying4 _), (trodAll_cons_mk (Below.trod laidOut (by kernel_rfl) (of_decide_eq_true (by kernel_rfl)) k0 bel lt0) trodAll_mk0), rfl, bel.frame _, fun h => by cases h⟩

theorem over : Rows.fnSplitFramesJoinRow.holds Try.pinned (OpenSpec.ofChange Rows.fnSplitFramesJoinSpec) :=
  OpenClaim.holds_of_wide 9 Try.f9 rfl rfl rfl rfl rfl rfl rfl ⟨rfl, rfl, rfl, rfl, rfl⟩ rfl rfl rfl rfl rfl (by kernel_rfl) Try.func9 (by kernel_rfl)
    (of_decide_eq_true (by kernel_rfl)) (by unfold Func.isWrapper; first | (rw [if_pos (by decide +kernel)]; kernel_rfl) | (rw [if_neg (by decide +kernel)]; exact ⟨rfl, rfl⟩))
    (fun os started H enc _ => lifted os started H enc)

/-- ████ THE STATEMENT ████ -/
theorem proved : Rows.FnSplitFramesJoinSaid := over
#print axioms proved
end Go.Proofs.Ytoomkafhmennoaa.fnSplitFramesJoin
