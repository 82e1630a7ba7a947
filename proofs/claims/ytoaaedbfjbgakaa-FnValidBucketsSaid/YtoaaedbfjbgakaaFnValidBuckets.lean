/-
  PROVED: FnValidBuckets: for every input the law returns true, and the input reads as it did. No condition.
  The frame is as the kit prints it (proof-skeleton.mjs); the walk is mine.
-/
import Derived.Test.YtoaaedbfjbgakaaRows
import Derived.Test.YtoaaedbfjbgakaaBuck
import Derived.Test.YtoaaedbfjbgakaaDrawBk
import Derived.Test.YtoaaedbfjbgakaaJoin
import Derived.WalkKit
import Derived.WalkSpells
import Derived.Deep.RegionHeld3
import Derived.ProofKit
import Derived.OpenShut
import Derived.ShutString
import Derived.ChangeOld
import Derived.Below
namespace Go.Proofs.Ytoaaedbfjbgakaa.fnValidBuckets
open Go.ChangeShapes Go.WideShapes Go.ChangeAt Go.RowKit
open Go.ChangeMaps (open_string shut_string)
set_option linter.unusedVariables false

theorem own : ownKnob Try.prog.godebug = none := by kernel_rfl
theorem laidOut : laidOutB Try.prog = true := by kernel_rfl

/-- WHAT THE WALK IS TOLD OF A SLICE OF INTEGERS THAT CAME IN: it is nil; or it leads to a row of 'cap' cells, the numbers 'zs' (the first 'len' are its elements, the rest its spare room), each fitting its kind. -/
def IsRow (k : IntKind) (w : World) (a : Option Addr) (len cap : Nat) (zs : List Int) : Prop :=
  (a = none ∧ len = 0 ∧ cap = 0 ∧ zs = []) ∨
  ∃ x, a = some x ∧ len ≤ cap ∧ cap ≤ maxLen ∧ zs.length = cap ∧ (∀ i, i < zs.length → w.cell? (x.add i) = some (.int k (zs.getD i 0))) ∧ ∀ n ∈ zs, (Lit.int k n).wf = true

/-! ### STEP 1: THE WALK: the Go text returns true, AND WRITES NOTHING THAT WAS THERE: 'Below w.heap.size w w'' (Derived/Below.lean: '.refl', '.alloc', '.drew', '.setCell' at a new block, '.trans'). Open each 'IsRow' by 'rcases' AHEAD of 'go_enter'; part every test ahead of the walk. -/
theorem rm_at (l : List Q.Sm) (k i : Nat) (hk : k < l.length) : (l.take k ++ l.drop (k + 1)).getD i (0, 0, 0) = l.getD (if i < k then i else i + 1) (0, 0, 0) := by
  have hl : (l.take k).length = k := by rw [List.length_take]; omega
  rw [List.getD_eq_getElem?_getD, List.getD_eq_getElem?_getD]
  by_cases h : i < k
  · rw [if_pos h, List.getElem?_append_left (by omega), List.getElem?_take_of_lt h]
  · rw [if_neg h, List.getElem?_append_right (by omega), hl, List.getElem?_drop, show k + 1 + (i - k) = i + 1 by omega]
theorem bv_rm {l : List Q.Sm} (h : B.bv l = true) {k : Nat} (hk : k < l.length) : B.bv (l.take k ++ l.drop (k + 1)) = true := by
  obtain ⟨h1, hok⟩ := B.bv_of h
  have hlen : (l.take k ++ l.drop (k + 1)).length = l.length - 1 := by rw [List.length_append, List.length_take, List.length_drop]; omega
  have at_ : ∀ i, Q.of (l.take k ++ l.drop (k + 1)) i = Q.of l (if i < k then i else i + 1) ∧ Q.de (l.take k ++ l.drop (k + 1)) i = Q.de l (if i < k then i else i + 1) ∧ Q.tm (l.take k ++ l.drop (k + 1)) i = Q.tm l (if i < k then i else i + 1) := fun i => by
    unfold Q.of Q.de Q.tm
    rw [rm_at l k i hk]; exact ⟨rfl, rfl, rfl⟩
  refine B.bv_yes (by omega) (fun i hi => ?_)
  rw [hlen] at hi
  refine ⟨?_, fun h0 => ?_⟩
  · rw [(at_ i).1, (at_ i).2.1, (at_ i).2.2]
    exact (hok _ (by split <;> omega)).1
  · rw [(at_ i).1, (at_ (i - 1)).1]
    exact B.okTo_lt hok _ _ (by split <;> split <;> omega) (by split <;> omega)
set_option maxRecDepth 100000 in
set_option maxHeartbeats 4000000 in
theorem walk (a0 : Option Addr) (len0 cap0 : Nat) (z0 : List Int) (w : World) (w0 : IsRow .u8 w a0 len0 cap0 z0) :
    Calls Try.prog 4 #[.slice a0 len0 cap0] w fun e w' => e = .returned (.bool true) ∧ Below w.heap.size w w' := by
  by_cases hl : 1048576 < len0
  · have hl' : (1048576 : Int) < (len0 : Int) := by omega
    clear w0 hl
    go_enter Try.func4, Try.ntmps4
    go_wp2
    go_ret
    exact ⟨rfl, Below.refl _ _⟩
  have hl' : ¬ (1048576 : Int) < (len0 : Int) := by omega
  obtain ⟨hc, hcap⟩ := code_of w0 (by omega)
  clear w0 hl
  go_enter Try.func4, Try.ntmps4
  go_wp2_with fail
  refine (DrawValidBuckets_any w a0 len0 cap0 hc hcap).mono ?_
  rintro e w1 ⟨a, c, l, rfl, hl9, hlc, hcm, hS, bl, hfr⟩
  clear hc hcap
  have st1 : Sq w w1 a l.length l := ⟨hS, bl⟩
  clear hS bl hfr
  unfold maxLen at hcm
  rcases hv : B.bv l with _ | _
  · go_wp2_with fail
    refine (vb_impl _ _ _ _ _ st1.here).mono ?_
    rintro e w2 ⟨rfl, b2⟩
    have st2 := st1.b b2
    clear st1 b2
    go_wp2_with fail
    refine (VB_spec _ _ _ _ _ _ st2.here).mono ?_
    rintro e w3 ⟨rfl, q3⟩
    have st3 := st2.same q3
    clear st2 q3
    go_wp2_with fail
    refine (VB_spec _ _ _ _ _ _ st3.here).mono ?_
    rintro e w4 ⟨rfl, q4⟩
    have st4 := st3.same q4
    clear st3 q4
    go_wp2
    go_ret
    exact ⟨ret_bool (by first | rfl | (simp; done) | simp_all), st4.bel⟩
  · by_cases h2 : l.length = 0
    · obtain rfl : l = [] := List.length_eq_zero_iff.mp h2
      clear h2 hl9 hlc hcm
      simp only [List.length_nil]
      go_wp2_with fail
      refine (vb_impl _ _ _ _ _ st1.here).mono ?_
      rintro e w2 ⟨rfl, b2⟩
      have st2 := st1.b b2
      clear st1 b2
      go_wp2_with fail
      refine (VB_spec _ _ _ _ _ _ st2.here).mono ?_
      rintro e w3 ⟨rfl, q3⟩
      have st3 := st2.same q3
      clear st2 q3
      go_wp2_with fail
      refine (VB_spec _ _ _ _ _ _ st3.here).mono ?_
      rintro e w4 ⟨rfl, q4⟩
      have st4 := st3.same q4
      clear st3 q4
      go_wp2
      go_ret
      exact ⟨ret_bool (by first | rfl | (simp; done) | simp_all), st4.bel⟩
    · have h2' : ((l.length : Int) == 0) = false := by rw [beq_eq_false_iff_ne]; omega
      obtain ⟨b, off, rfl, _, _⟩ := st1.here.at_ 0 (by omega)
      have hkl : len0 % l.length < l.length := Nat.mod_lt _ (by omega)
      have hv2 := bv_rm hv hkl
      have hrem : (len0 : Int).tmod (l.length : Int) = ((len0 % l.length : Nat) : Int) := rfl
      have hne : ¬ (l.length : Int) = 0 := by omega
      have hl8 := (B.bv_of hv).1
      generalize len0 % l.length = k at *
      have hi1 : (k : Int) ≤ (c : Int) := by omega
      have hi2 : (0 : Int) ≤ (k : Int) + 1 := by omega
      have hi3 : (k : Int) + 1 ≤ (l.length : Int) := by omega
      have hw : IntKind.i64.wrap ((k : Int) + 1) = (k : Int) + 1 := IntWalk.i64_in _ (by omega)
      have hn1 : ((k : Int) + 1).toNat = k + 1 := by omega
      have HV2 := Lib.hid hv2
      clear hv2
      go_wp2_with fail
      refine (vb_impl _ _ _ _ _ st1.here).mono ?_
      rintro e w2 ⟨rfl, b2⟩
      have st2 := st1.b b2
      clear st1 b2
      go_wp2_with fail
      refine (VB_spec _ _ _ _ _ _ st2.here).mono ?_
      rintro e w3 ⟨rfl, q3⟩
      have st3 := st2.same q3
      clear st2 q3
      go_wp2_with fail
      refine wp_region_held_drew (S := (fun _ => True)) (by kernel_rfl) (trivial) (fun hHeld => ?_)
      have st4 := st3.drew
      clear st3
      generalize w3.drew = V at *
      refine wpAnyH_take (i := 1) (v := ?_) rfl (by kernel_rfl) (by kernel_rfl) (by kernel_rfl) (fun _ _ _ h => h) (Or.inl ⟨by rfl, ?_⟩) (by assumption) ?_
      rotate_left
      · intro w hSw
        (try dsimp only at hSw)
        go_simp
        all_goals with_reducible rfl
      try simp only [Act.put, List.setIfInBounds_toArray, List.set_cons_zero, List.set_cons_succ, List.getElem_toArray, List.getElem_cons_zero, List.getElem_cons_succ]
      refine wpAnyH_take (i := 2) (v := ?_) rfl (by kernel_rfl) (by kernel_rfl) (by kernel_rfl) (fun _ _ _ h => h) (Or.inl ⟨by rfl, ?_⟩) (by assumption) ?_
      rotate_left
      · intro w hSw
        (try dsimp only at hSw)
        go_simp
        all_goals with_reducible rfl
      try simp only [Act.put, List.setIfInBounds_toArray, List.set_cons_zero, List.set_cons_succ, List.getElem_toArray, List.getElem_cons_zero, List.getElem_cons_succ]
      refine wpAnyH_take (i := 3) (v := ?_) rfl (by kernel_rfl) (by kernel_rfl) (by kernel_rfl) (fun _ _ _ h => h) (Or.inl ⟨by rfl, ?_⟩) (by assumption) ?_
      rotate_left
      · intro w hSw
        (try dsimp only at hSw)
        go_simp
        all_goals with_reducible rfl
      try simp only [Act.put, List.setIfInBounds_toArray, List.set_cons_zero, List.set_cons_succ, List.getElem_toArray, List.getElem_cons_zero, List.getElem_cons_succ]
      refine wpAnyH_take (i := 5) (v := ?_) rfl (by kernel_rfl) (by kernel_rfl) (by kernel_rfl) (fun _ _ _ h => h) (Or.inl ⟨by rfl, ?_⟩) (by assumption) ?_
      rotate_left
      · intro w hSw
        (try dsimp only at hSw)
        go_simp
        all_goals with_reducible rfl
      try simp only [Act.put, List.setIfInBounds_toArray, List.set_cons_zero, List.set_cons_succ, List.getElem_toArray, List.getElem_cons_zero, List.getElem_cons_succ]
      refine wpAnyH_take (i := 6) (v := ?_) rfl (by kernel_rfl) (by kernel_rfl) (by kernel_rfl) (fun _ _ _ h => h) (Or.inl ⟨by rfl, ?_⟩) (by assumption) ?_
      rotate_left
      · intro w hSw
        (try dsimp only at hSw)
        go_simp
        all_goals with_reducible rfl
      try simp only [Act.put, List.setIfInBounds_toArray, List.set_cons_zero, List.set_cons_succ, List.getElem_toArray, List.getElem_cons_zero, List.getElem_cons_succ]
      refine wpAnyH_take (i := 7) (v := ?_) rfl (by kernel_rfl) (by kernel_rfl) (by kernel_rfl) (fun _ _ _ h => h) (Or.inl ⟨by rfl, ?_⟩) (by assumption) ?_
      rotate_left
      · intro w hSw
        (try dsimp only at hSw)
        go_simp
        all_goals with_reducible rfl
      try simp only [Act.put, List.setIfInBounds_toArray, List.set_cons_zero, List.set_cons_succ, List.getElem_toArray, List.getElem_cons_zero, List.getElem_cons_succ]
      refine wpAnyH_take (i := 8) (v := ?_) rfl (by kernel_rfl) (by kernel_rfl) (by kernel_rfl) (fun _ _ _ h => h) (Or.inl ⟨by rfl, ?_⟩) (by assumption) ?_
      rotate_left
      · intro w hSw
        (try dsimp only at hSw)
        go_simp
        all_goals with_reducible rfl
      try simp only [Act.put, List.setIfInBounds_toArray, List.set_cons_zero, List.set_cons_succ, List.getElem_toArray, List.getElem_cons_zero, List.getElem_cons_succ]
      refine wpAnyH_ready (rs := [0]) (by kernel_rfl) (by simp) ?_
      refine AllReadyH.cons rfl (fun K hK => ?_) AllReadyH.nil
      go_simp
      skip
      refine hK.out _ _ (trivial) (fun hHeld => ?_)
      clear hK K
      try simp only [Act.put, List.setIfInBounds_toArray, List.set_cons_zero, List.set_cons_succ, List.getElem_toArray, List.getElem_cons_zero, List.getElem_cons_succ]
      have own5 := OwQ.made V
      have hG : V.heap.size ≤ (V.alloc (.cells #[] 37)).heap.size := by simp
      have hS5 := st4.here.below ((Below.refl _ _).alloc (Nat.le_refl _) (.cells #[] 37))
      have bl5 := st4.bel.alloc st4.bel.size (.cells #[] 37)
      have hwG := st4.bel.size
      clear st4
      generalize V.alloc (.cells #[] 37) = V5 at *
      generalize V.heap.size = G at *
      refine wpAnyH_ready (rs := [4]) (by kernel_rfl) (by simp) ?_
      refine AllReadyH.cons rfl (fun K hK => ?_) AllReadyH.nil
      refine step_q rfl _ _ (by rfl) G (by rfl) (by rfl) own5 (hS5.take k (by omega)) (by simp; omega) hG (qtk l k) (by rfl) ?_
      intro a6 c6 w6 own6 b6 _
      refine hK.out _ _ trivial (fun hHeld => ?_)
      clear hK K
      try simp only [Act.put, List.setIfInBounds_toArray, List.set_cons_zero, List.set_cons_succ, List.getElem_toArray, List.getElem_cons_zero, List.getElem_cons_succ]
      have hql : (qtk l k).length = k := qtk_len (by omega)
      have hS6 : Sms G w6 (if c = k + 1 then some ⟨b, off, none⟩ else some ⟨b, off + (k + 1) * 3, none⟩) (l.length - (k + 1)) (l.drop (k + 1)) := by
        split
        · rename_i hc
          obtain h0 : l.length - (k + 1) = 0 := by omega
          rw [h0]
          exact ⟨by rw [List.length_drop]; exact h0, by omega, .inl rfl⟩
        · exact (hS5.below b6).dropR (k + 1) (by omega)
      have bl6 := bl5.trans (b6.mono hwG)
      have hG6 := Nat.le_trans hG b6.size
      clear hS5 bl5 b6 own5
      obtain ⟨X, hX⟩ : ∃ X, qtk l k ++ l.drop (k + 1) = X := ⟨_, rfl⟩
      have hXl : X.length ≤ 1000 := by rw [← hX, List.length_append, hql, List.length_drop]; omega
      have hvX : B.bv X = true := by rw [← hX]; exact HV2.out
      refine wpAnyH_ready (rs := [9]) (by kernel_rfl) (by simp) ?_
      refine AllReadyH.cons rfl (fun K hK => ?_) AllReadyH.nil
      refine step_q rfl _ _ (by rfl) G (by rfl) (by rfl) own6 hS6 (by omega) hG6 X hX ?_
      intro a7 c7 w7 own7 b7 _
      refine hK.out _ _ trivial (fun hHeld => ?_)
      clear hK K
      try simp only [Act.put, List.setIfInBounds_toArray, List.set_cons_zero, List.set_cons_succ, List.getElem_toArray, List.getElem_cons_zero, List.getElem_cons_succ]
      have hS7 := (own7.sms hXl).1
      have bl7 := bl6.trans (b7.mono hwG)
      have k7 := vb_impl _ c7 _ _ _ hS7
      rw [hvX] at k7
      have K7 := Lib.hid k7
      clear k7 hS6 hS7 own6 own7 bl6 b7 hvX HV2 hX hql
      refine wpAnyH_ready (rs := [10]) (by kernel_rfl) (by simp) ?_
      refine AllReadyH.cons rfl (fun K hK => ?_) AllReadyH.nil
      go_simp
      (go_at_call 19; refine K7.out.mono ?_; rintro e w8 ⟨rfl, b8⟩)
      refine hK.out _ _ (trivial) (fun hHeld => ?_)
      clear hK K
      try simp only [Act.put, List.setIfInBounds_toArray, List.set_cons_zero, List.set_cons_succ, List.getElem_toArray, List.getElem_cons_zero, List.getElem_cons_succ]
      have bl8 := bl7.trans (b8.mono bl7.size)
      refine wpAnyH_take (i := 11) (v := ?_) rfl (by kernel_rfl) (by kernel_rfl) (by kernel_rfl) (fun _ _ _ h => h) (Or.inl ⟨by rfl, ?_⟩) (by assumption) ?_
      rotate_left
      · intro w hSw
        (try dsimp only at hSw)
        go_simp
        all_goals with_reducible rfl
      try simp only [Act.put, List.setIfInBounds_toArray, List.set_cons_zero, List.set_cons_succ, List.getElem_toArray, List.getElem_cons_zero, List.getElem_cons_succ]
      refine wpAnyH_done (by kernel_rfl) ?_ _
      clear hHeld
      go_wp2
      all_goals go_ret
      all_goals exact ⟨ret_bool (by first | rfl | (simp; done) | simp_all), bl8⟩

/-! ### THE ROW's STEP: WRITTEN OUT: LEAVE IT -/
set_option maxRecDepth 100000 in
theorem lifted (os : Os) (started : os.Started) (H : Type) (enc : TypeId × Value → H) :
    ReturnsInHanded {} Try.checked os 4 .any (Rows.fnValidBucketsSpec.pre6 enc Try.prog Try.f4 Rows.fnValidBucketsRow.domain false) (Rows.fnValidBucketsSpec.post enc Try.prog Try.f4 false true false false) := by
  refine returnsInHanded_of_change (C := Try.checked) own started (by kernel_rfl) Try.func4
    (ChangeSpec.witness6 (enc := enc) (C := Try.checked) false ⟨#[], #[.slice none 0 0], []⟩ 8 (by kernel_rfl) (by kernel_rfl) (by kernel_rfl) (by kernel_rfl)) ?_
  intro W base args ds gs before hval0 hW hcnd _
  have hval : ∀ (j : Nat) t v, Try.f4.params[j]? = some t → args[j]? = some v → Value.okWide Try.prog W .any base t v := hval0
  have hW' := hW
  obtain ⟨p, q, hA0, hV, rfl, hfz, hnd⟩ := hW
  have hA : DataW.TrodAll enc Try.prog W 0 (fun _ => true) true Try.f4.params.toList args.toList ds p := hA0
  rw [Try.params4] at hA hval
  obtain ⟨v0, vs0, d0, ds0, p0, q0, hargs, rfl, rfl, h0, r0⟩ := trodAll_cons hA
  obtain ⟨rfl, rfl, rfl⟩ := trodAll_nil r0
  obtain rfl : args = #[v0] := by cases args; simp_all
  obtain ⟨rfl, rfl⟩ := trodVars_none hV
  obtain ⟨a0, len0, cap0, rfl⟩ := okWide_slice Try.underlying29 (hval 0 29 v0 rfl rfl)
  have k0 := h0
  have lt0 : ∀ x ∈ p0, x.block < W.heap.size := by obtain ⟨m, hm⟩ := k0; exact DataW.trod_lt m _ _ _ hm
  obtain ⟨z0, w0⟩ : ∃ zs, IsRow .u8 W a0 len0 cap0 zs := by
    obtain ⟨fuel, hf⟩ := h0
    rcases open_ints Try.underlying29 Try.underlying5 (by kernel_rfl) hf with ⟨hcs, _⟩ | ⟨x, l, c, zs, hcs, _, hl, hm, hz, _, hcell, hwz⟩
    · simp [Value.cells] at hcs
      obtain ⟨rfl, rfl, rfl⟩ := hcs
      exact ⟨[], .inl ⟨rfl, rfl, rfl, rfl⟩⟩
    · simp [Value.cells] at hcs
      obtain ⟨rfl, rfl, rfl⟩ := hcs
      exact ⟨zs, .inr ⟨_, rfl, hl, hm, by simpa using hz, hcell, hwz⟩⟩
  clear hA0 hval0
  refine (walk a0 len0 cap0 z0 W w0).mono fun e W' ⟨he, bel⟩ => ?_
  subst he
  exact ⟨_, rfl, _, _, _, [], _, [], hW', trodAll_mk1 (shut_bool Try.underlying4 _), (trodAll_cons_mk (Below.trod laidOut (by kernel_rfl) (of_decide_eq_true (by kernel_rfl)) k0 bel lt0) trodAll_mk0), rfl, bel.frame _, fun h => by cases h⟩

theorem closed : joinedFacts Try.pinned.checked.prog 4 Try.f4 Rows.fnValidBucketsSpec Rows.fnValidBucketsRow = true := by
  unfold joinedFacts
  rw [mayJ, liftsJ, makeJ]
  kernel_rfl

theorem over : Rows.fnValidBucketsRow.holds Try.pinned (OpenSpec.ofChange Rows.fnValidBucketsSpec) :=
  OpenClaim.holds_of_wide 4 Try.f4 rfl rfl rfl rfl rfl rfl rfl ⟨rfl, rfl, rfl, rfl, rfl⟩ rfl rfl rfl rfl rfl (by kernel_rfl) Try.func4 closed
    (of_decide_eq_true (by kernel_rfl)) (by unfold Func.isWrapper; first | (rw [if_pos (by decide +kernel)]; kernel_rfl) | (rw [if_neg (by decide +kernel)]; exact ⟨rfl, rfl⟩))
    (fun os started H enc _ => lifted os started H enc)

/-- ████ THE STATEMENT ████ -/
theorem proved : Rows.FnValidBucketsSaid := over
#print axioms proved
end Go.Proofs.Ytoaaedbfjbgakaa.fnValidBuckets
