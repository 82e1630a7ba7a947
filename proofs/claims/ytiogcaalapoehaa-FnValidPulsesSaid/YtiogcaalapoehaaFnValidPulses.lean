/-
  PROVED: FnValidPulses: for every input the law returns true, and the input reads as it did. No condition.
  The frame is as the kit prints it (proof-skeleton.mjs); the walk is mine.
-/
import Derived.Test.YtiogcaalapoehaaRows
import Derived.Test.YtiogcaalapoehaaClean
import Derived.Test.YtiogcaalapoehaaDrawU
import Derived.Test.YtiogcaalapoehaaJoin
import Derived.WalkKit
import Derived.WalkSpells
import Derived.Deep.RegionHeld3
import Derived.ProofKit
import Derived.OpenShut
import Derived.ShutString
import Derived.ChangeOld
import Derived.Below
namespace Go.Proofs.Ytiogcaalapoehaa.fnValidPulses
open Go.ChangeShapes Go.WideShapes Go.ChangeAt Go.RowKit
open Go.ChangeMaps (open_string shut_string)
set_option linter.unusedVariables false

theorem own : ownKnob Try.prog.godebug = none := by kernel_rfl
theorem laidOut : laidOutB Try.prog = true := by kernel_rfl

/-- WHAT THE WALK IS TOLD OF A SLICE OF INTEGERS THAT CAME IN: it is nil; or it leads to a row of 'cap' cells, the numbers 'zs' (the first 'len' are its elements, the rest its spare room), each fitting its kind. -/
def IsRow (k : IntKind) (w : World) (a : Option Addr) (len cap : Nat) (zs : List Int) : Prop :=
  (a = none ∧ len = 0 ∧ cap = 0 ∧ zs = []) ∨
  ∃ x, a = some x ∧ len ≤ cap ∧ cap ≤ maxLen ∧ zs.length = cap ∧ (∀ i, i < zs.length → w.cell? (x.add i) = some (.int k (zs.getD i 0))) ∧ ∀ n ∈ zs, (Lit.int k n).wf = true

/-! ### STEP 1: THE WALK: the Go text returns true, AND WRITES NOTHING THAT WAS THERE: 'Below w.heap.size w w'' (Derived/Below.lean: '.refl', '.alloc', '.drew', '.setCell' at a new block, '.trans'). Open each 'IsRow' by 'rcases' AHEAD of 'go_enter'; part every test ahead of the walk. -/
theorem lst_dropR {B b off : Nat} {w : World} {n : Nat} {l : List Int} (h : Lst B w (some ⟨b, off, none⟩) n l) (k : Nat) (hk : k ≤ n) : Lst B w (some ⟨b, off + k, none⟩) (n - k) (l.drop k) := by
  refine ⟨by rw [List.length_drop, h.1], by have := h.2.1; omega, ?_⟩
  rcases Nat.eq_zero_or_pos (n - k) with h0 | h0
  · exact .inl h0
  · obtain ⟨b', off', e, hb, hc⟩ := h.at_ 0 (by omega)
    injection e with e; injection e with e1 e2
    subst e1; subst e2
    refine .inr ⟨b, off + k, rfl, hb, fun i hi => ?_⟩
    have d : L.g (l.drop k) i = L.g l (k + i) := by
      unfold L.g
      rw [List.getD_eq_getElem?_getD, List.getD_eq_getElem?_getD, List.getElem?_drop]
    rw [d, show off + k + i = off + (k + i) by omega]
    exact hc (k + i) (by omega)
set_option maxRecDepth 100000 in
set_option maxHeartbeats 4000000 in
theorem walk (a0 : Option Addr) (len0 cap0 : Nat) (z0 : List Int) (w : World) (w0 : IsRow .u8 w a0 len0 cap0 z0) :
    Calls Try.prog 3 #[.slice a0 len0 cap0] w fun e w' => e = .returned (.bool true) ∧ Below w.heap.size w w' := by
  by_cases hl : 1048576 < len0
  · have hl' : (1048576 : Int) < (len0 : Int) := by omega
    clear w0 hl
    go_enter Try.func3, Try.ntmps3
    go_wp2
    go_ret
    exact ⟨rfl, Below.refl _ _⟩
  have hl' : ¬ (1048576 : Int) < (len0 : Int) := by omega
  obtain ⟨hc, hcap⟩ := code_of w0 (by omega)
  clear w0 hl
  go_enter Try.func3, Try.ntmps3
  go_wp2_with fail
  refine (DrawValidPulses_any w a0 len0 cap0 hc hcap).mono ?_
  rintro e w1 ⟨a, n, c, l, rfl, hL, hn18, hnc, hcm, bl⟩
  clear hc hcap
  unfold maxLen at hcm
  rcases hv : U.vp l with _ | _
  · go_wp2_with fail
    refine (vp_impl _ _ _ _ _ _ hL).mono ?_
    rintro e w2 ⟨rfl, rfl⟩
    go_wp2_with fail
    refine (VP_spec _ _ _ _ _ _ hL).mono ?_
    rintro e w3 ⟨rfl, q3⟩
    have hL3 := hL.same q3
    have bl3 := bel_same bl q3
    clear hL bl q3
    go_wp2_with fail
    refine (VP_spec _ _ _ _ _ _ hL3).mono ?_
    rintro e w4 ⟨rfl, q4⟩
    have bl4 := bel_same bl3 q4
    clear hL3 bl3 q4
    go_wp2
    go_ret
    exact ⟨ret_bool (by first | rfl | (simp; done) | simp_all), bl4⟩
  · rcases Nat.eq_zero_or_pos n with h0 | h0
    · subst h0
      go_wp2_with fail
      refine (vp_impl _ _ _ _ _ _ hL).mono ?_
      rintro e w2 ⟨rfl, rfl⟩
      go_wp2_with fail
      refine (VP_spec _ _ _ _ _ _ hL).mono ?_
      rintro e w3 ⟨rfl, q3⟩
      have hL3 := hL.same q3
      have bl3 := bel_same bl q3
      clear hL bl q3
      go_wp2_with fail
      refine (VP_spec _ _ _ _ _ _ hL3).mono ?_
      rintro e w4 ⟨rfl, q4⟩
      have bl4 := bel_same bl3 q4
      clear hL3 bl3 q4
      go_wp2
      go_ret
      exact ⟨ret_bool (by first | rfl | (simp; done) | simp_all), bl4⟩
    · have f0 : ((n : Int) == 0) = false := by rw [beq_eq_false_iff_ne]; omega
      obtain ⟨b, off, rfl, _, _⟩ := hL.at_ 0 (by omega)
      have hkl : len0 % n < n := Nat.mod_lt _ (by omega)
      have hnl := hL.1
      have hv2 := U.vp_cut hv (k := len0 % n) (by omega)
      have hrem : (len0 : Int).tmod (n : Int) = ((len0 % n : Nat) : Int) := rfl
      have hne : ¬ (n : Int) = 0 := by omega
      have hl8 := (U.vp_of hv).1
      generalize len0 % n = k at *
      have hi1 : (k : Int) ≤ (c : Int) := by omega
      have hi2 : (0 : Int) ≤ (k : Int) + 1 := by omega
      have hi3 : (k : Int) + 1 ≤ (n : Int) := by omega
      have hw : IntKind.i64.wrap ((k : Int) + 1) = (k : Int) + 1 := IntWalk.i64_in _ (by omega)
      have hn1 : ((k : Int) + 1).toNat = k + 1 := by omega
      have HV2 := Lib.hid hv2
      clear hv2
      go_wp2_with fail
      refine (vp_impl _ _ _ _ _ _ hL).mono ?_
      rintro e w2 ⟨rfl, rfl⟩
      go_wp2_with fail
      refine (VP_spec _ _ _ _ _ _ hL).mono ?_
      rintro e w3 ⟨rfl, q3⟩
      have hL3 := hL.same q3
      have bl3 := bel_same bl q3
      have hsz3 := (q3.below (B := 0)).size
      clear hL bl q3
      go_wp2_with fail
      refine wp_region_held_drew (S := (fun _ => True)) (by kernel_rfl) (trivial) (fun hHeld => ?_)
      have hL4 : Lst w1.heap.size w3.drew (some ⟨b, off, none⟩) n l := hL3
      have bl4 : Below w.heap.size w w3.drew := bl3.drew
      have hwv : w1.heap.size ≤ w3.drew.heap.size := hsz3
      clear hL3 bl3 hsz3
      generalize w3.drew = V at *
      refine wpAnyH_take (i := 1) (v := ?_) rfl (by kernel_rfl) (by kernel_rfl) (by kernel_rfl) (fun _ _ _ h => h) (Or.inl ⟨by rfl, ?_⟩) (by assumption) ?_
      rotate_left
      · intro w hSw
        (try dsimp only at hSw)
        go_simp
        all_goals with_reducible rfl
      try simp only [Act.put, List.setIfInBounds_toArray, List.set_cons_zero, List.set_cons_succ, List.getElem_toArray, List.getElem_cons_zero, List.getElem_cons_succ]
      refine wpAnyH_take (i := 2) (v := ?_) rfl (by kernel_rfl) (by kernel_rfl) (by kernel_rfl) (fun _ _ _ h => h) (Or.inl ⟨by rfl, ?_⟩) (by assumption) ?_
      rotate_left
      · intro w hSw
        (try dsimp only at hSw)
        go_simp
        all_goals with_reducible rfl
      try simp only [Act.put, List.setIfInBounds_toArray, List.set_cons_zero, List.set_cons_succ, List.getElem_toArray, List.getElem_cons_zero, List.getElem_cons_succ]
      refine wpAnyH_take (i := 3) (v := ?_) rfl (by kernel_rfl) (by kernel_rfl) (by kernel_rfl) (fun _ _ _ h => h) (Or.inl ⟨by rfl, ?_⟩) (by assumption) ?_
      rotate_left
      · intro w hSw
        (try dsimp only at hSw)
        go_simp
        all_goals with_reducible rfl
      try simp only [Act.put, List.setIfInBounds_toArray, List.set_cons_zero, List.set_cons_succ, List.getElem_toArray, List.getElem_cons_zero, List.getElem_cons_succ]
      refine wpAnyH_take (i := 5) (v := ?_) rfl (by kernel_rfl) (by kernel_rfl) (by kernel_rfl) (fun _ _ _ h => h) (Or.inl ⟨by rfl, ?_⟩) (by assumption) ?_
      rotate_left
      · intro w hSw
        (try dsimp only at hSw)
        go_simp
        all_goals with_reducible rfl
      try simp only [Act.put, List.setIfInBounds_toArray, List.set_cons_zero, List.set_cons_succ, List.getElem_toArray, List.getElem_cons_zero, List.getElem_cons_succ]
      refine wpAnyH_take (i := 6) (v := ?_) rfl (by kernel_rfl) (by kernel_rfl) (by kernel_rfl) (fun _ _ _ h => h) (Or.inl ⟨by rfl, ?_⟩) (by assumption) ?_
      rotate_left
      · intro w hSw
        (try dsimp only at hSw)
        go_simp
        all_goals with_reducible rfl
      try simp only [Act.put, List.setIfInBounds_toArray, List.set_cons_zero, List.set_cons_succ, List.getElem_toArray, List.getElem_cons_zero, List.getElem_cons_succ]
      refine wpAnyH_take (i := 7) (v := ?_) rfl (by kernel_rfl) (by kernel_rfl) (by kernel_rfl) (fun _ _ _ h => h) (Or.inl ⟨by rfl, ?_⟩) (by assumption) ?_
      rotate_left
      · intro w hSw
        (try dsimp only at hSw)
        go_simp
        all_goals with_reducible rfl
      try simp only [Act.put, List.setIfInBounds_toArray, List.set_cons_zero, List.set_cons_succ, List.getElem_toArray, List.getElem_cons_zero, List.getElem_cons_succ]
      refine wpAnyH_take (i := 8) (v := ?_) rfl (by kernel_rfl) (by kernel_rfl) (by kernel_rfl) (fun _ _ _ h => h) (Or.inl ⟨by rfl, ?_⟩) (by assumption) ?_
      rotate_left
      · intro w hSw
        (try dsimp only at hSw)
        go_simp
        all_goals with_reducible rfl
      try simp only [Act.put, List.setIfInBounds_toArray, List.set_cons_zero, List.set_cons_succ, List.getElem_toArray, List.getElem_cons_zero, List.getElem_cons_succ]
      refine wpAnyH_ready (rs := [0]) (by kernel_rfl) (by simp) ?_
      refine AllReadyH.cons rfl (fun K hK => ?_) AllReadyH.nil
      go_simp
      skip
      refine hK.out _ _ (trivial) (fun hHeld => ?_)
      clear hK K
      try simp only [Act.put, List.setIfInBounds_toArray, List.set_cons_zero, List.set_cons_succ, List.getElem_toArray, List.getElem_cons_zero, List.getElem_cons_succ]
      have own5 := Nums.made V
      have hG : V.heap.size ≤ (V.alloc (.cells #[] 3)).heap.size := by simp
      have hS5 := (hL4.more hwv).below ((Below.refl _ _).alloc (Nat.le_refl _) (.cells #[] 3))
      have bl5 := bl4.alloc bl4.size (.cells #[] 3)
      have hwG := bl4.size
      clear hL4 bl4 hwv
      generalize V.alloc (.cells #[] 3) = V5 at *
      generalize V.heap.size = G at *
      refine wpAnyH_ready (rs := [4]) (by kernel_rfl) (by simp) ?_
      refine AllReadyH.cons rfl (fun K hK => ?_) AllReadyH.nil
      refine step_n rfl _ _ (by rfl) G (by rfl) (by rfl) own5 (hS5.take k (by omega)) (by simp; omega) hG (l.take k) (by rfl) ?_
      intro a6 c6 w6 own6 b6 _
      refine hK.out _ _ trivial (fun hHeld => ?_)
      clear hK K
      try simp only [Act.put, List.setIfInBounds_toArray, List.set_cons_zero, List.set_cons_succ, List.getElem_toArray, List.getElem_cons_zero, List.getElem_cons_succ]
      have hql : (l.take k).length = k := by rw [List.length_take]; omega
      have hS6 : Lst G w6 (if c = k + 1 then some ⟨b, off, none⟩ else some ⟨b, off + (k + 1), none⟩) (n - (k + 1)) (l.drop (k + 1)) := by
        split
        · rename_i hc
          obtain h0 : n - (k + 1) = 0 := by omega
          rw [h0]
          exact ⟨by rw [List.length_drop]; omega, by omega, .inl rfl⟩
        · exact lst_dropR (hS5.below b6) (k + 1) (by omega)
      have bl6 := bl5.trans (b6.mono hwG)
      have hG6 := Nat.le_trans hG b6.size
      clear hS5 bl5 b6 own5
      obtain ⟨X, hX⟩ : ∃ X, l.take k ++ l.drop (k + 1) = X := ⟨_, rfl⟩
      have hXl : X.length ≤ 1000 := by rw [← hX, List.length_append, hql, List.length_drop]; omega
      have hvX : U.vp X = true := by rw [← hX]; exact HV2.out
      refine wpAnyH_ready (rs := [9]) (by kernel_rfl) (by simp) ?_
      refine AllReadyH.cons rfl (fun K hK => ?_) AllReadyH.nil
      refine step_n rfl _ _ (by rfl) G (by rfl) (by rfl) own6 hS6 (by omega) hG6 X hX ?_
      intro a7 c7 w7 own7 b7 _
      refine hK.out _ _ trivial (fun hHeld => ?_)
      clear hK K
      try simp only [Act.put, List.setIfInBounds_toArray, List.set_cons_zero, List.set_cons_succ, List.getElem_toArray, List.getElem_cons_zero, List.getElem_cons_succ]
      have hS7 := own7.lst (by omega)
      have bl7 := bl6.trans (b7.mono hwG)
      have k7 := vp_impl _ _ c7 _ _ _ hS7
      rw [hvX] at k7
      have K7 := Lib.hid k7
      clear k7 hS6 hS7 own6 own7 bl6 b7 hvX HV2 hX hql
      refine wpAnyH_ready (rs := [10]) (by kernel_rfl) (by simp) ?_
      refine AllReadyH.cons rfl (fun K hK => ?_) AllReadyH.nil
      go_simp
      (go_at_call 18; refine K7.out.mono ?_; rintro e w8 ⟨rfl, rfl⟩)
      refine hK.out _ _ (trivial) (fun hHeld => ?_)
      clear hK K
      try simp only [Act.put, List.setIfInBounds_toArray, List.set_cons_zero, List.set_cons_succ, List.getElem_toArray, List.getElem_cons_zero, List.getElem_cons_succ]
      have bl8 := bl7
      refine wpAnyH_take (i := 11) (v := ?_) rfl (by kernel_rfl) (by kernel_rfl) (by kernel_rfl) (fun _ _ _ h => h) (Or.inl ⟨by rfl, ?_⟩) (by assumption) ?_
      rotate_left
      · intro w hSw
        (try dsimp only at hSw)
        go_simp
        all_goals with_reducible rfl
      try simp only [Act.put, List.setIfInBounds_toArray, List.set_cons_zero, List.set_cons_succ, List.getElem_toArray, List.getElem_cons_zero, List.getElem_cons_succ]
      refine wpAnyH_done (by kernel_rfl) ?_ _
      clear hHeld
      go_wp2
      all_goals go_ret
      all_goals exact ⟨ret_bool (by first | rfl | (simp; done) | simp_all), bl8⟩

/-! ### THE ROW's STEP: WRITTEN OUT: LEAVE IT -/
set_option maxRecDepth 100000 in
theorem lifted (os : Os) (started : os.Started) (H : Type) (enc : TypeId × Value → H) :
    ReturnsInHanded {} Try.checked os 3 .any (Rows.fnValidPulsesSpec.pre6 enc Try.prog Try.f3 Rows.fnValidPulsesRow.domain false) (Rows.fnValidPulsesSpec.post enc Try.prog Try.f3 false true false false) := by
  refine returnsInHanded_of_change (C := Try.checked) own started (by kernel_rfl) Try.func3
    (ChangeSpec.witness6 (enc := enc) (C := Try.checked) false ⟨#[], #[.slice none 0 0], []⟩ 8 (by kernel_rfl) (by kernel_rfl) (by kernel_rfl) (by kernel_rfl)) ?_
  intro W base args ds gs before hval0 hW hcnd _
  have hval : ∀ (j : Nat) t v, Try.f3.params[j]? = some t → args[j]? = some v → Value.okWide Try.prog W .any base t v := hval0
  have hW' := hW
  obtain ⟨p, q, hA0, hV, rfl, hfz, hnd⟩ := hW
  have hA : DataW.TrodAll enc Try.prog W 0 (fun _ => true) true Try.f3.params.toList args.toList ds p := hA0
  rw [Try.params3] at hA hval
  obtain ⟨v0, vs0, d0, ds0, p0, q0, hargs, rfl, rfl, h0, r0⟩ := trodAll_cons hA
  obtain ⟨rfl, rfl, rfl⟩ := trodAll_nil r0
  obtain rfl : args = #[v0] := by cases args; simp_all
  obtain ⟨rfl, rfl⟩ := trodVars_none hV
  obtain ⟨a0, len0, cap0, rfl⟩ := okWide_slice Try.underlying22 (hval 0 22 v0 rfl rfl)
  have k0 := h0
  have lt0 : ∀ x ∈ p0, x.block < W.heap.size := by obtain ⟨m, hm⟩ := k0; exact DataW.trod_lt m _ _ _ hm
  obtain ⟨z0, w0⟩ : ∃ zs, IsRow .u8 W a0 len0 cap0 zs := by
    obtain ⟨fuel, hf⟩ := h0
    rcases open_ints Try.underlying22 Try.underlying5 (by kernel_rfl) hf with ⟨hcs, _⟩ | ⟨x, l, c, zs, hcs, _, hl, hm, hz, _, hcell, hwz⟩
    · simp [Value.cells] at hcs
      obtain ⟨rfl, rfl, rfl⟩ := hcs
      exact ⟨[], .inl ⟨rfl, rfl, rfl, rfl⟩⟩
    · simp [Value.cells] at hcs
      obtain ⟨rfl, rfl, rfl⟩ := hcs
      exact ⟨zs, .inr ⟨_, rfl, hl, hm, by simpa using hz, hcell, hwz⟩⟩
  clear hA0 hval0
  refine (walk a0 len0 cap0 z0 W w0).mono fun e W' ⟨he, bel⟩ => ?_
  subst he
  exact ⟨_, rfl, _, _, _, [], _, [], hW', trodAll_mk1 (shut_bool Try.underlying4 _), (trodAll_cons_mk (Below.trod laidOut (by kernel_rfl) (of_decide_eq_true (by kernel_rfl)) k0 bel lt0) trodAll_mk0), rfl, bel.frame _, fun h => by cases h⟩

theorem closed : joinedFacts Try.pinned.checked.prog 3 Try.f3 Rows.fnValidPulsesSpec Rows.fnValidPulsesRow = true := by
  unfold joinedFacts
  rw [mayJ, liftsJ, makeJ]
  kernel_rfl

theorem over : Rows.fnValidPulsesRow.holds Try.pinned (OpenSpec.ofChange Rows.fnValidPulsesSpec) :=
  OpenClaim.holds_of_wide 3 Try.f3 rfl rfl rfl rfl rfl rfl rfl ⟨rfl, rfl, rfl, rfl, rfl⟩ rfl rfl rfl rfl rfl (by kernel_rfl) Try.func3 closed
    (of_decide_eq_true (by kernel_rfl)) (by unfold Func.isWrapper; first | (rw [if_pos (by decide +kernel)]; kernel_rfl) | (rw [if_neg (by decide +kernel)]; exact ⟨rfl, rfl⟩))
    (fun os started H enc _ => lifted os started H enc)

/-- ████ THE STATEMENT ████ -/
theorem proved : Rows.FnValidPulsesSaid := over
#print axioms proved
end Go.Proofs.Ytiogcaalapoehaa.fnValidPulses
