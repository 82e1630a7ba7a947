/-
  PROVED: FnWithoutSpikes: for every input the law returns true, and the input reads as it did. No condition.
  The frame is as the kit prints it (proof-skeleton.mjs); the walk is mine.
-/
import Derived.Test.YtcbahomohlaakaaRows
import Derived.Test.YtcbahomohlaakaaSpikes
import Derived.Test.YtcbahomohlaakaaEqQ
import Derived.WalkKit
import Derived.ProofKit
import Derived.OpenShut
import Derived.ShutString
import Derived.ChangeOld
import Derived.Below
namespace Go.Proofs.Ytcbahomohlaakaa.fnWithoutSpikes
open Go.ChangeShapes Go.WideShapes Go.ChangeAt Go.RowKit
open Go.ChangeMaps (open_string shut_string)
set_option linter.unusedVariables false

theorem own : ownKnob Try.prog.godebug = none := by kernel_rfl
theorem laidOut : laidOutB Try.prog = true := by kernel_rfl

/-- WHAT THE WALK IS TOLD OF A SLICE OF INTEGERS THAT CAME IN: it is nil; or it leads to a row of 'cap' cells, the numbers 'zs' (the first 'len' are its elements, the rest its spare room), each fitting its kind. -/
def IsRow (k : IntKind) (w : World) (a : Option Addr) (len cap : Nat) (zs : List Int) : Prop :=
  (a = none ∧ len = 0 ∧ cap = 0 ∧ zs = []) ∨
  ∃ x, a = some x ∧ len ≤ cap ∧ cap ≤ maxLen ∧ zs.length = cap ∧ (∀ i, i < zs.length → w.cell? (x.add i) = some (.int k (zs.getD i 0))) ∧ ∀ n ∈ zs, (Lit.int k n).wf = true

/-! ### STEP 1: THE WALK: the Go text returns true, AND WRITES NOTHING THAT WAS THERE: 'Below w.heap.size w w'' (Derived/Below.lean: '.refl', '.alloc', '.drew', '.setCell' at a new block, '.trans'). Open each 'IsRow' by 'rcases' AHEAD of 'go_enter'; part every test ahead of the walk. -/
theorem wk_pre (M F : Int) (l : List Q.Sm) {k n : Nat} (h : k ≤ n) : wk M F l k <+: wk M F l n := by
  unfold wk
  exact List.IsPrefix.filter _ (List.take_prefix_take_left h)
theorem wk_at {M F : Int} {l : List Q.Sm} {k : Nat} (hk : k < l.length) (h : Q.abs (Q.of l k - M) ≤ F) :
    (wk M F l k).length < (wk M F l l.length).length ∧ Q.of (wk M F l l.length) (wk M F l k).length = Q.of l k ∧ Q.de (wk M F l l.length) (wk M F l k).length = Q.de l k ∧ Q.tm (wk M F l l.length) (wk M F l k).length = Q.tm l k := by
  have h1 := wk_hit hk h
  obtain ⟨t, ht⟩ := wk_pre M F l (show k + 1 ≤ l.length by omega)
  rw [← h1] at ht
  have hg : (wk M F l l.length).getD (wk M F l k).length (0, 0, 0) = (Q.of l k, Q.de l k, Q.tm l k) := by
    rw [← ht, List.getD_eq_getElem?_getD, List.append_assoc, List.getElem?_append_right (Nat.le_refl _), Nat.sub_self]; rfl
  refine ⟨by rw [← ht]; simp, ?_, ?_, ?_⟩
  · show ((wk M F l l.length).getD (wk M F l k).length (0, 0, 0)).1 = _; rw [hg]
  · show ((wk M F l l.length).getD (wk M F l k).length (0, 0, 0)).2.1 = _; rw [hg]
  · show ((wk M F l l.length).getD (wk M F l k).length (0, 0, 0)).2.2 = _; rw [hg]
set_option maxHeartbeats 1000000 in
theorem size_laws (x : Int) (hx : -1000000000 ≤ x ∧ x ≤ 1000000000) (w : World) : Calls Try.prog 27 #[.int .i64 x] w fun e w' => e = .returned (.int .i64 (Q.abs x)) ∧ w = w' := by
  rw [Q.abs_max]
  go_enter Try.func27, Try.ntmps27
  go_wp2
  go_ret
  exact ⟨rfl, rfl⟩
set_option maxRecDepth 100000 in
set_option maxHeartbeats 8000000 in
theorem walk (a0 : Option Addr) (len0 cap0 : Nat) (z0 : List Int) (w : World) (w0 : IsRow .u8 w a0 len0 cap0 z0) :
    Calls Try.prog 7 #[.slice a0 len0 cap0] w fun e w' => e = .returned (.bool true) ∧ Below w.heap.size w w' := by
  by_cases hl : 1048576 < len0
  · have hl' : (1048576 : Int) < (len0 : Int) := by omega
    clear w0 hl
    go_enter Try.func7, Try.ntmps7
    go_wp2
    go_ret
    exact ⟨rfl, Below.refl _ _⟩
  have hl' : ¬ (1048576 : Int) < (len0 : Int) := by omega
  obtain ⟨hc, hcap⟩ := code_of w0 (by omega)
  clear w0 hl
  go_enter Try.func7, Try.ntmps7
  go_wp2_with fail
  refine (DrawWithoutSpikes_any w a0 len0 cap0 hc hcap).mono ?_
  rintro e w1 ⟨a, c, l, s, rfl, hl9, hlc, hcm, hS, hsm, hsr, bl⟩
  clear hc hcap
  have hxl := ws_len l s
  have k1 := fun w' (h : Sms w'.heap.size w' a l.length l) => WS_impl l.length c a l s w' h
  have k2 := fun w' (h : Sms w'.heap.size w' a l.length l) => WS_spec l.length c a l s w' h
  have hcase : (ws l s).length = 0 ∨ (0 < (ws l s).length ∧ Q.vq l = true ∧ 0 ≤ s ∧ s ≤ 1000000 ∧ ws l s = wk (med l) (3 * Q.jit l + s) l l.length) := by
    rcases hw : wok l s with _ | _
    · left; rw [ws_no hw]; rfl
    · rcases Nat.eq_zero_or_pos (ws l s).length with h0 | h0
      · exact .inl h0
      · exact .inr ⟨h0, (wok_of hw).1, (wok_of hw).2.1, (wok_of hw).2.2, ws_yes hw⟩
  obtain ⟨X, hX⟩ : ∃ X, ws l s = X := ⟨_, rfl⟩
  simp only [hX] at k1 k2 hcase hxl
  have K1 := Lib.hid k1
  have K2 := Lib.hid k2
  clear k1 k2 hX hsm
  unfold maxLen at hcm
  go_wp2_with fail
  refine (K1.out _ hS).mono ?_
  rintro e w2 ⟨a2, c2, rfl, O2, b2⟩
  have S2 := (hS.below b2).more b2.size
  have bl2 := bl.trans (b2.mono bl.size)
  have M2 := (O2.sms (by omega)).1
  clear hS bl b2 K1 O2
  go_wp2_with fail
  refine (K2.out _ S2).mono ?_
  rintro e w3 ⟨a3, c3, rfl, O3, b3⟩
  have S3 := (S2.below b3).more b3.size
  have M3 := (M2.below b3).more b3.size
  have bl3 := bl2.trans (b3.mono bl2.size)
  have P3 := (O3.sms (by omega)).1
  clear S2 M2 bl2 b3 O3
  go_wp2_with fail
  refine (equalSamples_any X.length c2 c3 _ a2 a3 X w3 M3 P3).mono ?_
  rintro e w4 ⟨rfl, q4⟩
  have S4 := (S3.same q4).more (show w3.heap.size ≤ w4.heap.size from (q4.below (B := 0)).size)
  have M4 := (M3.same q4).more (show w3.heap.size ≤ w4.heap.size from (q4.below (B := 0)).size)
  have bl4 := bel_same bl3 q4
  clear S3 M3 P3 bl3 q4
  rcases hcase with h0 | ⟨x0, hv, s0, s1, hxx⟩
  · have h0' : ((X.length : Int) == 0) = true := by rw [h0]; rfl
    clear h0
    go_wp2_with fail
    refine (K2.out _ S4).mono ?_
    rintro e w6 ⟨a6, c6, rfl, O6, b6⟩
    have M6 := (M4.below b6).more b6.size
    have bl6 := bl4.trans (b6.mono bl4.size)
    have P6 := (O6.sms (by omega)).1
    clear S4 M4 bl4 b6 O6
    go_wp2_with fail
    refine (equalSamples_any X.length c2 c6 _ a2 a6 X w6 M6 P6).mono ?_
    rintro e w7 ⟨rfl, q7⟩
    have HB := Lib.hid (bel_same bl6 q7)
    clear M6 P6 bl6 q7
    go_wp2
    go_ret
    exact ⟨ret_bool (by first | rfl | simp), HB.out⟩
  · have h0' : ((X.length : Int) == 0) = false := by rw [beq_eq_false_iff_ne]; omega
    have hM := med_in hv
    have hJ := jit_in hv
    have hl8 := (Q.vq_of hv).1.2
    have hbd : ∀ i, i < l.length → -1000000 ≤ Q.of l i ∧ Q.of l i ≤ 1000000 := fun i hi => ((Q.vq_of hv).2 i hi).1.1
    have k3 := fun w' (h : Sms w'.heap.size w' a l.length l) => MD_impl _ l.length c a l w' h (Nat.le_refl _)
    have k4 := fun w' (h : Sms w'.heap.size w' a l.length l) => JF_impl _ l.length c a l w' h (Nat.le_refl _)
    simp only [Q.jf_yes hv] at k4
    have hat := fun k (hk : k < l.length) => @wk_at (med l) (3 * Q.jit l + s) l k hk
    have hhit := fun k (hk : k < l.length) => @wk_hit (med l) (3 * Q.jit l + s) l k hk
    have hmiss := fun k (hk : k < l.length) => @wk_miss (med l) (3 * Q.jit l + s) l k hk
    rw [← hxx] at hat
    generalize med l = M at *
    generalize Q.jit l = J at *
    obtain ⟨F, hF⟩ : ∃ F, 3 * J + s = F := ⟨_, rfl⟩
    rw [hF] at hxx hat hhit hmiss
    have K3 := Lib.hid k3
    have K4 := Lib.hid k4
    have HBD := Lib.hid hbd
    have HAT := Lib.hid hat
    have HH := Lib.hid hhit
    have HM := Lib.hid hmiss
    have HXX := Lib.hid hxx
    have HFF := Lib.hid hF
    clear k3 k4 hbd hat hhit hmiss hv hxx K2 hF
    go_wp2_with fail
    go_loopw [6, 7] (fun n i wr => ∃ k : Nat, k ≤ l.length ∧ n = .int .i64 ((wk M F l k).length : Int) ∧ i = .int .i64 k ∧ Sms wr.heap.size wr a l.length l ∧ Sms wr.heap.size wr a2 X.length X ∧ Below w.heap.size w wr) (fun _ i _ => l.length - (intOf i).toNat)
    case atStart => exact ⟨0, Nat.zero_le _, rfl, rfl, S4, M4, bl4⟩
    case round =>
      obtain ⟨k, hk, rfl, rfl, hS, hX, bl⟩ := hrel
      clear S4 M4 bl4
      by_cases hlt : k < l.length
      · obtain ⟨b, off, rfl, hb, hcl⟩ := hS.at_ k hlt
        obtain ⟨c0, c1, c2'⟩ := hcl k hlt
        have hx := HBD.out k hlt
        have hat := HAT.out k hlt
        have hhit := HH.out k hlt
        have hmiss := HM.out k hlt
        have kd := fun w' => size_laws (Q.of l k - M) (by omega) w'
        generalize Q.abs (Q.of l k - M) = D at *
        generalize Q.of l k = x at *
        generalize Q.de l k = y at *
        generalize Q.tm l k = z at *
        obtain ⟨p, hp⟩ : ∃ p, (wk M F l k).length = p := ⟨_, rfl⟩
        rw [hp] at hat ⊢
        have KD := Lib.hid kd
        have HAT1 := Lib.hid hat
        have HH1 := Lib.hid hhit
        have HM1 := Lib.hid hmiss
        have HP := Lib.hid hp
        have e1 : IntKind.i64.wrap (x - M) = x - M := IntWalk.i64_in _ (by omega)
        have e2 : IntKind.i64.wrap (3 * J) = 3 * J := IntWalk.i64_in _ (by omega)
        have e3 : IntKind.i64.wrap (3 * J + s) = F := by rw [HFF.out]; exact IntWalk.i64_in _ (by have := HFF.out; omega)
        have c0 : wr.drew.cell? ⟨b, off + k * 3, none⟩ = some (.int .i64 x) := c0
        have c1 : wr.drew.cell? ⟨b, off + k * 3 + 1, none⟩ = some (.int .i64 y) := c1
        have c2' : wr.drew.cell? ⟨b, off + k * 3 + 2, none⟩ = some (.int .i64 z) := c2'
        have hS : Sms wr.drew.heap.size wr.drew (some ⟨b, off, none⟩) l.length l := hS
        have hX : Sms wr.drew.heap.size wr.drew a2 X.length X := hX
        have bl : Below w.heap.size w wr.drew := bl.drew
        have hb : b < wr.drew.heap.size := hb
        clear kd hat hhit hmiss hcl hp
        go_wp2_with fail
        refine wp_region_held_drew (S := (fun w' => w'.cell? ⟨b, off + k * 3, none⟩ = some (.int .i64 x))) (by kernel_rfl) (c0) (fun hHeld => ?_)
        generalize wr.drew = V at *
        refine wpAnyH_take (i := 0) (v := ?_) rfl (by kernel_rfl) (by kernel_rfl) (by kernel_rfl) (fun _ _ _ h => h) (Or.inl ⟨by rfl, ?_⟩) (by assumption) ?_
        rotate_left
        · intro w hSw
          (try dsimp only at hSw)
          go_simp
          all_goals with_reducible rfl
        try simp only [Act.put, List.setIfInBounds_toArray, List.set_cons_zero, List.set_cons_succ, List.getElem_toArray, List.getElem_cons_zero]
        refine wpAnyH_take (i := 1) (v := ?_) rfl (by kernel_rfl) (by kernel_rfl) (by kernel_rfl) (fun _ _ _ h => h) (Or.inl ⟨by rfl, ?_⟩) (by assumption) ?_
        rotate_left
        · intro w hSw
          (try dsimp only at hSw)
          go_simp
          all_goals with_reducible rfl
        try simp only [Act.put, List.setIfInBounds_toArray, List.set_cons_zero, List.set_cons_succ, List.getElem_toArray, List.getElem_cons_zero, List.getElem_cons_succ]
        refine wpAnyH_take (i := 2) (v := ?_) rfl (by kernel_rfl) (by kernel_rfl) (by kernel_rfl) (fun _ _ _ h => h) (Or.inl ⟨by rfl, ?_⟩) (by assumption) ?_
        rotate_left
        · intro w hSw
          (try dsimp only at hSw)
          go_simp
          all_goals with_reducible rfl
        try simp only [Act.put, List.setIfInBounds_toArray, List.set_cons_zero, List.set_cons_succ, List.getElem_toArray, List.getElem_cons_zero, List.getElem_cons_succ]
        refine wpAnyH_take (i := 3) (v := ?_) rfl (by kernel_rfl) (by kernel_rfl) (by kernel_rfl) (fun _ _ _ h => h) (Or.inl ⟨by rfl, ?_⟩) (by assumption) ?_
        rotate_left
        · intro w hSw
          (try dsimp only at hSw)
          go_simp
          all_goals with_reducible rfl
        try simp only [Act.put, List.setIfInBounds_toArray, List.set_cons_zero, List.set_cons_succ, List.getElem_toArray, List.getElem_cons_zero, List.getElem_cons_succ]
        refine wpAnyH_take (i := 4) (v := ?_) rfl (by kernel_rfl) (by kernel_rfl) (by kernel_rfl) (fun _ _ _ h => h) (Or.inl ⟨by rfl, ?_⟩) (by assumption) ?_
        rotate_left
        · intro w hSw
          (try dsimp only at hSw)
          go_simp
          all_goals with_reducible rfl
        try simp only [Act.put, List.setIfInBounds_toArray, List.set_cons_zero, List.set_cons_succ, List.getElem_toArray, List.getElem_cons_zero, List.getElem_cons_succ]
        refine wpAnyH_take (i := 5) (v := ?_) rfl (by kernel_rfl) (by kernel_rfl) (by kernel_rfl) (fun _ _ _ h => h) (Or.inl ⟨by rfl, ?_⟩) (by assumption) ?_
        rotate_left
        · intro w hSw
          (try dsimp only at hSw)
          go_simp
          all_goals with_reducible rfl
        try simp only [Act.put, List.setIfInBounds_toArray, List.set_cons_zero, List.set_cons_succ, List.getElem_toArray, List.getElem_cons_zero, List.getElem_cons_succ]
        refine wpAnyH_take (i := 9) (v := ?_) rfl (by kernel_rfl) (by kernel_rfl) (by kernel_rfl) (fun _ _ _ h => h) (Or.inl ⟨by rfl, ?_⟩) (by assumption) ?_
        rotate_left
        · intro w hSw
          (try dsimp only at hSw)
          go_simp
          all_goals with_reducible rfl
        try simp only [Act.put, List.setIfInBounds_toArray, List.set_cons_zero, List.set_cons_succ, List.getElem_toArray, List.getElem_cons_zero, List.getElem_cons_succ]
        refine wpAnyH_take (i := 12) (v := ?_) rfl (by kernel_rfl) (by kernel_rfl) (by kernel_rfl) (fun _ _ _ h => h) (Or.inl ⟨by rfl, ?_⟩) (by assumption) ?_
        rotate_left
        · intro w hSw
          (try dsimp only at hSw)
          go_simp
          all_goals with_reducible rfl
        try simp only [Act.put, List.setIfInBounds_toArray, List.set_cons_zero, List.set_cons_succ, List.getElem_toArray, List.getElem_cons_zero, List.getElem_cons_succ]
        refine wpAnyH_ready (rs := [6]) (by kernel_rfl) (by simp) ?_
        refine AllReadyH.cons rfl (fun K hK => ?_) AllReadyH.nil
        go_simp
        refine (K3.out V hS).mono ?_
        rintro e w5 ⟨rfl, b5⟩
        have S5 := (hS.below b5).more b5.size
        have X5 := (hX.below b5).more b5.size
        have bl5 := bl.trans (b5.mono bl.size)
        have d0 := (b5.cell (p := ⟨b, off + k * 3, none⟩) hb).trans c0
        have d1 := (b5.cell (p := ⟨b, off + k * 3 + 1, none⟩) hb).trans c1
        have d2 := (b5.cell (p := ⟨b, off + k * 3 + 2, none⟩) hb).trans c2'
        have hb5 : b < w5.heap.size := Nat.lt_of_lt_of_le hb b5.size
        refine hK.out _ _ d0 (fun hHeld => ?_)
        clear hK K hS hX bl b5 c0 c1 c2'
        try simp only [Act.put, List.setIfInBounds_toArray, List.set_cons_zero, List.set_cons_succ, List.getElem_toArray, List.getElem_cons_zero, List.getElem_cons_succ]
        refine wpAnyH_take (i := 7) (v := ?_) rfl (by kernel_rfl) (by kernel_rfl) (by kernel_rfl) (fun _ _ _ h => h) (Or.inl ⟨by rfl, ?_⟩) (by assumption) ?_
        rotate_left
        · intro w hSw
          (try dsimp only at hSw)
          go_simp
          all_goals with_reducible rfl
        try simp only [Act.put, List.setIfInBounds_toArray, List.set_cons_zero, List.set_cons_succ, List.getElem_toArray, List.getElem_cons_zero, List.getElem_cons_succ]
        refine wpAnyH_ready (rs := [8]) (by kernel_rfl) (by simp) ?_
        refine AllReadyH.cons rfl (fun K hK => ?_) AllReadyH.nil
        go_simp
        refine (KD.out _).mono ?_
        rintro e w6 ⟨rfl, rfl⟩
        refine hK.out _ _ d0 (fun hHeld => ?_)
        clear hK K
        try simp only [Act.put, List.setIfInBounds_toArray, List.set_cons_zero, List.set_cons_succ, List.getElem_toArray, List.getElem_cons_zero, List.getElem_cons_succ]
        refine wpAnyH_ready (rs := [10]) (by kernel_rfl) (by simp) ?_
        refine AllReadyH.cons rfl (fun K hK => ?_) AllReadyH.nil
        go_simp
        refine (K4.out _ S5).mono ?_
        rintro e w7 ⟨rfl, b7⟩
        have S7 := (S5.below b7).more b7.size
        have X7 := (X5.below b7).more b7.size
        have bl7 := bl5.trans (b7.mono bl5.size)
        have f0 := (b7.cell (p := ⟨b, off + k * 3, none⟩) hb5).trans d0
        have f1 := (b7.cell (p := ⟨b, off + k * 3 + 1, none⟩) hb5).trans d1
        have f2 := (b7.cell (p := ⟨b, off + k * 3 + 2, none⟩) hb5).trans d2
        refine hK.out _ _ f0 (fun hHeld => ?_)
        clear hK K S5 X5 bl5 b7 d0 d1 d2
        try simp only [Act.put, List.setIfInBounds_toArray, List.set_cons_zero, List.set_cons_succ, List.getElem_toArray, List.getElem_cons_zero, List.getElem_cons_succ]
        refine wpAnyH_take (i := 11) (v := ?_) rfl (by kernel_rfl) (by kernel_rfl) (by kernel_rfl) (fun _ _ _ h => h) (Or.inl ⟨by rfl, ?_⟩) (by assumption) ?_
        rotate_left
        · intro w hSw
          (try dsimp only at hSw)
          go_simp
          all_goals with_reducible rfl
        try simp only [Act.put, List.setIfInBounds_toArray, List.set_cons_zero, List.set_cons_succ, List.getElem_toArray, List.getElem_cons_zero, List.getElem_cons_succ]
        refine wpAnyH_take (i := 13) (v := ?_) rfl (by kernel_rfl) (by kernel_rfl) (by kernel_rfl) (fun _ _ _ h => h) (Or.inl ⟨by rfl, ?_⟩) (by assumption) ?_
        rotate_left
        · intro w hSw
          (try dsimp only at hSw)
          go_simp
          all_goals with_reducible rfl
        try simp only [Act.put, List.setIfInBounds_toArray, List.set_cons_zero, List.set_cons_succ, List.getElem_toArray, List.getElem_cons_zero, List.getElem_cons_succ]
        refine wpAnyH_take (i := 14) (v := ?_) rfl (by kernel_rfl) (by kernel_rfl) (by kernel_rfl) (fun _ _ _ h => h) (Or.inl ⟨by rfl, ?_⟩) (by assumption) ?_
        rotate_left
        · intro w hSw
          (try dsimp only at hSw)
          go_simp
          all_goals with_reducible rfl
        try simp only [Act.put, List.setIfInBounds_toArray, List.set_cons_zero, List.set_cons_succ, List.getElem_toArray, List.getElem_cons_zero, List.getElem_cons_succ]
        refine wpAnyH_done (by kernel_rfl) ?_ _
        clear hHeld e1 e2 e3 KD
        by_cases hD : D ≤ F
        · obtain ⟨hp1, g0, g1, g2⟩ := HAT1.out hD
          obtain ⟨b', off', rfl, hb', hcl'⟩ := X7.at_ p hp1
          obtain ⟨h0, h1, h2⟩ := hcl' p hp1
          rw [g0] at h0
          rw [g1] at h1
          rw [g2] at h2
          have hge : decide (X.length ≤ p) = false := decide_eq_false (by omega)
          have HHH := Lib.hid (HH1.out hD)
          have HF := Lib.hid (And.intro S7 (And.intro X7 bl7))
          clear g0 g1 g2 hcl' S7 X7 bl7
          go_wp2_with fail
          go_quiet (fail)
          have HF2 := Lib.hid (And.intro (show Sms (w7.drewN nq).heap.size (w7.drewN nq) (some ⟨b, off, none⟩) l.length l from HF.out.1) (And.intro (show Sms (w7.drewN nq).heap.size (w7.drewN nq) (some ⟨b', off', none⟩) X.length X from HF.out.2.1) (below_drewN HF.out.2.2 nq)))
          clear HF h0 h1 h2 f0 f1 f2
          go_wp2
          go_roundw
          case rel => exact ⟨k + 1, by omega, by rw [← HHH.out, List.length_append, HP.out]; go_num, by go_num, HF2.out.1, HF2.out.2.1, HF2.out.2.2⟩
          case measure => simp [intOf]; omega
        · have HMM := Lib.hid (HM1.out (by first | exact hD | omega))
          have HF := Lib.hid (And.intro S7 (And.intro X7 bl7))
          clear S7 X7 bl7 f0 f1 f2
          go_wp2
          go_roundw
          case rel => exact ⟨k + 1, by omega, by rw [HMM.out, HP.out], by go_num, HF.out.1, HF.out.2.1, HF.out.2.2⟩
          case measure => simp [intOf]; omega
      · have hkl : k = l.length := by omega
        have hq : (((wk M F l k).length : Int) == (X.length : Int)) = true := by rw [hkl, HXX.out, beq_iff_eq]
        obtain ⟨p, hp⟩ : ∃ p, (wk M F l k).length = p := ⟨_, rfl⟩
        rw [hp] at hq ⊢
        have HQ := Lib.hid hq
        have hpx : p = X.length := by have := HQ.out; rw [beq_iff_eq] at this; omega
        subst hpx
        have HB := Lib.hid bl
        clear hkl hp hS hX bl hq
        go_wp2
        go_ret
        exact ⟨ret_bool (by first | rfl | (simp; done)), HB.out⟩

/-! ### THE ROW's STEP: WRITTEN OUT: LEAVE IT -/
set_option maxRecDepth 100000 in
theorem lifted (os : Os) (started : os.Started) (H : Type) (enc : TypeId × Value → H) :
    ReturnsInHanded {} Try.checked os 7 .any (Rows.fnWithoutSpikesSpec.pre6 enc Try.prog Try.f7 Rows.fnWithoutSpikesRow.domain false) (Rows.fnWithoutSpikesSpec.post enc Try.prog Try.f7 false true false false) := by
  refine returnsInHanded_of_change (C := Try.checked) own started (by kernel_rfl) Try.func7
    (ChangeSpec.witness6 (enc := enc) (C := Try.checked) false ⟨#[], #[.slice none 0 0], []⟩ 8 (by kernel_rfl) (by kernel_rfl) (by kernel_rfl) (by kernel_rfl)) ?_
  intro W base args ds gs before hval0 hW hcnd _
  have hval : ∀ (j : Nat) t v, Try.f7.params[j]? = some t → args[j]? = some v → Value.okWide Try.prog W .any base t v := hval0
  have hW' := hW
  obtain ⟨p, q, hA0, hV, rfl, hfz, hnd⟩ := hW
  have hA : DataW.TrodAll enc Try.prog W 0 (fun _ => true) true Try.f7.params.toList args.toList ds p := hA0
  rw [Try.params7] at hA hval
  obtain ⟨v0, vs0, d0, ds0, p0, q0, hargs, rfl, rfl, h0, r0⟩ := trodAll_cons hA
  obtain ⟨rfl, rfl, rfl⟩ := trodAll_nil r0
  obtain rfl : args = #[v0] := by cases args; simp_all
  obtain ⟨rfl, rfl⟩ := trodVars_none hV
  obtain ⟨a0, len0, cap0, rfl⟩ := okWide_slice Try.underlying22 (hval 0 22 v0 rfl rfl)
  have k0 := h0
  have lt0 : ∀ x ∈ p0, x.block < W.heap.size := by obtain ⟨m, hm⟩ := k0; exact DataW.trod_lt m _ _ _ hm
  obtain ⟨z0, w0⟩ : ∃ zs, IsRow .u8 W a0 len0 cap0 zs := by
    obtain ⟨fuel, hf⟩ := h0
    rcases open_ints Try.underlying22 Try.underlying5 (by kernel_rfl) hf with ⟨hcs, _⟩ | ⟨x, l, c, zs, hcs, _, hl, hm, hz, _, hcell, hwz⟩
    · simp [Value.cells] at hcs
      obtain ⟨rfl, rfl, rfl⟩ := hcs
      exact ⟨[], .inl ⟨rfl, rfl, rfl, rfl⟩⟩
    · simp [Value.cells] at hcs
      obtain ⟨rfl, rfl, rfl⟩ := hcs
      exact ⟨zs, .inr ⟨_, rfl, hl, hm, by simpa using hz, hcell, hwz⟩⟩
  clear hA0 hval0
  refine (walk a0 len0 cap0 z0 W w0).mono fun e W' ⟨he, bel⟩ => ?_
  subst he
  exact ⟨_, rfl, _, _, _, [], _, [], hW', trodAll_mk1 (shut_bool Try.underlying4 _), (trodAll_cons_mk (Below.trod laidOut (by kernel_rfl) (of_decide_eq_true (by kernel_rfl)) k0 bel lt0) trodAll_mk0), rfl, bel.frame _, fun h => by cases h⟩

theorem over : Rows.fnWithoutSpikesRow.holds Try.pinned (OpenSpec.ofChange Rows.fnWithoutSpikesSpec) :=
  OpenClaim.holds_of_wide 7 Try.f7 rfl rfl rfl rfl rfl rfl rfl ⟨rfl, rfl, rfl, rfl, rfl⟩ rfl rfl rfl rfl rfl (by kernel_rfl) Try.func7 (by kernel_rfl)
    (of_decide_eq_true (by kernel_rfl)) (by unfold Func.isWrapper; first | (rw [if_pos (by decide +kernel)]; kernel_rfl) | (rw [if_neg (by decide +kernel)]; exact ⟨rfl, rfl⟩))
    (fun os started H enc _ => lifted os started H enc)

/-- ████ THE STATEMENT ████ -/
theorem proved : Rows.FnWithoutSpikesSaid := over
#print axioms proved
end Go.Proofs.Ytcbahomohlaakaa.fnWithoutSpikes
