/-
  A new sample behind others (chapter 6): the model's AddSample. Written by gen_adds.py.
-/
import Derived.Test.YtcbahomohlaakaaOwnQ
import Derived.Test.YtcbahomohlaakaaSample
import Derived.Deep.RegionHeld3
namespace Go.Proofs.Ytcbahomohlaakaa
open Go.RowKit
set_option linter.unusedVariables false
set_option maxRecDepth 100000
/-- The list behind AddSample. -/
def Q.al (l : List Q.Sm) (p : Q.Sm) : List Q.Sm := if 8 < l.length + 1 then (l ++ [p]).drop 1 else l ++ [p]
theorem Q.al_full {l : List Q.Sm} {p : Q.Sm} (h : 8 < l.length + 1) : Q.al l p = (l ++ [p]).drop 1 := if_pos h
theorem Q.al_part {l : List Q.Sm} {p : Q.Sm} (h : ¬ 8 < l.length + 1) : Q.al l p = l ++ [p] := if_neg h
theorem B3.bG {w w' : World} {D G : Nat} {x y z : Int} (h : B3 w D x y z) (hb : Below G w w') (hD : D < G) : B3 w' D x y z :=
  ⟨(hb.cell (p := ⟨D, 0, none⟩) hD).trans h.c0, (hb.cell (p := ⟨D, 1, none⟩) hD).trans h.c1, (hb.cell (p := ⟨D, 2, none⟩) hD).trans h.c2, Nat.lt_of_lt_of_le h.lt hb.size⟩
theorem B3.bS {w w' : World} {D : Nat} {x y z : Int} (h : B3 w D x y z) (q : Same w w') : B3 w' D x y z := by obtain ⟨k, rfl⟩ := q; exact h.dr k
def AdYes (w : World) (P : List Q.Sm) (e : Ending) (w' : World) : Prop := ∃ a c, e = .returned (.tuple #[.slice a P.length c, .bool true]) ∧ Sms w'.heap.size w' a P.length P ∧ P.length ≤ c ∧ c ≤ maxLen ∧ (0 < P.length → ∀ x, a = some x → w.heap.size ≤ x.block) ∧ Below w.heap.size w w'
def AdNo (w : World) (e : Ending) (w' : World) : Prop := e = .returned (.tuple #[.slice none 0 0, .bool false]) ∧ Below w.heap.size w w'
def AdRes (w : World) (P : List Q.Sm) (e : Ending) (w' : World) : Prop := (Q.vq P = true → AdYes w P e w') ∧ (Q.vq P = false → AdNo w e w')
theorem AS_spec_bad (B n c : Nat) (a : Option Addr) (l : List Q.Sm) (x y z : Int) (w : World) (h : Sms B w a n l) (hB : B ≤ w.heap.size) (h0 : 0 < n) (hv : Q.vq l = false) :
    Calls Try.prog 21 #[.slice a n c, .agg #[.int .i64 x, .int .i64 y, .int .i64 z]] w (AdNo w) := by
  have b1 := (Below.refl w.heap.size w).alloc (Nat.le_refl _) (.cells #[.int .i64 x, .int .i64 y, .int .i64 z] 26)
  have hS := h.below ((Below.refl _ _).alloc hB (.cells #[.int .i64 x, .int .i64 y, .int .i64 z] 26))
  have h0i : (0 : Int) < (n : Int) := by omega
  clear h h0
  go_enter Try.func21, Try.ntmps21
  go_wp2_with fail
  refine (vq_spec _ _ _ _ _ _ hS).mono ?_
  rintro e w2 ⟨rfl, q2⟩
  have b2 := bel_same b1 q2
  clear hS q2 b1
  go_wp2
  exact bodyPost_ret (v := .tuple #[.slice none 0 0, .bool false]) (by simp [results, Try.results21, go_sem]) rfl ⟨rfl, b2⟩
set_option maxHeartbeats 16000000 in
theorem AS_spec (B n c : Nat) (a : Option Addr) (l : List Q.Sm) (x y z : Int) (w : World) (h : Sms B w a n l) (hB : B ≤ w.heap.size) (hv : n = 0 ∨ Q.vq l = true) :
    Calls Try.prog 21 #[.slice a n c, .agg #[.int .i64 x, .int .i64 y, .int .i64 z]] w (AdRes w (Q.al l (x, y, z))) := by
  have hln := h.1
  subst hln
  have hn8 : l.length ≤ 8 := by exact hv.elim (fun h0 => by omega) (fun h0 => (Q.vq_of h0).1.2)
  obtain ⟨X, hX⟩ : ∃ X, l ++ [(x, y, z)] = X := ⟨_, rfl⟩
  have hXl : X.length = l.length + 1 := by rw [← hX, List.length_append]; rfl
  have HX := Lib.hid hXl
  clear hXl
  have bl := (Below.refl w.heap.size w).alloc (Nat.le_refl _) (.cells #[.int .i64 x, .int .i64 y, .int .i64 z] 26)
  have hS := (h.below ((Below.refl _ _).alloc hB (.cells #[.int .i64 x, .int .i64 y, .int .i64 z] 26))).more (show B ≤ (w.alloc (.cells #[.int .i64 x, .int .i64 y, .int .i64 z] 26)).heap.size by rw [World.size_alloc]; omega)
  have sE := B3.new w x y z 26
  generalize hEe : w.heap.size = E at sE
  rcases Nat.eq_zero_or_pos l.length with h0 | h0
  · obtain rfl : l = [] := List.length_eq_zero_iff.mp h0
    have h0i : ¬ (0 : Int) < (([] : List Q.Sm).length : Int) := by decide
    clear hv h h0
    go_enter Try.func21, Try.ntmps21
    go_wp2_with fail
    refine wp_region_held_drew (S := (fun w' => w'.cell? ⟨E, 0, none⟩ = some (.int .i64 x) ∧ w'.cell? ⟨E, 1, none⟩ = some (.int .i64 y) ∧ w'.cell? ⟨E, 2, none⟩ = some (.int .i64 z))) (by kernel_rfl) (⟨sE.c0, sE.c1, sE.c2⟩) (fun hHeld => ?_)
    have sE : B3 (w.alloc (.cells #[.int .i64 x, .int .i64 y, .int .i64 z] 26)).drew E x y z := ⟨sE.c0, sE.c1, sE.c2, sE.lt⟩
    have hS : Sms (w.alloc (.cells #[.int .i64 x, .int .i64 y, .int .i64 z] 26)).drew.heap.size (w.alloc (.cells #[.int .i64 x, .int .i64 y, .int .i64 z] 26)).drew a ([] : List Q.Sm).length ([] : List Q.Sm) := hS
    have bl := bl.drew
    generalize (w.alloc (.cells #[.int .i64 x, .int .i64 y, .int .i64 z] 26)).drew = V at *
    refine wpAnyH_take (i := 1) (v := ?_) rfl (by kernel_rfl) (by kernel_rfl) (by kernel_rfl) (fun _ _ _ h => h) (Or.inl ⟨by rfl, ?_⟩) (by assumption) ?_
    rotate_left
    · intro w hSw
      (try dsimp only at hSw)
      go_simp
      all_goals with_reducible rfl
    try simp only [Act.put, List.setIfInBounds_toArray, List.set_cons_zero, List.set_cons_succ, List.getElem_toArray, List.getElem_cons_zero, List.getElem_cons_succ]
    refine wpAnyH_take (i := 3) (v := ?_) rfl (by kernel_rfl) (by kernel_rfl) (by kernel_rfl) (fun _ _ _ h => h) (Or.inl ⟨by rfl, ?_⟩) (by assumption) ?_
    rotate_left
    · intro w hSw
      (try dsimp only at hSw)
      go_simp
      all_goals with_reducible rfl
    try simp only [Act.put, List.setIfInBounds_toArray, List.set_cons_zero, List.set_cons_succ, List.getElem_toArray, List.getElem_cons_zero, List.getElem_cons_succ]
    have hG0 := bl.size
    obtain ⟨G, hG⟩ : ∃ G, V.heap.size = G := ⟨_, rfl⟩
    have hEG : E < G := hG ▸ sE.lt
    have hSG : Sms G V a ([] : List Q.Sm).length ([] : List Q.Sm) := hG ▸ hS
    rw [hG] at hG0
    refine wpAnyH_ready (rs := [0, 4]) (by kernel_rfl) (by simp) ?_
    refine AllReadyH.cons rfl (fun K hK => ?_) (AllReadyH.cons rfl (fun K hK => ?_) AllReadyH.nil)
    · go_simp
      have own0 := OwQ.made V
      have sE0 := sE.al (.cells #[] 26)
      have hS0 := hSG.below (B := G) ((Below.refl _ _).alloc (by omega) (.cells #[] 26))
      have bl0 := bl.alloc (by omega) (.cells #[] 26)
      have hs0 : (V.alloc (.cells #[] 26)).heap.size = G + 1 := by rw [World.size_alloc, hG]
      rw [hG] at own0
      refine hK.out _ _ ⟨sE0.c0, sE0.c1, sE0.c2⟩ (fun hHeld => ?_)
      clear hK K
      try simp only [Act.put, List.setIfInBounds_toArray, List.set_cons_zero, List.set_cons_succ, List.getElem_toArray, List.getElem_cons_zero, List.getElem_cons_succ]
      (try rw [hG])
      clear sE hSG bl hS
      generalize V.alloc (.cells #[] 26) = V0 at *
      refine wpAnyH_ready (rs := [2, 4]) (by kernel_rfl) (by simp) ?_
      refine AllReadyH.cons rfl (fun K hK => ?_) (AllReadyH.cons rfl (fun K hK => ?_) AllReadyH.nil)
      · refine step_q rfl _ _ (by rfl) G (by rfl) (by rfl) own0 hS0 (by simp <;> omega) (by omega) ([] : List Q.Sm) (by rfl) ?_
        intro a2 c2 w2 own2 b2 _
        have sE2 := sE0.bG b2 hEG
        have bl2 := bl0.trans (b2.mono hG0)
        have hG2 := b2.size
        refine hK.out _ _ ⟨sE2.c0, sE2.c1, sE2.c2⟩ (fun hHeld => ?_)
        clear hK K
        try simp only [Act.put, List.setIfInBounds_toArray, List.set_cons_zero, List.set_cons_succ, List.getElem_toArray, List.getElem_cons_zero, List.getElem_cons_succ]
        have own4 := own2.keep ((Below.refl _ _).alloc (Nat.le_refl _) (.cells #[.int .i64 x, .int .i64 y, .int .i64 z] 26))
        have s4 := B3.new w2 x y z 26
        have sE4 := sE2.al (.cells #[.int .i64 x, .int .i64 y, .int .i64 z] 26)
        have bl4 := bl2.alloc bl2.size (.cells #[.int .i64 x, .int .i64 y, .int .i64 z] 26)
        refine wpAnyH_ready (rs := [4]) (by kernel_rfl) (by simp) ?_
        refine AllReadyH.cons rfl (fun K hK => ?_) AllReadyH.nil
        go_simp
        skip
        refine hK.out _ _ (⟨sE4.c0, sE4.c1, sE4.c2⟩) (fun hHeld => ?_)
        clear hK K
        try simp only [Act.put, List.setIfInBounds_toArray, List.set_cons_zero, List.set_cons_succ, List.getElem_toArray, List.getElem_cons_zero, List.getElem_cons_succ]
        have hs4 : (w2.alloc (.cells #[.int .i64 x, .int .i64 y, .int .i64 z] 26)).heap.size = w2.heap.size + 1 := World.size_alloc _ _
        clear sE0 hS0 bl0 own0 b2 sE2 own2 bl2
        generalize w2.alloc (.cells #[.int .i64 x, .int .i64 y, .int .i64 z] 26) = V4 at *
        refine wpAnyH_ready (rs := [5]) (by kernel_rfl) (by simp) ?_
        refine AllReadyH.cons rfl (fun K hK => ?_) AllReadyH.nil
        refine step_q rfl _ _ (by rfl) G (by rfl) (by rfl)  own4 (Sms.one s4) (by omega) (by omega) X hX ?_
        intro a9 c9 w9 own9 b9 _
        have sE9 := sE4.bG b9 hEG
        have bl9 := bl4.trans (b9.mono hG0)
        refine hK.out _ _ ⟨sE9.c0, sE9.c1, sE9.c2⟩ (fun hHeld => ?_)
        clear hK K
        try simp only [Act.put, List.setIfInBounds_toArray, List.set_cons_zero, List.set_cons_succ, List.getElem_toArray, List.getElem_cons_zero, List.getElem_cons_succ]
        refine wpAnyH_take (i := 6) (v := ?_) rfl (by kernel_rfl) (by kernel_rfl) (by kernel_rfl) (fun _ _ _ h => h) (Or.inl ⟨by rfl, ?_⟩) (by assumption) ?_
        rotate_left
        · intro w hSw
          (try dsimp only at hSw)
          go_simp
          all_goals with_reducible rfl
        try simp only [Act.put, List.setIfInBounds_toArray, List.set_cons_zero, List.set_cons_succ, List.getElem_toArray, List.getElem_cons_zero, List.getElem_cons_succ]
        refine wpAnyH_done (by kernel_rfl) ?_ _
        clear hHeld
        have hXl := HX.out
        obtain ⟨hs9, hc9, hm9, hb9⟩ := own9.sms (by omega)
        clear own9
        by_cases h9 : 8 < X.length
        · have h9i : (8 : Int) < (X.length : Int) := by omega
          obtain ⟨g, off, rfl, hgl, _⟩ := hs9.at_ 0 (by omega)
          have hc1 : ¬ c9 = 1 := by omega
          have hx1 : (1 : Int) ≤ (X.length : Int) := by omega
          have hd := Sms.dropR hs9 1 (by omega)
          rw [show X.drop 1 = Q.al ([] : List Q.Sm) (x, y, z) by rw [Q.al_full (by omega), hX]] at hd
          have hPl : (Q.al ([] : List Q.Sm) (x, y, z)).length = X.length - 1 := hd.1
          have hgb := hb9 (by omega) _ rfl
          clear hs9 hb9 hXl
          go_wp2_with fail
          refine (vq_spec _ _ _ _ _ _ hd).mono ?_
          rintro e wf ⟨rfl, qf⟩
          have blf := bel_same bl9 qf
          have hdf := (hd.same qf).more (show w9.heap.size ≤ wf.heap.size from (qf.below (B := 0)).size)
          rcases hv : Q.vq (Q.al ([] : List Q.Sm) (x, y, z)) with _ | _
          · clear hd hdf qf
            go_wp2
            exact bodyPost_ret (v := .tuple #[.slice none 0 0, .bool false]) (by simp [results, Try.results21, go_sem]) rfl ⟨fun h => (by rw [hv] at h; cases h), fun _ => ⟨rfl, blf⟩⟩
          · clear hd qf
            go_wp2
            refine bodyPost_ret (v := .tuple #[.slice (some ⟨g, off + 3, none⟩) (X.length - 1) (c9 - 1), .bool true]) (by simp [results, Try.results21, go_sem]) rfl ⟨fun _ => ⟨some ⟨g, off + 3, none⟩, c9 - 1, (by rw [hPl]), (by rw [hPl]; exact hdf), by omega, by omega, fun _ x hx => (by injection hx with hx; subst hx; exact Nat.le_trans hG0 hgb), blf⟩, fun h => (by rw [hv] at h; cases h)⟩
        · have h9i : ¬ (8 : Int) < (X.length : Int) := by omega
          have hd := hs9
          have hP : X = Q.al ([] : List Q.Sm) (x, y, z) := by rw [Q.al_part (by omega), hX]
          clear hs9 hXl hX HX
          subst hP
          go_wp2_with fail
          refine (vq_spec _ _ _ _ _ _ hd).mono ?_
          rintro e wf ⟨rfl, qf⟩
          have blf := bel_same bl9 qf
          have hdf := (hd.same qf).more (show w9.heap.size ≤ wf.heap.size from (qf.below (B := 0)).size)
          rcases hv : Q.vq (Q.al ([] : List Q.Sm) (x, y, z)) with _ | _
          · clear hd hdf qf
            go_wp2
            exact bodyPost_ret (v := .tuple #[.slice none 0 0, .bool false]) (by simp [results, Try.results21, go_sem]) rfl ⟨fun h => (by rw [hv] at h; cases h), fun _ => ⟨rfl, blf⟩⟩
          · clear hd qf
            go_wp2
            exact bodyPost_ret (v := .tuple #[.slice a9 (Q.al ([] : List Q.Sm) (x, y, z)).length c9, .bool true]) (by simp [results, Try.results21, go_sem]) rfl ⟨fun _ => ⟨a9, c9, rfl, hdf, hc9, hm9, fun h x hx => Nat.le_trans hG0 (hb9 h x hx), blf⟩, fun h => (by rw [hv] at h; cases h)⟩
      · go_simp
        have s4 := B3.new V0 x y z 26
        have own4 := own0.keep ((Below.refl _ _).alloc (Nat.le_refl _) (.cells #[.int .i64 x, .int .i64 y, .int .i64 z] 26))
        have sE4 := sE0.al (.cells #[.int .i64 x, .int .i64 y, .int .i64 z] 26)
        have hS4 := hS0.below (B := G) ((Below.refl _ _).alloc (by omega) (.cells #[.int .i64 x, .int .i64 y, .int .i64 z] 26))
        have bl4 := bl0.alloc bl0.size (.cells #[.int .i64 x, .int .i64 y, .int .i64 z] 26)
        have hs4 : (V0.alloc (.cells #[.int .i64 x, .int .i64 y, .int .i64 z] 26)).heap.size = G + 1 + 1 := by rw [World.size_alloc, hs0]
        refine hK.out _ _ ⟨sE4.c0, sE4.c1, sE4.c2⟩ (fun hHeld => ?_)
        clear hK K
        try simp only [Act.put, List.setIfInBounds_toArray, List.set_cons_zero, List.set_cons_succ, List.getElem_toArray, List.getElem_cons_zero, List.getElem_cons_succ]
        rw [hs0] at s4
        (try rw [hs0])
        clear sE0 hS0 bl0 own0
        generalize V0.alloc (.cells #[.int .i64 x, .int .i64 y, .int .i64 z] 26) = V4 at *
        refine wpAnyH_ready (rs := [2]) (by kernel_rfl) (by simp) ?_
        refine AllReadyH.cons rfl (fun K hK => ?_) AllReadyH.nil
        refine step_q rfl _ _ (by rfl) G (by rfl) (by rfl) own4 hS4 (by simp <;> omega) (by omega) ([] : List Q.Sm) (by rfl) ?_
        intro a2 c2 w2 own2 b2 off2
        have sE2 := sE4.bG b2 hEG
        have bl2 := bl4.trans (b2.mono hG0)
        have s2 := s4.off (off2 _ (by omega) (fun x hx => by injection hx with hx; subst hx; show G ≠ G + 1; omega)) b2.size
        have hG2 := b2.size
        refine hK.out _ _ ⟨sE2.c0, sE2.c1, sE2.c2⟩ (fun hHeld => ?_)
        clear hK K
        try simp only [Act.put, List.setIfInBounds_toArray, List.set_cons_zero, List.set_cons_succ, List.getElem_toArray, List.getElem_cons_zero, List.getElem_cons_succ]
        refine wpAnyH_ready (rs := [5]) (by kernel_rfl) (by simp) ?_
        refine AllReadyH.cons rfl (fun K hK => ?_) AllReadyH.nil
        refine step_q rfl _ _ (by rfl) G (by rfl) (by rfl)  own2 (Sms.one s2) (by omega) (by omega) X hX ?_
        intro a9 c9 w9 own9 b9 _
        have sE9 := sE2.bG b9 hEG
        have bl9 := bl2.trans (b9.mono hG0)
        refine hK.out _ _ ⟨sE9.c0, sE9.c1, sE9.c2⟩ (fun hHeld => ?_)
        clear hK K
        try simp only [Act.put, List.setIfInBounds_toArray, List.set_cons_zero, List.set_cons_succ, List.getElem_toArray, List.getElem_cons_zero, List.getElem_cons_succ]
        refine wpAnyH_take (i := 6) (v := ?_) rfl (by kernel_rfl) (by kernel_rfl) (by kernel_rfl) (fun _ _ _ h => h) (Or.inl ⟨by rfl, ?_⟩) (by assumption) ?_
        rotate_left
        · intro w hSw
          (try dsimp only at hSw)
          go_simp
          all_goals with_reducible rfl
        try simp only [Act.put, List.setIfInBounds_toArray, List.set_cons_zero, List.set_cons_succ, List.getElem_toArray, List.getElem_cons_zero, List.getElem_cons_succ]
        refine wpAnyH_done (by kernel_rfl) ?_ _
        clear hHeld
        have hXl := HX.out
        obtain ⟨hs9, hc9, hm9, hb9⟩ := own9.sms (by omega)
        clear own9
        by_cases h9 : 8 < X.length
        · have h9i : (8 : Int) < (X.length : Int) := by omega
          obtain ⟨g, off, rfl, hgl, _⟩ := hs9.at_ 0 (by omega)
          have hc1 : ¬ c9 = 1 := by omega
          have hx1 : (1 : Int) ≤ (X.length : Int) := by omega
          have hd := Sms.dropR hs9 1 (by omega)
          rw [show X.drop 1 = Q.al ([] : List Q.Sm) (x, y, z) by rw [Q.al_full (by omega), hX]] at hd
          have hPl : (Q.al ([] : List Q.Sm) (x, y, z)).length = X.length - 1 := hd.1
          have hgb := hb9 (by omega) _ rfl
          clear hs9 hb9 hXl
          go_wp2_with fail
          refine (vq_spec _ _ _ _ _ _ hd).mono ?_
          rintro e wf ⟨rfl, qf⟩
          have blf := bel_same bl9 qf
          have hdf := (hd.same qf).more (show w9.heap.size ≤ wf.heap.size from (qf.below (B := 0)).size)
          rcases hv : Q.vq (Q.al ([] : List Q.Sm) (x, y, z)) with _ | _
          · clear hd hdf qf
            go_wp2
            exact bodyPost_ret (v := .tuple #[.slice none 0 0, .bool false]) (by simp [results, Try.results21, go_sem]) rfl ⟨fun h => (by rw [hv] at h; cases h), fun _ => ⟨rfl, blf⟩⟩
          · clear hd qf
            go_wp2
            refine bodyPost_ret (v := .tuple #[.slice (some ⟨g, off + 3, none⟩) (X.length - 1) (c9 - 1), .bool true]) (by simp [results, Try.results21, go_sem]) rfl ⟨fun _ => ⟨some ⟨g, off + 3, none⟩, c9 - 1, (by rw [hPl]), (by rw [hPl]; exact hdf), by omega, by omega, fun _ x hx => (by injection hx with hx; subst hx; exact Nat.le_trans hG0 hgb), blf⟩, fun h => (by rw [hv] at h; cases h)⟩
        · have h9i : ¬ (8 : Int) < (X.length : Int) := by omega
          have hd := hs9
          have hP : X = Q.al ([] : List Q.Sm) (x, y, z) := by rw [Q.al_part (by omega), hX]
          clear hs9 hXl hX HX
          subst hP
          go_wp2_with fail
          refine (vq_spec _ _ _ _ _ _ hd).mono ?_
          rintro e wf ⟨rfl, qf⟩
          have blf := bel_same bl9 qf
          have hdf := (hd.same qf).more (show w9.heap.size ≤ wf.heap.size from (qf.below (B := 0)).size)
          rcases hv : Q.vq (Q.al ([] : List Q.Sm) (x, y, z)) with _ | _
          · clear hd hdf qf
            go_wp2
            exact bodyPost_ret (v := .tuple #[.slice none 0 0, .bool false]) (by simp [results, Try.results21, go_sem]) rfl ⟨fun h => (by rw [hv] at h; cases h), fun _ => ⟨rfl, blf⟩⟩
          · clear hd qf
            go_wp2
            exact bodyPost_ret (v := .tuple #[.slice a9 (Q.al ([] : List Q.Sm) (x, y, z)).length c9, .bool true]) (by simp [results, Try.results21, go_sem]) rfl ⟨fun _ => ⟨a9, c9, rfl, hdf, hc9, hm9, fun h x hx => Nat.le_trans hG0 (hb9 h x hx), blf⟩, fun h => (by rw [hv] at h; cases h)⟩
    · go_simp
      have s4 := B3.new V x y z 26
      have sE4 := sE.al (.cells #[.int .i64 x, .int .i64 y, .int .i64 z] 26)
      have hS4 := hSG.below (B := G) ((Below.refl _ _).alloc (by omega) (.cells #[.int .i64 x, .int .i64 y, .int .i64 z] 26))
      have bl4 := bl.alloc (by omega) (.cells #[.int .i64 x, .int .i64 y, .int .i64 z] 26)
      have hs4 : (V.alloc (.cells #[.int .i64 x, .int .i64 y, .int .i64 z] 26)).heap.size = G + 1 := by rw [World.size_alloc, hG]
      rw [hG] at s4
      refine hK.out _ _ ⟨sE4.c0, sE4.c1, sE4.c2⟩ (fun hHeld => ?_)
      clear hK K
      try simp only [Act.put, List.setIfInBounds_toArray, List.set_cons_zero, List.set_cons_succ, List.getElem_toArray, List.getElem_cons_zero, List.getElem_cons_succ]
      (try rw [hG])
      clear sE hSG bl hS
      generalize V.alloc (.cells #[.int .i64 x, .int .i64 y, .int .i64 z] 26) = V4 at *
      have own0 := (OwQ.made V4).more (show G ≤ V4.heap.size by omega)
      have s0 := s4.al (.cells #[] 26)
      have sE0 := sE4.al (.cells #[] 26)
      have hS0 := hS4.below (B := G) ((Below.refl _ _).alloc (by omega) (.cells #[] 26))
      have bl0 := bl4.alloc bl4.size (.cells #[] 26)
      have hs0 : (V4.alloc (.cells #[] 26)).heap.size = G + 1 + 1 := by rw [World.size_alloc, hs4]
      refine wpAnyH_ready (rs := [0]) (by kernel_rfl) (by simp) ?_
      refine AllReadyH.cons rfl (fun K hK => ?_) AllReadyH.nil
      go_simp
      skip
      refine hK.out _ _ (⟨sE0.c0, sE0.c1, sE0.c2⟩) (fun hHeld => ?_)
      clear hK K
      try simp only [Act.put, List.setIfInBounds_toArray, List.set_cons_zero, List.set_cons_succ, List.getElem_toArray, List.getElem_cons_zero, List.getElem_cons_succ]
      rw [hs4] at own0
      (try rw [hs4])
      clear s4 sE4 hS4 bl4
      generalize V4.alloc (.cells #[] 26) = V0 at *
      refine wpAnyH_ready (rs := [2]) (by kernel_rfl) (by simp) ?_
      refine AllReadyH.cons rfl (fun K hK => ?_) AllReadyH.nil
      refine step_q rfl _ _ (by rfl) G (by rfl) (by rfl) own0 hS0 (by simp <;> omega) (by omega) ([] : List Q.Sm) (by rfl) ?_
      intro a2 c2 w2 own2 b2 off2
      have sE2 := sE0.bG b2 hEG
      have bl2 := bl0.trans (b2.mono hG0)
      have s2 := s0.off (off2 _ (by omega) (fun x hx => by injection hx with hx; subst hx; show G + 1 ≠ G; omega)) b2.size
      have hG2 := b2.size
      refine hK.out _ _ ⟨sE2.c0, sE2.c1, sE2.c2⟩ (fun hHeld => ?_)
      clear hK K
      try simp only [Act.put, List.setIfInBounds_toArray, List.set_cons_zero, List.set_cons_succ, List.getElem_toArray, List.getElem_cons_zero, List.getElem_cons_succ]
      refine wpAnyH_ready (rs := [5]) (by kernel_rfl) (by simp) ?_
      refine AllReadyH.cons rfl (fun K hK => ?_) AllReadyH.nil
      refine step_q rfl _ _ (by rfl) G (by rfl) (by rfl)  own2 (Sms.one s2) (by omega) (by omega) X hX ?_
      intro a9 c9 w9 own9 b9 _
      have sE9 := sE2.bG b9 hEG
      have bl9 := bl2.trans (b9.mono hG0)
      refine hK.out _ _ ⟨sE9.c0, sE9.c1, sE9.c2⟩ (fun hHeld => ?_)
      clear hK K
      try simp only [Act.put, List.setIfInBounds_toArray, List.set_cons_zero, List.set_cons_succ, List.getElem_toArray, List.getElem_cons_zero, List.getElem_cons_succ]
      refine wpAnyH_take (i := 6) (v := ?_) rfl (by kernel_rfl) (by kernel_rfl) (by kernel_rfl) (fun _ _ _ h => h) (Or.inl ⟨by rfl, ?_⟩) (by assumption) ?_
      rotate_left
      · intro w hSw
        (try dsimp only at hSw)
        go_simp
        all_goals with_reducible rfl
      try simp only [Act.put, List.setIfInBounds_toArray, List.set_cons_zero, List.set_cons_succ, List.getElem_toArray, List.getElem_cons_zero, List.getElem_cons_succ]
      refine wpAnyH_done (by kernel_rfl) ?_ _
      clear hHeld
      have hXl := HX.out
      obtain ⟨hs9, hc9, hm9, hb9⟩ := own9.sms (by omega)
      clear own9
      by_cases h9 : 8 < X.length
      · have h9i : (8 : Int) < (X.length : Int) := by omega
        obtain ⟨g, off, rfl, hgl, _⟩ := hs9.at_ 0 (by omega)
        have hc1 : ¬ c9 = 1 := by omega
        have hx1 : (1 : Int) ≤ (X.length : Int) := by omega
        have hd := Sms.dropR hs9 1 (by omega)
        rw [show X.drop 1 = Q.al ([] : List Q.Sm) (x, y, z) by rw [Q.al_full (by omega), hX]] at hd
        have hPl : (Q.al ([] : List Q.Sm) (x, y, z)).length = X.length - 1 := hd.1
        have hgb := hb9 (by omega) _ rfl
        clear hs9 hb9 hXl
        go_wp2_with fail
        refine (vq_spec _ _ _ _ _ _ hd).mono ?_
        rintro e wf ⟨rfl, qf⟩
        have blf := bel_same bl9 qf
        have hdf := (hd.same qf).more (show w9.heap.size ≤ wf.heap.size from (qf.below (B := 0)).size)
        rcases hv : Q.vq (Q.al ([] : List Q.Sm) (x, y, z)) with _ | _
        · clear hd hdf qf
          go_wp2
          exact bodyPost_ret (v := .tuple #[.slice none 0 0, .bool false]) (by simp [results, Try.results21, go_sem]) rfl ⟨fun h => (by rw [hv] at h; cases h), fun _ => ⟨rfl, blf⟩⟩
        · clear hd qf
          go_wp2
          refine bodyPost_ret (v := .tuple #[.slice (some ⟨g, off + 3, none⟩) (X.length - 1) (c9 - 1), .bool true]) (by simp [results, Try.results21, go_sem]) rfl ⟨fun _ => ⟨some ⟨g, off + 3, none⟩, c9 - 1, (by rw [hPl]), (by rw [hPl]; exact hdf), by omega, by omega, fun _ x hx => (by injection hx with hx; subst hx; exact Nat.le_trans hG0 hgb), blf⟩, fun h => (by rw [hv] at h; cases h)⟩
      · have h9i : ¬ (8 : Int) < (X.length : Int) := by omega
        have hd := hs9
        have hP : X = Q.al ([] : List Q.Sm) (x, y, z) := by rw [Q.al_part (by omega), hX]
        clear hs9 hXl hX HX
        subst hP
        go_wp2_with fail
        refine (vq_spec _ _ _ _ _ _ hd).mono ?_
        rintro e wf ⟨rfl, qf⟩
        have blf := bel_same bl9 qf
        have hdf := (hd.same qf).more (show w9.heap.size ≤ wf.heap.size from (qf.below (B := 0)).size)
        rcases hv : Q.vq (Q.al ([] : List Q.Sm) (x, y, z)) with _ | _
        · clear hd hdf qf
          go_wp2
          exact bodyPost_ret (v := .tuple #[.slice none 0 0, .bool false]) (by simp [results, Try.results21, go_sem]) rfl ⟨fun h => (by rw [hv] at h; cases h), fun _ => ⟨rfl, blf⟩⟩
        · clear hd qf
          go_wp2
          exact bodyPost_ret (v := .tuple #[.slice a9 (Q.al ([] : List Q.Sm) (x, y, z)).length c9, .bool true]) (by simp [results, Try.results21, go_sem]) rfl ⟨fun _ => ⟨a9, c9, rfl, hdf, hc9, hm9, fun h x hx => Nat.le_trans hG0 (hb9 h x hx), blf⟩, fun h => (by rw [hv] at h; cases h)⟩
  · have h0i : (0 : Int) < (l.length : Int) := by omega
    have hv : Q.vq l = true := hv.elim (fun h1 => by omega) id
    clear h
    go_enter Try.func21, Try.ntmps21
    go_wp2_with fail
    refine (vq_spec _ _ _ _ _ _ hS).mono ?_
    rintro e w2 ⟨rfl, q2⟩
    have bl := bel_same bl q2
    have hS := (hS.same q2).more (show (w.alloc (.cells #[.int .i64 x, .int .i64 y, .int .i64 z] 26)).heap.size ≤ w2.heap.size from (q2.below (B := 0)).size)
    have sE := sE.bS q2
    clear q2
    go_wp2_with fail
    refine wp_region_held_drew (S := (fun w' => w'.cell? ⟨E, 0, none⟩ = some (.int .i64 x) ∧ w'.cell? ⟨E, 1, none⟩ = some (.int .i64 y) ∧ w'.cell? ⟨E, 2, none⟩ = some (.int .i64 z))) (by kernel_rfl) (⟨sE.c0, sE.c1, sE.c2⟩) (fun hHeld => ?_)
    have sE : B3 w2.drew E x y z := ⟨sE.c0, sE.c1, sE.c2, sE.lt⟩
    have hS : Sms w2.drew.heap.size w2.drew a l.length l := hS
    have bl := bl.drew
    generalize w2.drew = V at *
    refine wpAnyH_take (i := 1) (v := ?_) rfl (by kernel_rfl) (by kernel_rfl) (by kernel_rfl) (fun _ _ _ h => h) (Or.inl ⟨by rfl, ?_⟩) (by assumption) ?_
    rotate_left
    · intro w hSw
      (try dsimp only at hSw)
      go_simp
      all_goals with_reducible rfl
    try simp only [Act.put, List.setIfInBounds_toArray, List.set_cons_zero, List.set_cons_succ, List.getElem_toArray, List.getElem_cons_zero, List.getElem_cons_succ]
    refine wpAnyH_take (i := 3) (v := ?_) rfl (by kernel_rfl) (by kernel_rfl) (by kernel_rfl) (fun _ _ _ h => h) (Or.inl ⟨by rfl, ?_⟩) (by assumption) ?_
    rotate_left
    · intro w hSw
      (try dsimp only at hSw)
      go_simp
      all_goals with_reducible rfl
    try simp only [Act.put, List.setIfInBounds_toArray, List.set_cons_zero, List.set_cons_succ, List.getElem_toArray, List.getElem_cons_zero, List.getElem_cons_succ]
    have hG0 := bl.size
    obtain ⟨G, hG⟩ : ∃ G, V.heap.size = G := ⟨_, rfl⟩
    have hEG : E < G := hG ▸ sE.lt
    have hSG : Sms G V a l.length l := hG ▸ hS
    rw [hG] at hG0
    refine wpAnyH_ready (rs := [0, 4]) (by kernel_rfl) (by simp) ?_
    refine AllReadyH.cons rfl (fun K hK => ?_) (AllReadyH.cons rfl (fun K hK => ?_) AllReadyH.nil)
    · go_simp
      have own0 := OwQ.made V
      have sE0 := sE.al (.cells #[] 26)
      have hS0 := hSG.below (B := G) ((Below.refl _ _).alloc (by omega) (.cells #[] 26))
      have bl0 := bl.alloc (by omega) (.cells #[] 26)
      have hs0 : (V.alloc (.cells #[] 26)).heap.size = G + 1 := by rw [World.size_alloc, hG]
      rw [hG] at own0
      refine hK.out _ _ ⟨sE0.c0, sE0.c1, sE0.c2⟩ (fun hHeld => ?_)
      clear hK K
      try simp only [Act.put, List.setIfInBounds_toArray, List.set_cons_zero, List.set_cons_succ, List.getElem_toArray, List.getElem_cons_zero, List.getElem_cons_succ]
      (try rw [hG])
      clear sE hSG bl hS
      generalize V.alloc (.cells #[] 26) = V0 at *
      refine wpAnyH_ready (rs := [2, 4]) (by kernel_rfl) (by simp) ?_
      refine AllReadyH.cons rfl (fun K hK => ?_) (AllReadyH.cons rfl (fun K hK => ?_) AllReadyH.nil)
      · refine step_q rfl _ _ (by rfl) G (by rfl) (by rfl) own0 hS0 (by simp <;> omega) (by omega) l (by rfl) ?_
        intro a2 c2 w2 own2 b2 _
        have sE2 := sE0.bG b2 hEG
        have bl2 := bl0.trans (b2.mono hG0)
        have hG2 := b2.size
        refine hK.out _ _ ⟨sE2.c0, sE2.c1, sE2.c2⟩ (fun hHeld => ?_)
        clear hK K
        try simp only [Act.put, List.setIfInBounds_toArray, List.set_cons_zero, List.set_cons_succ, List.getElem_toArray, List.getElem_cons_zero, List.getElem_cons_succ]
        have own4 := own2.keep ((Below.refl _ _).alloc (Nat.le_refl _) (.cells #[.int .i64 x, .int .i64 y, .int .i64 z] 26))
        have s4 := B3.new w2 x y z 26
        have sE4 := sE2.al (.cells #[.int .i64 x, .int .i64 y, .int .i64 z] 26)
        have bl4 := bl2.alloc bl2.size (.cells #[.int .i64 x, .int .i64 y, .int .i64 z] 26)
        refine wpAnyH_ready (rs := [4]) (by kernel_rfl) (by simp) ?_
        refine AllReadyH.cons rfl (fun K hK => ?_) AllReadyH.nil
        go_simp
        skip
        refine hK.out _ _ (⟨sE4.c0, sE4.c1, sE4.c2⟩) (fun hHeld => ?_)
        clear hK K
        try simp only [Act.put, List.setIfInBounds_toArray, List.set_cons_zero, List.set_cons_succ, List.getElem_toArray, List.getElem_cons_zero, List.getElem_cons_succ]
        have hs4 : (w2.alloc (.cells #[.int .i64 x, .int .i64 y, .int .i64 z] 26)).heap.size = w2.heap.size + 1 := World.size_alloc _ _
        clear sE0 hS0 bl0 own0 b2 sE2 own2 bl2
        generalize w2.alloc (.cells #[.int .i64 x, .int .i64 y, .int .i64 z] 26) = V4 at *
        refine wpAnyH_ready (rs := [5]) (by kernel_rfl) (by simp) ?_
        refine AllReadyH.cons rfl (fun K hK => ?_) AllReadyH.nil
        refine step_q rfl _ _ (by rfl) G (by rfl) (by rfl)  own4 (Sms.one s4) (by omega) (by omega) X hX ?_
        intro a9 c9 w9 own9 b9 _
        have sE9 := sE4.bG b9 hEG
        have bl9 := bl4.trans (b9.mono hG0)
        refine hK.out _ _ ⟨sE9.c0, sE9.c1, sE9.c2⟩ (fun hHeld => ?_)
        clear hK K
        try simp only [Act.put, List.setIfInBounds_toArray, List.set_cons_zero, List.set_cons_succ, List.getElem_toArray, List.getElem_cons_zero, List.getElem_cons_succ]
        refine wpAnyH_take (i := 6) (v := ?_) rfl (by kernel_rfl) (by kernel_rfl) (by kernel_rfl) (fun _ _ _ h => h) (Or.inl ⟨by rfl, ?_⟩) (by assumption) ?_
        rotate_left
        · intro w hSw
          (try dsimp only at hSw)
          go_simp
          all_goals with_reducible rfl
        try simp only [Act.put, List.setIfInBounds_toArray, List.set_cons_zero, List.set_cons_succ, List.getElem_toArray, List.getElem_cons_zero, List.getElem_cons_succ]
        refine wpAnyH_done (by kernel_rfl) ?_ _
        clear hHeld
        have hXl := HX.out
        obtain ⟨hs9, hc9, hm9, hb9⟩ := own9.sms (by omega)
        clear own9
        by_cases h9 : 8 < X.length
        · have h9i : (8 : Int) < (X.length : Int) := by omega
          obtain ⟨g, off, rfl, hgl, _⟩ := hs9.at_ 0 (by omega)
          have hc1 : ¬ c9 = 1 := by omega
          have hx1 : (1 : Int) ≤ (X.length : Int) := by omega
          have hd := Sms.dropR hs9 1 (by omega)
          rw [show X.drop 1 = Q.al l (x, y, z) by rw [Q.al_full (by omega), hX]] at hd
          have hPl : (Q.al l (x, y, z)).length = X.length - 1 := hd.1
          have hgb := hb9 (by omega) _ rfl
          clear hs9 hb9 hXl
          go_wp2_with fail
          refine (vq_spec _ _ _ _ _ _ hd).mono ?_
          rintro e wf ⟨rfl, qf⟩
          have blf := bel_same bl9 qf
          have hdf := (hd.same qf).more (show w9.heap.size ≤ wf.heap.size from (qf.below (B := 0)).size)
          rcases hv : Q.vq (Q.al l (x, y, z)) with _ | _
          · clear hd hdf qf
            go_wp2
            exact bodyPost_ret (v := .tuple #[.slice none 0 0, .bool false]) (by simp [results, Try.results21, go_sem]) rfl ⟨fun h => (by rw [hv] at h; cases h), fun _ => ⟨rfl, blf⟩⟩
          · clear hd qf
            go_wp2
            refine bodyPost_ret (v := .tuple #[.slice (some ⟨g, off + 3, none⟩) (X.length - 1) (c9 - 1), .bool true]) (by simp [results, Try.results21, go_sem]) rfl ⟨fun _ => ⟨some ⟨g, off + 3, none⟩, c9 - 1, (by rw [hPl]), (by rw [hPl]; exact hdf), by omega, by omega, fun _ x hx => (by injection hx with hx; subst hx; exact Nat.le_trans hG0 hgb), blf⟩, fun h => (by rw [hv] at h; cases h)⟩
        · have h9i : ¬ (8 : Int) < (X.length : Int) := by omega
          have hd := hs9
          have hP : X = Q.al l (x, y, z) := by rw [Q.al_part (by omega), hX]
          clear hs9 hXl hX HX
          subst hP
          go_wp2_with fail
          refine (vq_spec _ _ _ _ _ _ hd).mono ?_
          rintro e wf ⟨rfl, qf⟩
          have blf := bel_same bl9 qf
          have hdf := (hd.same qf).more (show w9.heap.size ≤ wf.heap.size from (qf.below (B := 0)).size)
          rcases hv : Q.vq (Q.al l (x, y, z)) with _ | _
          · clear hd hdf qf
            go_wp2
            exact bodyPost_ret (v := .tuple #[.slice none 0 0, .bool false]) (by simp [results, Try.results21, go_sem]) rfl ⟨fun h => (by rw [hv] at h; cases h), fun _ => ⟨rfl, blf⟩⟩
          · clear hd qf
            go_wp2
            exact bodyPost_ret (v := .tuple #[.slice a9 (Q.al l (x, y, z)).length c9, .bool true]) (by simp [results, Try.results21, go_sem]) rfl ⟨fun _ => ⟨a9, c9, rfl, hdf, hc9, hm9, fun h x hx => Nat.le_trans hG0 (hb9 h x hx), blf⟩, fun h => (by rw [hv] at h; cases h)⟩
      · go_simp
        have s4 := B3.new V0 x y z 26
        have own4 := own0.keep ((Below.refl _ _).alloc (Nat.le_refl _) (.cells #[.int .i64 x, .int .i64 y, .int .i64 z] 26))
        have sE4 := sE0.al (.cells #[.int .i64 x, .int .i64 y, .int .i64 z] 26)
        have hS4 := hS0.below (B := G) ((Below.refl _ _).alloc (by omega) (.cells #[.int .i64 x, .int .i64 y, .int .i64 z] 26))
        have bl4 := bl0.alloc bl0.size (.cells #[.int .i64 x, .int .i64 y, .int .i64 z] 26)
        have hs4 : (V0.alloc (.cells #[.int .i64 x, .int .i64 y, .int .i64 z] 26)).heap.size = G + 1 + 1 := by rw [World.size_alloc, hs0]
        refine hK.out _ _ ⟨sE4.c0, sE4.c1, sE4.c2⟩ (fun hHeld => ?_)
        clear hK K
        try simp only [Act.put, List.setIfInBounds_toArray, List.set_cons_zero, List.set_cons_succ, List.getElem_toArray, List.getElem_cons_zero, List.getElem_cons_succ]
        rw [hs0] at s4
        (try rw [hs0])
        clear sE0 hS0 bl0 own0
        generalize V0.alloc (.cells #[.int .i64 x, .int .i64 y, .int .i64 z] 26) = V4 at *
        refine wpAnyH_ready (rs := [2]) (by kernel_rfl) (by simp) ?_
        refine AllReadyH.cons rfl (fun K hK => ?_) AllReadyH.nil
        refine step_q rfl _ _ (by rfl) G (by rfl) (by rfl) own4 hS4 (by simp <;> omega) (by omega) l (by rfl) ?_
        intro a2 c2 w2 own2 b2 off2
        have sE2 := sE4.bG b2 hEG
        have bl2 := bl4.trans (b2.mono hG0)
        have s2 := s4.off (off2 _ (by omega) (fun x hx => by injection hx with hx; subst hx; show G ≠ G + 1; omega)) b2.size
        have hG2 := b2.size
        refine hK.out _ _ ⟨sE2.c0, sE2.c1, sE2.c2⟩ (fun hHeld => ?_)
        clear hK K
        try simp only [Act.put, List.setIfInBounds_toArray, List.set_cons_zero, List.set_cons_succ, List.getElem_toArray, List.getElem_cons_zero, List.getElem_cons_succ]
        refine wpAnyH_ready (rs := [5]) (by kernel_rfl) (by simp) ?_
        refine AllReadyH.cons rfl (fun K hK => ?_) AllReadyH.nil
        refine step_q rfl _ _ (by rfl) G (by rfl) (by rfl)  own2 (Sms.one s2) (by omega) (by omega) X hX ?_
        intro a9 c9 w9 own9 b9 _
        have sE9 := sE2.bG b9 hEG
        have bl9 := bl2.trans (b9.mono hG0)
        refine hK.out _ _ ⟨sE9.c0, sE9.c1, sE9.c2⟩ (fun hHeld => ?_)
        clear hK K
        try simp only [Act.put, List.setIfInBounds_toArray, List.set_cons_zero, List.set_cons_succ, List.getElem_toArray, List.getElem_cons_zero, List.getElem_cons_succ]
        refine wpAnyH_take (i := 6) (v := ?_) rfl (by kernel_rfl) (by kernel_rfl) (by kernel_rfl) (fun _ _ _ h => h) (Or.inl ⟨by rfl, ?_⟩) (by assumption) ?_
        rotate_left
        · intro w hSw
          (try dsimp only at hSw)
          go_simp
          all_goals with_reducible rfl
        try simp only [Act.put, List.setIfInBounds_toArray, List.set_cons_zero, List.set_cons_succ, List.getElem_toArray, List.getElem_cons_zero, List.getElem_cons_succ]
        refine wpAnyH_done (by kernel_rfl) ?_ _
        clear hHeld
        have hXl := HX.out
        obtain ⟨hs9, hc9, hm9, hb9⟩ := own9.sms (by omega)
        clear own9
        by_cases h9 : 8 < X.length
        · have h9i : (8 : Int) < (X.length : Int) := by omega
          obtain ⟨g, off, rfl, hgl, _⟩ := hs9.at_ 0 (by omega)
          have hc1 : ¬ c9 = 1 := by omega
          have hx1 : (1 : Int) ≤ (X.length : Int) := by omega
          have hd := Sms.dropR hs9 1 (by omega)
          rw [show X.drop 1 = Q.al l (x, y, z) by rw [Q.al_full (by omega), hX]] at hd
          have hPl : (Q.al l (x, y, z)).length = X.length - 1 := hd.1
          have hgb := hb9 (by omega) _ rfl
          clear hs9 hb9 hXl
          go_wp2_with fail
          refine (vq_spec _ _ _ _ _ _ hd).mono ?_
          rintro e wf ⟨rfl, qf⟩
          have blf := bel_same bl9 qf
          have hdf := (hd.same qf).more (show w9.heap.size ≤ wf.heap.size from (qf.below (B := 0)).size)
          rcases hv : Q.vq (Q.al l (x, y, z)) with _ | _
          · clear hd hdf qf
            go_wp2
            exact bodyPost_ret (v := .tuple #[.slice none 0 0, .bool false]) (by simp [results, Try.results21, go_sem]) rfl ⟨fun h => (by rw [hv] at h; cases h), fun _ => ⟨rfl, blf⟩⟩
          · clear hd qf
            go_wp2
            refine bodyPost_ret (v := .tuple #[.slice (some ⟨g, off + 3, none⟩) (X.length - 1) (c9 - 1), .bool true]) (by simp [results, Try.results21, go_sem]) rfl ⟨fun _ => ⟨some ⟨g, off + 3, none⟩, c9 - 1, (by rw [hPl]), (by rw [hPl]; exact hdf), by omega, by omega, fun _ x hx => (by injection hx with hx; subst hx; exact Nat.le_trans hG0 hgb), blf⟩, fun h => (by rw [hv] at h; cases h)⟩
        · have h9i : ¬ (8 : Int) < (X.length : Int) := by omega
          have hd := hs9
          have hP : X = Q.al l (x, y, z) := by rw [Q.al_part (by omega), hX]
          clear hs9 hXl hX HX
          subst hP
          go_wp2_with fail
          refine (vq_spec _ _ _ _ _ _ hd).mono ?_
          rintro e wf ⟨rfl, qf⟩
          have blf := bel_same bl9 qf
          have hdf := (hd.same qf).more (show w9.heap.size ≤ wf.heap.size from (qf.below (B := 0)).size)
          rcases hv : Q.vq (Q.al l (x, y, z)) with _ | _
          · clear hd hdf qf
            go_wp2
            exact bodyPost_ret (v := .tuple #[.slice none 0 0, .bool false]) (by simp [results, Try.results21, go_sem]) rfl ⟨fun h => (by rw [hv] at h; cases h), fun _ => ⟨rfl, blf⟩⟩
          · clear hd qf
            go_wp2
            exact bodyPost_ret (v := .tuple #[.slice a9 (Q.al l (x, y, z)).length c9, .bool true]) (by simp [results, Try.results21, go_sem]) rfl ⟨fun _ => ⟨a9, c9, rfl, hdf, hc9, hm9, fun h x hx => Nat.le_trans hG0 (hb9 h x hx), blf⟩, fun h => (by rw [hv] at h; cases h)⟩
    · go_simp
      have s4 := B3.new V x y z 26
      have sE4 := sE.al (.cells #[.int .i64 x, .int .i64 y, .int .i64 z] 26)
      have hS4 := hSG.below (B := G) ((Below.refl _ _).alloc (by omega) (.cells #[.int .i64 x, .int .i64 y, .int .i64 z] 26))
      have bl4 := bl.alloc (by omega) (.cells #[.int .i64 x, .int .i64 y, .int .i64 z] 26)
      have hs4 : (V.alloc (.cells #[.int .i64 x, .int .i64 y, .int .i64 z] 26)).heap.size = G + 1 := by rw [World.size_alloc, hG]
      rw [hG] at s4
      refine hK.out _ _ ⟨sE4.c0, sE4.c1, sE4.c2⟩ (fun hHeld => ?_)
      clear hK K
      try simp only [Act.put, List.setIfInBounds_toArray, List.set_cons_zero, List.set_cons_succ, List.getElem_toArray, List.getElem_cons_zero, List.getElem_cons_succ]
      (try rw [hG])
      clear sE hSG bl hS
      generalize V.alloc (.cells #[.int .i64 x, .int .i64 y, .int .i64 z] 26) = V4 at *
      have own0 := (OwQ.made V4).more (show G ≤ V4.heap.size by omega)
      have s0 := s4.al (.cells #[] 26)
      have sE0 := sE4.al (.cells #[] 26)
      have hS0 := hS4.below (B := G) ((Below.refl _ _).alloc (by omega) (.cells #[] 26))
      have bl0 := bl4.alloc bl4.size (.cells #[] 26)
      have hs0 : (V4.alloc (.cells #[] 26)).heap.size = G + 1 + 1 := by rw [World.size_alloc, hs4]
      refine wpAnyH_ready (rs := [0]) (by kernel_rfl) (by simp) ?_
      refine AllReadyH.cons rfl (fun K hK => ?_) AllReadyH.nil
      go_simp
      skip
      refine hK.out _ _ (⟨sE0.c0, sE0.c1, sE0.c2⟩) (fun hHeld => ?_)
      clear hK K
      try simp only [Act.put, List.setIfInBounds_toArray, List.set_cons_zero, List.set_cons_succ, List.getElem_toArray, List.getElem_cons_zero, List.getElem_cons_succ]
      rw [hs4] at own0
      (try rw [hs4])
      clear s4 sE4 hS4 bl4
      generalize V4.alloc (.cells #[] 26) = V0 at *
      refine wpAnyH_ready (rs := [2]) (by kernel_rfl) (by simp) ?_
      refine AllReadyH.cons rfl (fun K hK => ?_) AllReadyH.nil
      refine step_q rfl _ _ (by rfl) G (by rfl) (by rfl) own0 hS0 (by simp <;> omega) (by omega) l (by rfl) ?_
      intro a2 c2 w2 own2 b2 off2
      have sE2 := sE0.bG b2 hEG
      have bl2 := bl0.trans (b2.mono hG0)
      have s2 := s0.off (off2 _ (by omega) (fun x hx => by injection hx with hx; subst hx; show G + 1 ≠ G; omega)) b2.size
      have hG2 := b2.size
      refine hK.out _ _ ⟨sE2.c0, sE2.c1, sE2.c2⟩ (fun hHeld => ?_)
      clear hK K
      try simp only [Act.put, List.setIfInBounds_toArray, List.set_cons_zero, List.set_cons_succ, List.getElem_toArray, List.getElem_cons_zero, List.getElem_cons_succ]
      refine wpAnyH_ready (rs := [5]) (by kernel_rfl) (by simp) ?_
      refine AllReadyH.cons rfl (fun K hK => ?_) AllReadyH.nil
      refine step_q rfl _ _ (by rfl) G (by rfl) (by rfl)  own2 (Sms.one s2) (by omega) (by omega) X hX ?_
      intro a9 c9 w9 own9 b9 _
      have sE9 := sE2.bG b9 hEG
      have bl9 := bl2.trans (b9.mono hG0)
      refine hK.out _ _ ⟨sE9.c0, sE9.c1, sE9.c2⟩ (fun hHeld => ?_)
      clear hK K
      try simp only [Act.put, List.setIfInBounds_toArray, List.set_cons_zero, List.set_cons_succ, List.getElem_toArray, List.getElem_cons_zero, List.getElem_cons_succ]
      refine wpAnyH_take (i := 6) (v := ?_) rfl (by kernel_rfl) (by kernel_rfl) (by kernel_rfl) (fun _ _ _ h => h) (Or.inl ⟨by rfl, ?_⟩) (by assumption) ?_
      rotate_left
      · intro w hSw
        (try dsimp only at hSw)
        go_simp
        all_goals with_reducible rfl
      try simp only [Act.put, List.setIfInBounds_toArray, List.set_cons_zero, List.set_cons_succ, List.getElem_toArray, List.getElem_cons_zero, List.getElem_cons_succ]
      refine wpAnyH_done (by kernel_rfl) ?_ _
      clear hHeld
      have hXl := HX.out
      obtain ⟨hs9, hc9, hm9, hb9⟩ := own9.sms (by omega)
      clear own9
      by_cases h9 : 8 < X.length
      · have h9i : (8 : Int) < (X.length : Int) := by omega
        obtain ⟨g, off, rfl, hgl, _⟩ := hs9.at_ 0 (by omega)
        have hc1 : ¬ c9 = 1 := by omega
        have hx1 : (1 : Int) ≤ (X.length : Int) := by omega
        have hd := Sms.dropR hs9 1 (by omega)
        rw [show X.drop 1 = Q.al l (x, y, z) by rw [Q.al_full (by omega), hX]] at hd
        have hPl : (Q.al l (x, y, z)).length = X.length - 1 := hd.1
        have hgb := hb9 (by omega) _ rfl
        clear hs9 hb9 hXl
        go_wp2_with fail
        refine (vq_spec _ _ _ _ _ _ hd).mono ?_
        rintro e wf ⟨rfl, qf⟩
        have blf := bel_same bl9 qf
        have hdf := (hd.same qf).more (show w9.heap.size ≤ wf.heap.size from (qf.below (B := 0)).size)
        rcases hv : Q.vq (Q.al l (x, y, z)) with _ | _
        · clear hd hdf qf
          go_wp2
          exact bodyPost_ret (v := .tuple #[.slice none 0 0, .bool false]) (by simp [results, Try.results21, go_sem]) rfl ⟨fun h => (by rw [hv] at h; cases h), fun _ => ⟨rfl, blf⟩⟩
        · clear hd qf
          go_wp2
          refine bodyPost_ret (v := .tuple #[.slice (some ⟨g, off + 3, none⟩) (X.length - 1) (c9 - 1), .bool true]) (by simp [results, Try.results21, go_sem]) rfl ⟨fun _ => ⟨some ⟨g, off + 3, none⟩, c9 - 1, (by rw [hPl]), (by rw [hPl]; exact hdf), by omega, by omega, fun _ x hx => (by injection hx with hx; subst hx; exact Nat.le_trans hG0 hgb), blf⟩, fun h => (by rw [hv] at h; cases h)⟩
      · have h9i : ¬ (8 : Int) < (X.length : Int) := by omega
        have hd := hs9
        have hP : X = Q.al l (x, y, z) := by rw [Q.al_part (by omega), hX]
        clear hs9 hXl hX HX
        subst hP
        go_wp2_with fail
        refine (vq_spec _ _ _ _ _ _ hd).mono ?_
        rintro e wf ⟨rfl, qf⟩
        have blf := bel_same bl9 qf
        have hdf := (hd.same qf).more (show w9.heap.size ≤ wf.heap.size from (qf.below (B := 0)).size)
        rcases hv : Q.vq (Q.al l (x, y, z)) with _ | _
        · clear hd hdf qf
          go_wp2
          exact bodyPost_ret (v := .tuple #[.slice none 0 0, .bool false]) (by simp [results, Try.results21, go_sem]) rfl ⟨fun h => (by rw [hv] at h; cases h), fun _ => ⟨rfl, blf⟩⟩
        · clear hd qf
          go_wp2
          exact bodyPost_ret (v := .tuple #[.slice a9 (Q.al l (x, y, z)).length c9, .bool true]) (by simp [results, Try.results21, go_sem]) rfl ⟨fun _ => ⟨a9, c9, rfl, hdf, hc9, hm9, fun h x hx => Nat.le_trans hG0 (hb9 h x hx), blf⟩, fun h => (by rw [hv] at h; cases h)⟩
end Go.Proofs.Ytcbahomohlaakaa
