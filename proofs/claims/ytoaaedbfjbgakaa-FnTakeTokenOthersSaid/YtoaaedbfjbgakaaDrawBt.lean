/-
  The generators of buckets with a client and a time (chapter 15).
-/
import Derived.Test.YtoaaedbfjbgakaaDrawBk
import Derived.Test.YtoaaedbfjbgakaaEqBk
namespace Go.Proofs.Ytoaaedbfjbgakaa
open Go.RowKit
set_option linter.unusedVariables false
set_option maxRecDepth 100000
theorem Rq.none3 {B r m : Nat} {w : World} (h : Rdr B w r m) : Rq 37 3 B w w r m w.heap.size (.slice none 0 0) 0 [] :=
  ⟨h, Far.refl _ _, Below.refl _ _, World.ownsRow_nil _ _ _ _, h.top, Nat.le_refl _⟩
theorem Sms.far' {w w' : World} {r n : Nat} {a : Option Addr} {l : List Q.Sm} (h : Sms w.heap.size w a n l) (hf : Far w r w') (hr : 0 < n → ∀ x, a = some x → r < x.block) : Sms w'.heap.size w' a n l := by
  rcases Nat.eq_zero_or_pos n with h0 | h0
  · exact ⟨h.1, h.2.1, .inl h0⟩
  · exact h.far hf (hr h0)
theorem Sms.tm_at {w : World} {n : Nat} {a : Option Addr} {l : List Q.Sm} {b off : Nat} (h : Sms w.heap.size w (some ⟨b, off, none⟩) n l) (i : Nat) (hi : i < n) : b < w.heap.size ∧ w.cell? ⟨b, off + i * 3, none⟩ = some (.int .i64 (Q.of l i)) ∧ w.cell? ⟨b, off + i * 3 + 1, none⟩ = some (.int .i64 (Q.de l i)) ∧ w.cell? ⟨b, off + i * 3 + 2, none⟩ = some (.int .i64 (Q.tm l i)) := by
  obtain ⟨b', off', e, hb, hc⟩ := h.at_ i hi
  injection e with e
  injection e with e1 e2
  subst e1 e2
  have k := hc i hi
  exact ⟨hb, by simpa [Nat.add_assoc] using k.1, by simpa [Nat.add_assoc] using k.2.1, by simpa [Nat.add_assoc] using k.2.2⟩
set_option maxHeartbeats 4000000 in
theorem DrawTokensAt_any (w : World) (a : Option Addr) (len cap : Nat) (h : Code w a len) (hcap : len ≤ cap) : Calls Try.prog 24 #[.slice a len cap] w (BkCt w) := by
  go_enter Try.func24, Try.ntmps24
  go_wp2_with fail
  refine (newReader_any w a len cap h hcap).mono ?_
  rintro e w1 ⟨rfl, bl1, rd1⟩
  go_wp2_with fail
  refine (anyBuckets_any _ _ _ _ rd1 (by omega)).mono ?_
  rintro e w2 ⟨a2, c2, l, rfl, hl, hc, hm, hS, sm, rd, bl, fr, hr⟩
  have R2 := Rq.none3 rd
  have T := Lib.hid (And.intro hl (And.intro hc hm))
  have HB := Lib.hid (bl1.trans bl)
  have HS := Lib.hid (And.intro hS hr)
  have hr2 := rd.top
  clear hS rd bl fr hc hm bl1
  go_wp2_with fail
  refine (pick_any _ _ _ _ _ R2.rdr (by omega)).mono ?_
  rintro e w3 ⟨k3, rfl, a3, b3, st3⟩
  have R3 := R2.step st3
  have c3 : k3 ≤ 12 := by omega
  clear b3 st3 R2
  go_wp2_with fail
  refine (pick_any _ _ _ _ _ R3.rdr (by omega)).mono ?_
  rintro e w4 ⟨k4, rfl, a4, b4, st4⟩
  have R4 := R3.step st4
  have c4 : k4 ≤ 60 := by omega
  clear b4 st4 R3
  by_cases h0 : l.length = 0
  · have F := Lib.hid (And.intro hl (And.intro T.out.2.1 (And.intro T.out.2.2 (And.intro (HS.out.1.far' R4.far HS.out.2) (HB.out.trans (R4.bel.mono (by have := R4.rdr.low; omega)))))))
    obtain rfl : l = [] := List.length_eq_zero_iff.mp h0
    clear hr hl sm h0 R4
    simp only [List.length_nil]
    go_wp2
    go_ret3
    exact ⟨a2, c2, [], _, _, rfl, by omega, by omega, F.out⟩
  · have hp : (0 : Int) < (l.length : Int) := by omega
    go_wp2_with fail
    refine (pick_any _ _ _ _ _ R4.rdr (by omega)).mono ?_
    rintro e w5 ⟨k5, rfl, a5, b5, st5⟩
    have R5 := R4.step st5
    clear b5 st5 R4
    by_cases h5 : 0 < k5
    · go_wp2_with fail
      refine (pick_any _ _ _ _ _ R5.rdr (by omega)).mono ?_
      rintro e w6 ⟨k6, rfl, a6, b6, st6⟩
      have R6 := R5.step st6
      obtain ⟨j, rfl⟩ := Int.eq_ofNat_of_zero_le a6
      have hj : j < l.length := by omega
      obtain ⟨b, off, rfl, hb, hcs⟩ := (HS.out.1.far' R6.far HS.out.2).at_ j hj
      obtain ⟨d0, d1, d2⟩ := hcs j hj
      obtain ⟨m0, m1, m2⟩ := sm j hj
      clear b6 st6 R5 hcs hr
      generalize Q.of l j = x at *
      generalize Q.de l j = y at *
      generalize Q.tm l j = z at *
      go_wp2_with fail
      have R7 := R6.alloc #[.int .i64 x, .int .i64 y, .int .i64 z] 37
      have e2 : (w6.alloc (.cells #[.int .i64 x, .int .i64 y, .int .i64 z] 37)).cell? ⟨w6.heap.size, 2, none⟩ = some (.int .i64 z) := by simp
      have hrD : w.heap.size < w6.heap.size := R6.rdr.top
      obtain ⟨D, hD⟩ : ∃ D, w6.heap.size = D := ⟨_, rfl⟩
      rw [hD] at e2 hrD ⊢
      clear R6 d0 d1 d2 hb
      generalize w6.alloc (.cells #[.int .i64 x, .int .i64 y, .int .i64 z] 37) = w7 at *
      clear hD
      have RV := R7.drew
      have cV : w7.drew.cell? ⟨D, 2, none⟩ = some (.int .i64 z) := e2
      have hbV : D < w7.drew.heap.size := World.block_lt_of_cell? _ _ cV
      refine wp_region_held_drew (S := (fun w' => w'.cell? ⟨D, 2, none⟩ = some (.int .i64 z))) (by kernel_rfl) (e2) (fun hHeld => ?_)
      clear R7 e2
      generalize w7.drew = V at *
      refine wpAnyH_take (i := 0) (v := ?_) rfl (by kernel_rfl) (by kernel_rfl) (by kernel_rfl) (fun _ _ _ h => h) (Or.inl ⟨by rfl, ?_⟩) (by assumption) ?_
      rotate_left
      · intro w hSw
        (try dsimp only at hSw)
        go_simp
        all_goals with_reducible rfl
      try simp only [Act.put, List.setIfInBounds_toArray, List.set_cons_zero, List.set_cons_succ, List.getElem_toArray, List.getElem_cons_zero]
      refine wpAnyH_take (i := 1) (v := ?_) rfl (by kernel_rfl) (by kernel_rfl) (by kernel_rfl) (fun _ _ _ h => h) (Or.inl ⟨by rfl, ?_⟩) (by assumption) ?_
      rotate_left
      · intro w hSw
        (try dsimp only at hSw)
        go_simp
        all_goals with_reducible rfl
      try simp only [Act.put, List.setIfInBounds_toArray, List.set_cons_zero, List.set_cons_succ, List.getElem_toArray, List.getElem_cons_zero, List.getElem_cons_succ]
      refine wpAnyH_take (i := 2) (v := ?_) rfl (by kernel_rfl) (by kernel_rfl) (by kernel_rfl) (fun _ _ _ h => h) (Or.inl ⟨by rfl, ?_⟩) (by assumption) ?_
      rotate_left
      · intro w hSw
        (try dsimp only at hSw)
        go_simp
        all_goals with_reducible rfl
      try simp only [Act.put, List.setIfInBounds_toArray, List.set_cons_zero, List.set_cons_succ, List.getElem_toArray, List.getElem_cons_zero, List.getElem_cons_succ]
      refine wpAnyH_ready (rs := [3]) (by kernel_rfl) (by simp) ?_
      refine AllReadyH.cons rfl (fun K hK => ?_) AllReadyH.nil
      go_simp
      skip
      refine hK.out _ _ (cell_alB _ cV) (fun hHeld => ?_)
      clear hK K
      try simp only [Act.put, List.setIfInBounds_toArray, List.set_cons_zero, List.set_cons_succ, List.getElem_toArray, List.getElem_cons_zero, List.getElem_cons_succ]
      refine wpAnyH_ready (rs := [4]) (by kernel_rfl) (by simp) ?_
      refine AllReadyH.cons rfl (fun K hK => ?_) AllReadyH.nil
      go_simp
      (go_at_call 46; refine (one_any _ w.heap.size _ _ _ _ (-1) 40 _ (RV.alloc _ _).rdr (by omega) (by omega) (by omega) (by have := RV.rdr.top; omega) ?_).mono ?_; (focus (exact made_cells _ _ _ _ _ _ rfl (by simp [Ints]))); rintro e w8 ⟨z8, rfl, x8, y8, bl8, rd8, fr8⟩)
      refine hK.out _ _ ((fr8.cell _ _ (by simp; omega) (by omega)).trans (cell_alB _ cV)) (fun hHeld => ?_)
      clear hK K
      try simp only [Act.put, List.setIfInBounds_toArray, List.set_cons_zero, List.set_cons_succ, List.getElem_toArray, List.getElem_cons_zero, List.getElem_cons_succ]
      have R8 := (RV.alloc _ _).next rd8 bl8 fr8
      clear RV bl8 rd8 fr8 cV hbV
      refine wpAnyH_take (i := 5) (v := ?_) rfl (by kernel_rfl) (by kernel_rfl) (by kernel_rfl) (fun _ _ _ h => h) (Or.inl ⟨by rfl, ?_⟩) (by assumption) ?_
      rotate_left
      · intro w hSw
        (try dsimp only at hSw)
        go_simp
        all_goals with_reducible rfl
      try simp only [Act.put, List.setIfInBounds_toArray, List.set_cons_zero, List.set_cons_succ, List.getElem_toArray, List.getElem_cons_zero, List.getElem_cons_succ]
      refine wpAnyH_take (i := 6) (v := ?_) rfl (by kernel_rfl) (by kernel_rfl) (by kernel_rfl) (fun _ _ _ h => h) (Or.inl ⟨by rfl, ?_⟩) (by assumption) ?_
      rotate_left
      · intro w hSw
        (try dsimp only at hSw)
        go_simp
        all_goals with_reducible rfl
      try simp only [Act.put, List.setIfInBounds_toArray, List.set_cons_zero, List.set_cons_succ, List.getElem_toArray, List.getElem_cons_zero, List.getElem_cons_succ]
      refine wpAnyH_done (by kernel_rfl) ?_ _
      have F := Lib.hid (And.intro hl (And.intro T.out.2.1 (And.intro T.out.2.2 (And.intro (HS.out.1.far' R8.far HS.out.2) (HB.out.trans (R8.bel.mono (by have := R8.rdr.low; omega)))))))
      clear R8
      have ew : IntKind.i64.wrap (z + z8) = z + z8 := IntWalk.i64_in _ (by omega)
      rw [ew]
      clear ew
      go_wp2
      go_ret3
      exact ⟨_, c2, l, _, _, rfl, by omega, by omega, F.out⟩
    · have F := Lib.hid (And.intro hl (And.intro T.out.2.1 (And.intro T.out.2.2 (And.intro (HS.out.1.far' R5.far HS.out.2) (HB.out.trans (R5.bel.mono (by have := R5.rdr.low; omega)))))))
      clear R5 hr sm
      go_wp2
      go_ret3
      exact ⟨a2, c2, l, _, _, rfl, by omega, by omega, F.out⟩
theorem DrawTakeToken_any (w : World) (a : Option Addr) (len cap : Nat) (h : Code w a len) (hcap : len ≤ cap) : Calls Try.prog 31 #[.slice a len cap] w (BkCt w) := by
  go_enter Try.func31, Try.ntmps31
  go_wp2_with fail
  refine (DrawTokensAt_any w a len cap h hcap).mono ?_
  rintro e w1 ⟨a2, c2, l, x, t, rfl, hx, ht, hF⟩
  have F := Lib.hid (And.intro hx (And.intro ht hF))
  clear hx ht hF
  go_wp2
  go_ret3
  exact ⟨a2, c2, l, x, t, rfl, F.out⟩
set_option maxHeartbeats 4000000 in
theorem DrawDropFull_any (w : World) (a : Option Addr) (len cap : Nat) (h : Code w a len) (hcap : len ≤ cap) : Calls Try.prog 33 #[.slice a len cap] w (BkT w) := by
  go_enter Try.func33, Try.ntmps33
  go_wp2_with fail
  refine (newReader_any w a len cap h hcap).mono ?_
  rintro e w1 ⟨rfl, bl1, rd1⟩
  go_wp2_with fail
  refine (anyBuckets_any _ _ _ _ rd1 (by omega)).mono ?_
  rintro e w2 ⟨a2, c2, l, rfl, hl, hc, hm, hS, sm, rd, bl, fr, hr⟩
  have R2 := Rq.none3 rd
  have T := Lib.hid (And.intro hl (And.intro hc hm))
  have HB := Lib.hid (bl1.trans bl)
  have HS := Lib.hid (And.intro hS hr)
  have hr2 := rd.top
  clear hS rd bl fr hc hm bl1
  by_cases h0 : l.length = 0
  · obtain rfl : l = [] := List.length_eq_zero_iff.mp h0
    clear hr hl sm h0
    simp only [List.length_nil]
    go_wp2_with fail
    refine (anyTime_any _ _ _ _ R2.rdr (by omega)).mono ?_
    rintro e w3 ⟨z3, rfl, x3, y3, bl3, rd3, fr3⟩
    have R3 := R2.next rd3 bl3 fr3
    have F := Lib.hid (And.intro (show ([] : List Q.Sm).length ≤ 9 by simp) (And.intro T.out.2.1 (And.intro T.out.2.2 (And.intro (HS.out.1.far' R3.far HS.out.2) (HB.out.trans (R3.bel.mono (by have := R3.rdr.low; omega)))))))
    clear R2 R3 bl3 rd3 fr3
    go_wp2
    go_ret2
    exact ⟨a2, c2, [], _, rfl, by omega, F.out⟩
  · have hp : (0 : Int) < (l.length : Int) := by omega
    go_wp2_with fail
    refine (pick_any _ _ _ _ _ R2.rdr (by omega)).mono ?_
    rintro e w3 ⟨k3, rfl, a3, b3, st3⟩
    have R3 := R2.step st3
    clear b3 st3 R2
    by_cases h3 : 0 < k3
    · obtain ⟨b, off, rfl, hb, hcs0⟩ := (HS.out.1.far' R3.far HS.out.2).at_ 0 (by omega)
      have hrb := hr (by omega) _ rfl
      have hcs : ∀ i, i < l.length → w3.cell? ⟨b, off + i * 3 + 2, none⟩ = some (.int .i64 (Q.tm l i)) := fun i hi => (hcs0 i hi).2.2
      clear hcs0
      go_wp2_with fail
      have RV := R3.drew
      have cV : ∀ i, i < l.length → w3.drew.cell? ⟨b, off + i * 3 + 2, none⟩ = some (.int .i64 (Q.tm l i)) := hcs
      have hbV : b < w3.drew.heap.size := hb
      refine wp_region_held_drew (S := (fun w' => ∀ i, i < l.length → w'.cell? ⟨b, off + i * 3 + 2, none⟩ = some (.int .i64 (Q.tm l i)))) (by kernel_rfl) (hcs) (fun hHeld => ?_)
      clear R3 hcs hb
      generalize w3.drew = V at *
      refine wpAnyH_take (i := 0) (v := ?_) rfl (by kernel_rfl) (by kernel_rfl) (by kernel_rfl) (fun _ _ _ h => h) (Or.inl ⟨by rfl, ?_⟩) (by assumption) ?_
      rotate_left
      · intro w hSw
        (try dsimp only at hSw)
        go_simp
        all_goals with_reducible rfl
      try simp only [Act.put, List.setIfInBounds_toArray, List.set_cons_zero, List.set_cons_succ, List.getElem_toArray, List.getElem_cons_zero]
      refine wpAnyH_take (i := 1) (v := ?_) rfl (by kernel_rfl) (by kernel_rfl) (by kernel_rfl) (fun _ _ _ h => h) (Or.inl ⟨by rfl, ?_⟩) (by assumption) ?_
      rotate_left
      · intro w hSw
        (try dsimp only at hSw)
        go_simp
        all_goals with_reducible rfl
      try simp only [Act.put, List.setIfInBounds_toArray, List.set_cons_zero, List.set_cons_succ, List.getElem_toArray, List.getElem_cons_zero, List.getElem_cons_succ]
      refine wpAnyH_take (i := 2) (v := ?_) rfl (by kernel_rfl) (by kernel_rfl) (by kernel_rfl) (fun _ _ _ h => h) (Or.inl ⟨by rfl, ?_⟩) (by assumption) ?_
      rotate_left
      · intro w hSw
        (try dsimp only at hSw)
        go_simp
        all_goals with_reducible rfl
      try simp only [Act.put, List.setIfInBounds_toArray, List.set_cons_zero, List.set_cons_succ, List.getElem_toArray, List.getElem_cons_zero, List.getElem_cons_succ]
      refine wpAnyH_take (i := 3) (v := ?_) rfl (by kernel_rfl) (by kernel_rfl) (by kernel_rfl) (fun _ _ _ h => h) (Or.inl ⟨by rfl, ?_⟩) (by assumption) ?_
      rotate_left
      · intro w hSw
        (try dsimp only at hSw)
        go_simp
        all_goals with_reducible rfl
      try simp only [Act.put, List.setIfInBounds_toArray, List.set_cons_zero, List.set_cons_succ, List.getElem_toArray, List.getElem_cons_zero, List.getElem_cons_succ]
      refine wpAnyH_take (i := 4) (v := ?_) rfl (by kernel_rfl) (by kernel_rfl) (by kernel_rfl) (fun _ _ _ h => h) (Or.inl ⟨by rfl, ?_⟩) (by assumption) ?_
      rotate_left
      · intro w hSw
        (try dsimp only at hSw)
        go_simp
        all_goals with_reducible rfl
      try simp only [Act.put, List.setIfInBounds_toArray, List.set_cons_zero, List.set_cons_succ, List.getElem_toArray, List.getElem_cons_zero, List.getElem_cons_succ]
      refine wpAnyH_take (i := 9) (v := ?_) rfl (by kernel_rfl) (by kernel_rfl) (by kernel_rfl) (fun _ _ _ h => h) (Or.inl ⟨by rfl, ?_⟩) (by assumption) ?_
      rotate_left
      · intro w hSw
        (try dsimp only at hSw)
        go_simp
        all_goals with_reducible rfl
      try simp only [Act.put, List.setIfInBounds_toArray, List.set_cons_zero, List.set_cons_succ, List.getElem_toArray, List.getElem_cons_zero, List.getElem_cons_succ]
      refine wpAnyH_ready (rs := [5, 10]) (by kernel_rfl) (by simp) ?_
      refine AllReadyH.cons rfl (fun K hK => ?_) (AllReadyH.cons rfl (fun K hK => ?_) AllReadyH.nil)
      · skip
        go_simp
        (go_at_call 45; refine (pick_any _ w.heap.size _ _ _ RV.rdr (by omega)).mono ?_; rintro e w6 ⟨k6, rfl, a6, b6, st6⟩; have R6 := RV.step st6; have c6 : ∀ i, i < l.length → w6.cell? ⟨b, off + i * 3 + 2, none⟩ = some (.int .i64 (Q.tm l i)) := (fun i hi => (st6.far.cell _ _ hbV (by omega)).trans (cV i hi)); have hb6 := Nat.lt_of_lt_of_le hbV st6.far.size; clear st6 RV cV hbV)
        refine hK.out _ _ (c6) (fun hHeld => ?_)
        clear hK K
        try simp only [Act.put, List.setIfInBounds_toArray, List.set_cons_zero, List.set_cons_succ, List.getElem_toArray, List.getElem_cons_zero, List.getElem_cons_succ]
        obtain ⟨j, rfl⟩ := Int.eq_ofNat_of_zero_le a6
        have hj : j < l.length := by omega
        have hj1 : (j : Int) < (l.length : Int) := by omega
        have hj0 : (0 : Int) ≤ (j : Int) := by omega
        have d6 := c6 j hj
        have m6 := (sm j hj).2.2
        refine wpAnyH_take (i := 6) (v := ?_) rfl (by kernel_rfl) (by kernel_rfl) (by kernel_rfl) (fun _ _ _ h => h) (Or.inl ⟨by rfl, ?_⟩) (by assumption) ?_
        rotate_left
        · intro w hSw
          (try dsimp only at hSw)
          go_simp
          all_goals with_reducible rfl
        try simp only [Act.put, List.setIfInBounds_toArray, List.set_cons_zero, List.set_cons_succ, List.getElem_toArray, List.getElem_cons_zero, List.getElem_cons_succ]
        refine wpAnyH_take (i := 7) (v := ?_) rfl (by kernel_rfl) (by kernel_rfl) (by kernel_rfl) (fun _ _ _ h => h) (Or.inl ⟨by rfl, ?_⟩) (by assumption) ?_
        rotate_left
        · intro w hSw
          (try dsimp only at hSw)
          go_simp
          all_goals with_reducible rfl
        try simp only [Act.put, List.setIfInBounds_toArray, List.set_cons_zero, List.set_cons_succ, List.getElem_toArray, List.getElem_cons_zero, List.getElem_cons_succ]
        refine wpAnyH_take (i := 8) (v := ?_) rfl (by kernel_rfl) (by kernel_rfl) (by kernel_rfl) (fun _ _ _ h => h) (Or.inl ⟨by rfl, ?_⟩) (by assumption) ?_
        rotate_left
        · intro w hSw
          (try dsimp only at hSw)
          go_simp
          all_goals with_reducible rfl
        try simp only [Act.put, List.setIfInBounds_toArray, List.set_cons_zero, List.set_cons_succ, List.getElem_toArray, List.getElem_cons_zero, List.getElem_cons_succ]
        have RR := R6.alloc #[.int .i64 0, .int .i64 8, .int .i64 16, .int .i64 40, .int .i64 100] 3
        have cR : ∀ i, i < l.length → _ := fun i hi => cell_alB (.cells #[.int .i64 0, .int .i64 8, .int .i64 16, .int .i64 40, .int .i64 100] 3) (c6 i hi)
        have hbR := Nat.lt_of_lt_of_le hb6 (((Below.refl w6.heap.size w6).alloc (Nat.le_refl _) (.cells #[.int .i64 0, .int .i64 8, .int .i64 16, .int .i64 40, .int .i64 100] 3)).size)
        refine wpAnyH_ready (rs := [10]) (by kernel_rfl) (by simp) ?_
        refine AllReadyH.cons rfl (fun K hK => ?_) AllReadyH.nil
        go_simp
        skip
        refine hK.out _ _ (cR) (fun hHeld => ?_)
        clear hK K
        try simp only [Act.put, List.setIfInBounds_toArray, List.set_cons_zero, List.set_cons_succ, List.getElem_toArray, List.getElem_cons_zero, List.getElem_cons_succ]
        clear R6 c6
        refine wpAnyH_ready (rs := [11]) (by kernel_rfl) (by simp) ?_
        refine AllReadyH.cons rfl (fun K hK => ?_) AllReadyH.nil
        go_simp
        (go_at_call 46; refine (one_any _ w.heap.size _ _ _ _ 0 100 _ RR.rdr (by omega) (by omega) (by omega) (by have := RR.rdr.top; omega) ?_).mono ?_; (focus (exact made_cells _ _ _ _ _ _ rfl (by simp [Ints]))); rintro e w8 ⟨z8, rfl, x8, y8, bl8, rd8, fr8⟩)
        refine hK.out _ _ ((fun i hi => (fr8.cell _ _ hbR (by omega)).trans (cR i hi))) (fun hHeld => ?_)
        clear hK K
        try simp only [Act.put, List.setIfInBounds_toArray, List.set_cons_zero, List.set_cons_succ, List.getElem_toArray, List.getElem_cons_zero, List.getElem_cons_succ]
        have R8 := RR.next rd8 bl8 fr8
        generalize Q.tm l j = y at *
        clear RR bl8 rd8 fr8 cR d6
        refine wpAnyH_take (i := 12) (v := ?_) rfl (by kernel_rfl) (by kernel_rfl) (by kernel_rfl) (fun _ _ _ h => h) (Or.inl ⟨by rfl, ?_⟩) (by assumption) ?_
        rotate_left
        · intro w hSw
          (try dsimp only at hSw)
          go_simp
          all_goals with_reducible rfl
        try simp only [Act.put, List.setIfInBounds_toArray, List.set_cons_zero, List.set_cons_succ, List.getElem_toArray, List.getElem_cons_zero, List.getElem_cons_succ]
        refine wpAnyH_take (i := 13) (v := ?_) rfl (by kernel_rfl) (by kernel_rfl) (by kernel_rfl) (fun _ _ _ h => h) (Or.inl ⟨by rfl, ?_⟩) (by assumption) ?_
        rotate_left
        · intro w hSw
          (try dsimp only at hSw)
          go_simp
          all_goals with_reducible rfl
        try simp only [Act.put, List.setIfInBounds_toArray, List.set_cons_zero, List.set_cons_succ, List.getElem_toArray, List.getElem_cons_zero, List.getElem_cons_succ]
        refine wpAnyH_take (i := 14) (v := ?_) rfl (by kernel_rfl) (by kernel_rfl) (by kernel_rfl) (fun _ _ _ h => h) (Or.inl ⟨by rfl, ?_⟩) (by assumption) ?_
        rotate_left
        · intro w hSw
          (try dsimp only at hSw)
          go_simp
          all_goals with_reducible rfl
        try simp only [Act.put, List.setIfInBounds_toArray, List.set_cons_zero, List.set_cons_succ, List.getElem_toArray, List.getElem_cons_zero, List.getElem_cons_succ]
        refine wpAnyH_done (by kernel_rfl) ?_ _
        have F := Lib.hid (And.intro hl (And.intro T.out.2.1 (And.intro T.out.2.2 (And.intro (HS.out.1.far' R8.far HS.out.2) (HB.out.trans (R8.bel.mono (by have := R8.rdr.low; omega)))))))
        clear R8
        have ew : IntKind.i64.wrap (y + z8) = y + z8 := IntWalk.i64_in _ (by omega)
        rw [ew]
        clear ew
        go_wp2
        go_ret2
        exact ⟨_, c2, l, _, rfl, by omega, F.out⟩
      · have RA := RV.alloc #[.int .i64 0, .int .i64 8, .int .i64 16, .int .i64 40, .int .i64 100] 3
        have cA : ∀ i, i < l.length → _ := fun i hi => cell_alB (.cells #[.int .i64 0, .int .i64 8, .int .i64 16, .int .i64 40, .int .i64 100] 3) (cV i hi)
        have hbA := Nat.lt_of_lt_of_le hbV (((Below.refl V.heap.size V).alloc (Nat.le_refl _) (.cells #[.int .i64 0, .int .i64 8, .int .i64 16, .int .i64 40, .int .i64 100] 3)).size)
        go_simp
        skip
        refine hK.out _ _ (cA) (fun hHeld => ?_)
        clear hK K
        try simp only [Act.put, List.setIfInBounds_toArray, List.set_cons_zero, List.set_cons_succ, List.getElem_toArray, List.getElem_cons_zero, List.getElem_cons_succ]
        have hLr : w.heap.size < V.heap.size := RV.rdr.top
        have HC := Lib.hid (made_cells V #[.int .i64 0, .int .i64 8, .int .i64 16, .int .i64 40, .int .i64 100] 3 5 0 100 rfl (by simp [Ints]))
        clear RV cV hbV
        refine wpAnyH_ready (rs := [5]) (by kernel_rfl) (by simp) ?_
        refine AllReadyH.cons rfl (fun K hK => ?_) AllReadyH.nil
        go_simp
        (go_at_call 45; refine (pick_any _ w.heap.size _ _ _ RA.rdr (by omega)).mono ?_; rintro e w6 ⟨k6, rfl, a6, b6, st6⟩; have R6 := RA.step st6; have c6 : ∀ i, i < l.length → w6.cell? ⟨b, off + i * 3 + 2, none⟩ = some (.int .i64 (Q.tm l i)) := (fun i hi => (st6.far.cell _ _ hbA (by omega)).trans (cA i hi)); have hb6 := Nat.lt_of_lt_of_le hbA st6.far.size; have HC6 : ∀ i, i < 5 → ∃ z : Int, 0 ≤ z ∧ z ≤ 100 ∧ w6.cell? ⟨V.heap.size, i, none⟩ = some (.int .i64 z) := (fun i hi => let ⟨z, h1, h2, h3⟩ := HC.out i hi; ⟨z, h1, h2, (st6.far.cell _ _ (by simp) (by omega)).trans h3⟩); clear st6 RA cA hbA HC)
        refine hK.out _ _ (c6) (fun hHeld => ?_)
        clear hK K
        try simp only [Act.put, List.setIfInBounds_toArray, List.set_cons_zero, List.set_cons_succ, List.getElem_toArray, List.getElem_cons_zero, List.getElem_cons_succ]
        obtain ⟨j, rfl⟩ := Int.eq_ofNat_of_zero_le a6
        have hj : j < l.length := by omega
        have hj1 : (j : Int) < (l.length : Int) := by omega
        have hj0 : (0 : Int) ≤ (j : Int) := by omega
        have d6 := c6 j hj
        have m6 := (sm j hj).2.2
        refine wpAnyH_take (i := 6) (v := ?_) rfl (by kernel_rfl) (by kernel_rfl) (by kernel_rfl) (fun _ _ _ h => h) (Or.inl ⟨by rfl, ?_⟩) (by assumption) ?_
        rotate_left
        · intro w hSw
          (try dsimp only at hSw)
          go_simp
          all_goals with_reducible rfl
        try simp only [Act.put, List.setIfInBounds_toArray, List.set_cons_zero, List.set_cons_succ, List.getElem_toArray, List.getElem_cons_zero, List.getElem_cons_succ]
        refine wpAnyH_take (i := 7) (v := ?_) rfl (by kernel_rfl) (by kernel_rfl) (by kernel_rfl) (fun _ _ _ h => h) (Or.inl ⟨by rfl, ?_⟩) (by assumption) ?_
        rotate_left
        · intro w hSw
          (try dsimp only at hSw)
          go_simp
          all_goals with_reducible rfl
        try simp only [Act.put, List.setIfInBounds_toArray, List.set_cons_zero, List.set_cons_succ, List.getElem_toArray, List.getElem_cons_zero, List.getElem_cons_succ]
        refine wpAnyH_take (i := 8) (v := ?_) rfl (by kernel_rfl) (by kernel_rfl) (by kernel_rfl) (fun _ _ _ h => h) (Or.inl ⟨by rfl, ?_⟩) (by assumption) ?_
        rotate_left
        · intro w hSw
          (try dsimp only at hSw)
          go_simp
          all_goals with_reducible rfl
        try simp only [Act.put, List.setIfInBounds_toArray, List.set_cons_zero, List.set_cons_succ, List.getElem_toArray, List.getElem_cons_zero, List.getElem_cons_succ]
        refine wpAnyH_ready (rs := [11]) (by kernel_rfl) (by simp) ?_
        refine AllReadyH.cons rfl (fun K hK => ?_) AllReadyH.nil
        go_simp
        (go_at_call 46; refine (one_any _ w.heap.size _ _ _ _ 0 100 _ R6.rdr (by omega) (by omega) (by omega) (by omega) HC6).mono ?_; rintro e w8 ⟨z8, rfl, x8, y8, bl8, rd8, fr8⟩)
        refine hK.out _ _ ((fun i hi => (fr8.cell _ _ hb6 (by omega)).trans (c6 i hi))) (fun hHeld => ?_)
        clear hK K
        try simp only [Act.put, List.setIfInBounds_toArray, List.set_cons_zero, List.set_cons_succ, List.getElem_toArray, List.getElem_cons_zero, List.getElem_cons_succ]
        have R8 := R6.next rd8 bl8 fr8
        generalize Q.tm l j = y at *
        clear R6 bl8 rd8 fr8 c6 d6 HC6
        refine wpAnyH_take (i := 12) (v := ?_) rfl (by kernel_rfl) (by kernel_rfl) (by kernel_rfl) (fun _ _ _ h => h) (Or.inl ⟨by rfl, ?_⟩) (by assumption) ?_
        rotate_left
        · intro w hSw
          (try dsimp only at hSw)
          go_simp
          all_goals with_reducible rfl
        try simp only [Act.put, List.setIfInBounds_toArray, List.set_cons_zero, List.set_cons_succ, List.getElem_toArray, List.getElem_cons_zero, List.getElem_cons_succ]
        refine wpAnyH_take (i := 13) (v := ?_) rfl (by kernel_rfl) (by kernel_rfl) (by kernel_rfl) (fun _ _ _ h => h) (Or.inl ⟨by rfl, ?_⟩) (by assumption) ?_
        rotate_left
        · intro w hSw
          (try dsimp only at hSw)
          go_simp
          all_goals with_reducible rfl
        try simp only [Act.put, List.setIfInBounds_toArray, List.set_cons_zero, List.set_cons_succ, List.getElem_toArray, List.getElem_cons_zero, List.getElem_cons_succ]
        refine wpAnyH_take (i := 14) (v := ?_) rfl (by kernel_rfl) (by kernel_rfl) (by kernel_rfl) (fun _ _ _ h => h) (Or.inl ⟨by rfl, ?_⟩) (by assumption) ?_
        rotate_left
        · intro w hSw
          (try dsimp only at hSw)
          go_simp
          all_goals with_reducible rfl
        try simp only [Act.put, List.setIfInBounds_toArray, List.set_cons_zero, List.set_cons_succ, List.getElem_toArray, List.getElem_cons_zero, List.getElem_cons_succ]
        refine wpAnyH_done (by kernel_rfl) ?_ _
        have F := Lib.hid (And.intro hl (And.intro T.out.2.1 (And.intro T.out.2.2 (And.intro (HS.out.1.far' R8.far HS.out.2) (HB.out.trans (R8.bel.mono (by have := R8.rdr.low; omega)))))))
        clear R8
        have ew : IntKind.i64.wrap (y + z8) = y + z8 := IntWalk.i64_in _ (by omega)
        rw [ew]
        clear ew
        go_wp2
        go_ret2
        exact ⟨_, c2, l, _, rfl, by omega, F.out⟩
    · have h3' : ¬ 0 < k3 := h3
      go_wp2_with fail
      refine (anyTime_any _ _ _ _ R3.rdr (by omega)).mono ?_
      rintro e w4 ⟨z4, rfl, x4, y4, bl4, rd4, fr4⟩
      have R4 := R3.next rd4 bl4 fr4
      have F := Lib.hid (And.intro hl (And.intro T.out.2.1 (And.intro T.out.2.2 (And.intro (HS.out.1.far' R4.far HS.out.2) (HB.out.trans (R4.bel.mono (by have := R4.rdr.low; omega)))))))
      clear R3 R4 bl4 rd4 fr4 hr sm
      go_wp2
      go_ret2
      exact ⟨a2, c2, l, _, rfl, by omega, F.out⟩
end Go.Proofs.Ytoaaedbfjbgakaa
