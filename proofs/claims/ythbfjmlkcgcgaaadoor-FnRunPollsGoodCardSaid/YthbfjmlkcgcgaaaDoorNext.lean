/-
  The next state of polls (chapter 13): the program's and the model's functions. The program's table of rules is a package's variable: what it holds is a premise (Gl).
-/
import Derived.Test.YthbfjmlkcgcgaaaDoorCopyPl
import Derived.Deep.Cut
namespace Go.Proofs.YthbfjmlkcgcgaaaDoor
open Go.RowKit
set_option linter.unusedVariables false
set_option maxRecDepth 100000
/-- The table of rules, as the program's text lays it. -/
structure Gl (w : World) : Prop where
  c0 : w.cell? ⟨0, 0, none⟩ = some (.int .i64 1)
  c1 : w.cell? ⟨0, 1, none⟩ = some (.int .i64 1)
  c2 : w.cell? ⟨0, 2, none⟩ = some (.int .i64 (-2))
  c3 : w.cell? ⟨0, 3, none⟩ = some (.int .i64 (-1))
  lt : 0 < w.heap.size
theorem Gl.b {w w' : World} (h : Gl w) (hb : Below w.heap.size w w') : Gl w' :=
  ⟨(hb.cell (p := ⟨0, 0, none⟩) h.lt).trans h.c0, (hb.cell (p := ⟨0, 1, none⟩) h.lt).trans h.c1, (hb.cell (p := ⟨0, 2, none⟩) h.lt).trans h.c2, (hb.cell (p := ⟨0, 3, none⟩) h.lt).trans h.c3, Nat.lt_of_lt_of_le h.lt hb.size⟩
theorem Gl.al {w : World} (h : Gl w) (o : Obj) : Gl (w.alloc o) := h.b ((Below.refl _ _).alloc (Nat.le_refl _) o)
theorem Gl.drew {w : World} (h : Gl w) : Gl w.drew := ⟨h.c0, h.c1, h.c2, h.c3, h.lt⟩
theorem Gl.drewN {w : World} (h : Gl w) (k : Nat) : Gl (w.drewN k) := ⟨h.c0, h.c1, h.c2, h.c3, h.lt⟩
theorem distJ_impl (x : Int) (hx : -1000000000 ≤ x ∧ x ≤ 1000000000) (w : World) : Calls Tryd.prog 39 #[.int .i64 x, .int .i64 0] w fun e w' => e = .returned (.int .i64 (K.abs x)) ∧ w = w' := by
  go_enter Tryd.func39, Tryd.ntmps39
  go_wp2
  all_goals
    go_ret
    exact ⟨ret_int (by unfold K.abs; split <;> omega), rfl⟩
theorem siz_spec.size (x : Int) (hx : -1000000000 ≤ x ∧ x ≤ 1000000000) (w : World) : Calls Tryd.prog 33 #[.int .i64 x] w fun e w' => e = .returned (.int .i64 (K.abs x)) ∧ w = w' := by
  rcases Int.lt_or_le x 0 with h | h
  · have h0 : K.abs x = -x := if_pos h
    rw [h0]
    go_enter Tryd.func33, Tryd.ntmps33
    go_wp2
    all_goals
      go_ret
      exact ⟨ret_int (by omega), rfl⟩
  · have h0 : K.abs x = x := if_neg (by omega)
    have h1 : ¬ x < 0 := by omega
    rw [h0]
    go_enter Tryd.func33, Tryd.ntmps33
    go_wp2
    all_goals
      go_ret
      exact ⟨ret_int (by omega), rfl⟩
theorem siz_laws.size (x : Int) (hx : -1000000000 ≤ x ∧ x ≤ 1000000000) (w : World) : Calls Tryd.prog 15 #[.int .i64 x] w fun e w' => e = .returned (.int .i64 (K.abs x)) ∧ w = w' := by
  rcases Int.lt_or_le x 0 with h | h
  · have h0 : K.abs x = -x := if_pos h
    rw [h0]
    go_enter Tryd.func15, Tryd.ntmps15
    go_wp2
    all_goals
      go_ret
      exact ⟨ret_int (by omega), rfl⟩
  · have h0 : K.abs x = x := if_neg (by omega)
    have h1 : ¬ x < 0 := by omega
    rw [h0]
    go_enter Tryd.func15, Tryd.ntmps15
    go_wp2
    all_goals
      go_ret
      exact ⟨ret_int (by omega), rfl⟩
theorem vj_impl (j : Int) (w : World) : Calls Tryd.prog 28 #[.int .i64 j] w fun e w' => e = .returned (.bool (inR j 0 1000000)) ∧ w = w' := by
  go_enter Tryd.func28, Tryd.ntmps28
  go_wp2_with (go_at_call 27; refine (inR_impl _ _ _ _).mono ?_; rintro e w' ⟨rfl, rfl⟩)
  go_ret
  exact ⟨rfl, rfl⟩
theorem pk_near (o j : Int) (ho : -1000000 ≤ o ∧ o ≤ 1000000) (hj : 0 ≤ j ∧ j ≤ 1000000) (h : K.abs o ≤ 4 * j) (w : World) : Calls Tryd.prog 30 #[.int .i64 o, .int .i64 j] w fun e w' => e = .returned (.int .i64 0) ∧ w = w' := by
  go_enter Tryd.func30, Tryd.ntmps30
  go_wp2_with (go_at_call 39; refine (distJ_impl _ (by omega) _).mono ?_; rintro e w' ⟨rfl, rfl⟩)
  go_ret
  exact ⟨rfl, rfl⟩
theorem pk_far (o j : Int) (ho : -1000000 ≤ o ∧ o ≤ 1000000) (hj : 0 ≤ j ∧ j ≤ 1000000) (h : ¬ K.abs o ≤ 4 * j) (w : World) : Calls Tryd.prog 30 #[.int .i64 o, .int .i64 j] w fun e w' => e = .returned (.int .i64 1) ∧ w = w' := by
  go_enter Tryd.func30, Tryd.ntmps30
  go_wp2_with (go_at_call 39; refine (distJ_impl _ (by omega) _).mono ?_; rintro e w' ⟨rfl, rfl⟩)
  go_ret
  exact ⟨rfl, rfl⟩
set_option maxHeartbeats 1000000 in
theorem af_near (p c : Int) (hv : J.Vp p c) (w : World) : Calls Tryd.prog 29 #[.agg #[.int .i64 p, .int .i64 c], .agg #[.int .i64 1, .int .i64 1]] w fun e w' => e = .returned (.agg #[.int .i64 (J.gp p c), .int .i64 (J.gc p c)]) ∧ Below w.heap.size w w' := by
  obtain ⟨h1, h2⟩ := hv
  by_cases h : 30 ≤ c + p
  · have e1 : J.gp p c = min (p + 1) 10 := if_pos h
    have e2 : J.gc p c = 0 := if_pos h
    have hlt : ¬ c + p < 30 := by omega
    rw [e1, e2]
    clear e1 e2 h
    by_cases h10 : p = 10
    · subst h10
      go_enter Tryd.func29, Tryd.ntmps29
      go_wp2
      refine bodyPost_ret (v := .agg #[.int .i64 10, .int .i64 0]) (by simp [results, Tryd.results29, go_sem]) rfl ⟨rfl, ?_⟩
      repeat (first | exact Below.refl _ _ | refine Below.setCell ?_ (by first | exact Nat.le_refl _ | (simp; done) | (simp; omega)) _ | refine Below.alloc ?_ (by first | exact Nat.le_refl _ | (simp; done) | (simp; omega)) _)
    · have hm : min (p + 1) 10 = p + 1 := by omega
      rw [hm]
      have h10' : p + 1 ≤ 10 := by omega
      clear hm h10
      go_enter Tryd.func29, Tryd.ntmps29
      go_wp2
      refine bodyPost_ret (v := .agg #[.int .i64 (p + 1), .int .i64 0]) (by simp [results, Tryd.results29, go_sem]) rfl ⟨rfl, ?_⟩
      repeat (first | exact Below.refl _ _ | refine Below.setCell ?_ (by first | exact Nat.le_refl _ | (simp; done) | (simp; omega)) _ | refine Below.alloc ?_ (by first | exact Nat.le_refl _ | (simp; done) | (simp; omega)) _)
  · have e1 : J.gp p c = p := if_neg h
    have e2 : J.gc p c = c + p := if_neg h
    have hlt : c + p < 30 := by omega
    rw [e1, e2]
    clear e1 e2 h
    go_enter Tryd.func29, Tryd.ntmps29
    go_wp2
    refine bodyPost_ret (v := .agg #[.int .i64 p, .int .i64 (c + p)]) (by simp [results, Tryd.results29, go_sem]) rfl ⟨rfl, ?_⟩
    repeat (first | exact Below.refl _ _ | refine Below.setCell ?_ (by first | exact Nat.le_refl _ | (simp; done) | (simp; omega)) _ | refine Below.alloc ?_ (by first | exact Nat.le_refl _ | (simp; done) | (simp; omega)) _)
set_option maxHeartbeats 1000000 in
theorem af_far (p c : Int) (hv : J.Vp p c) (w : World) : Calls Tryd.prog 29 #[.agg #[.int .i64 p, .int .i64 c], .agg #[.int .i64 (-2), .int .i64 (-1)]] w fun e w' => e = .returned (.agg #[.int .i64 (J.bp p c), .int .i64 (J.bc p c)]) ∧ Below w.heap.size w w' := by
  obtain ⟨h1, h2⟩ := hv
  by_cases h : c - 2 * p ≤ -30
  · have e1 : J.bp p c = max (p - 1) 4 := if_pos h
    have e2 : J.bc p c = 0 := if_pos h
    rw [e1, e2]
    clear e1 e2
    go_enter Tryd.func29, Tryd.ntmps29
    go_wp2
    · rename_i hq
      refine bodyPost_ret (v := .agg #[.int .i64 (p + -1), .int .i64 0]) (by simp [results, Tryd.results29, go_sem]) rfl ⟨by rw [show max (p - 1) 4 = p + -1 by omega], ?_⟩
      repeat (first | exact Below.refl _ _ | refine Below.setCell ?_ (by first | exact Nat.le_refl _ | (simp; done) | (simp; omega)) _ | refine Below.alloc ?_ (by first | exact Nat.le_refl _ | (simp; done) | (simp; omega)) _)
    · rename_i hq
      refine bodyPost_ret (v := .agg #[.int .i64 4, .int .i64 0]) (by simp [results, Tryd.results29, go_sem]) rfl ⟨by rw [show max (p - 1) 4 = 4 by omega], ?_⟩
      repeat (first | exact Below.refl _ _ | refine Below.setCell ?_ (by first | exact Nat.le_refl _ | (simp; done) | (simp; omega)) _ | refine Below.alloc ?_ (by first | exact Nat.le_refl _ | (simp; done) | (simp; omega)) _)
  · have e1 : J.bp p c = p := if_neg h
    have e2 : J.bc p c = c + -2 * p := by unfold J.bc; rw [if_neg h]; omega
    have hlt : -(c + -2 * p) < 30 := by omega
    rw [e1, e2]
    clear e1 e2 h
    go_enter Tryd.func29, Tryd.ntmps29
    go_wp2
    refine bodyPost_ret (v := .agg #[.int .i64 p, .int .i64 (c + -2 * p)]) (by simp [results, Tryd.results29, go_sem]) rfl ⟨rfl, ?_⟩
    repeat (first | exact Below.refl _ _ | refine Below.setCell ?_ (by first | exact Nat.le_refl _ | (simp; done) | (simp; omega)) _ | refine Below.alloc ?_ (by first | exact Nat.le_refl _ | (simp; done) | (simp; omega)) _)
/-- A state at D, a result of two zeros that may be written at E. -/
structure NB (w wr : World) (D E : Nat) (p c : Int) : Prop where
  d0 : wr.cell? ⟨D, 0, none⟩ = some (.int .i64 p)
  d1 : wr.cell? ⟨D, 1, none⟩ = some (.int .i64 c)
  e0 : wr.cell? ⟨E, 0, none⟩ = some (.int .i64 0)
  e1 : wr.cell? ⟨E, 1, none⟩ = some (.int .i64 0)
  f0 : wr.frozen? ⟨E, 0, none⟩ = false
  f1 : wr.frozen? ⟨E, 1, none⟩ = false
  ltD : D < wr.heap.size
  ltE : E < wr.heap.size
  hE : w.heap.size ≤ E
  hDE : D ≠ E
  bel : Below w.heap.size w wr
theorem NB.b {w wr w' : World} {D E : Nat} {p c : Int} (h : NB w wr D E p c) (q : Below wr.heap.size wr w') : NB w w' D E p c :=
  ⟨(q.cell (p := ⟨D, 0, none⟩) h.ltD).trans h.d0, (q.cell (p := ⟨D, 1, none⟩) h.ltD).trans h.d1, (q.cell (p := ⟨E, 0, none⟩) h.ltE).trans h.e0, (q.cell (p := ⟨E, 1, none⟩) h.ltE).trans h.e1,
    (q.frozen (p := ⟨E, 0, none⟩) h.ltE).trans h.f0, (q.frozen (p := ⟨E, 1, none⟩) h.ltE).trans h.f1, Nat.lt_of_lt_of_le h.ltD q.size, Nat.lt_of_lt_of_le h.ltE q.size, h.hE, h.hDE, h.bel.trans (q.mono h.bel.size)⟩
theorem NB.al {w wr : World} {D E : Nat} {p c : Int} (h : NB w wr D E p c) (o : Obj) : NB w (wr.alloc o) D E p c := h.b ((Below.refl _ _).alloc (Nat.le_refl _) o)
theorem NB.drew {w wr : World} {D E : Nat} {p c : Int} (h : NB w wr D E p c) : NB w wr.drew D E p c := ⟨h.d0, h.d1, h.e0, h.e1, h.f0, h.f1, h.ltD, h.ltE, h.hE, h.hDE, h.bel.drew⟩
theorem NB.new (w : World) (p c : Int) (t t' : TypeId) : NB w ((w.alloc (.cells #[.int .i64 p, .int .i64 c] t)).alloc (.cells #[.int .i64 0, .int .i64 0] t')) w.heap.size (w.heap.size + 1) p c := by
  have x := (P2.new w p c t).al (.cells #[.int .i64 0, .int .i64 0] t')
  have y := P2.new (w.alloc (.cells #[.int .i64 p, .int .i64 c] t)) 0 0 t'
  rw [World.size_alloc] at y
  exact ⟨x.c0, x.c1, y.c0, y.c1, by simp, by simp, x.lt, y.lt, by omega, by omega, ((Below.refl _ _).alloc (Nat.le_refl _) _).alloc (by simp) _⟩
theorem NB.fin {w wr : World} {D E : Nat} {p c : Int} (h : NB w wr D E p c) (u v : Value) : Below w.heap.size w ((wr.setCell ⟨E, 0, none⟩ u).setCell ⟨E, 1, none⟩ v) :=
  (h.bel.setCell (p := ⟨E, 0, none⟩) h.hE _).setCell (p := ⟨E, 1, none⟩) h.hE _
set_option maxHeartbeats 2000000 in
theorem NP_impl_no (p c o j : Int) (w : World) (hk : ¬ J.Ok p c o j) : Calls Tryd.prog 12 #[.agg #[.int .i64 p, .int .i64 c], .int .i64 o, .int .i64 j] w fun e w' => e = .returned (.tuple #[.agg #[.int .i64 0, .int .i64 0], .bool false]) ∧ Below w.heap.size w w' := by
  have N0 := NB.new w p c 24 24
  have k1 := fun w' => vp_impl.ValidPoll p c w'
  rcases hv : J.vp p c with _ | _
  · simp only [hv] at k1
    have K1 := Lib.hid k1
    clear k1 hv hk
    go_enter Tryd.func12, Tryd.ntmps12
    go_wp2_with fail
    generalize (w.alloc (.cells #[.int .i64 p, .int .i64 c] 24)).alloc (.cells #[.int .i64 0, .int .i64 0] 24) = W at N0 ⊢
    generalize w.heap.size + 1 = E at N0 ⊢
    refine (K1.out _).mono ?_
    rintro e w3 ⟨rfl, b3⟩
    obtain ⟨-, -, e0, e1, f0, f1, -, -, -, -, -⟩ := N0.b b3
    have HN := Lib.hid ((N0.b b3).fin (.int .i64 0) (.int .i64 0))
    clear N0 b3
    go_wp2
    exact bodyPost_ret (v := .tuple #[.agg #[.int .i64 0, .int .i64 0], .bool false]) (by simp [results, Tryd.results12, go_sem, e0, e1]) rfl ⟨rfl, HN.out⟩
  simp only [hv] at k1
  have K1 := Lib.hid k1
  clear k1
  rcases inR_cases o (-1000000) 1000000 with ⟨a0, a1⟩ | ⟨a0, a1⟩ <;> rcases inR_cases j 0 1000000 with ⟨b0, b1⟩ | ⟨b0, b1⟩
  · exact absurd ⟨hv, a1, b1⟩ hk
  all_goals
    clear hv hk a1 b1
    go_enter Tryd.func12, Tryd.ntmps12
    go_wp2_with fail
    generalize (w.alloc (.cells #[.int .i64 p, .int .i64 c] 24)).alloc (.cells #[.int .i64 0, .int .i64 0] 24) = W at N0 ⊢
    generalize w.heap.size + 1 = E at N0 ⊢
    refine (K1.out _).mono ?_
    rintro e w3 ⟨rfl, b3⟩
    obtain ⟨-, -, e0, e1, f0, f1, -, -, -, -, -⟩ := N0.b b3
    have HN := Lib.hid ((N0.b b3).fin (.int .i64 0) (.int .i64 0))
    clear N0 b3
    go_wp2_with (first | (go_at_call 27; refine (inR_impl _ _ _ _).mono ?_; rintro e w' ⟨rfl, rfl⟩) | (go_at_call 28; refine (vj_impl _ _).mono ?_; rintro e w' ⟨rfl, rfl⟩))
    exact bodyPost_ret (v := .tuple #[.agg #[.int .i64 0, .int .i64 0], .bool false]) (by simp [results, Tryd.results12, go_sem, e0, e1]) rfl ⟨rfl, HN.out⟩
set_option maxHeartbeats 4000000 in
theorem NP_impl_yes (p c o j : Int) (w : World) (hg : Gl w) (hk : J.Ok p c o j) : Calls Tryd.prog 12 #[.agg #[.int .i64 p, .int .i64 c], .int .i64 o, .int .i64 j] w fun e w' => e = .returned (.tuple #[.agg #[.int .i64 (J.np p c o j), .int .i64 (J.nc p c o j)], .bool true]) ∧ Below w.heap.size w w' := by
  have N0 := NB.new w p c 24 24
  obtain ⟨hv, ho, hj⟩ := hk
  have k1 := fun w' => vp_impl.ValidPoll p c w'
  simp only [hv] at k1
  have K1 := Lib.hid k1
  clear k1
  have a0 : inR o (-1000000) 1000000 = true := inR_yes ho
  have b0 : inR j 0 1000000 = true := inR_yes hj
  have hw0 : 0 < w.heap.size := hg.lt
  by_cases hn : K.abs o ≤ 4 * j
  · rw [(J.near_yes hn).1, (J.near_yes hn).2]
    have K2 := Lib.hid (fun w' => pk_near o j ho hj hn w')
    have K3 := Lib.hid (fun w' => af_near p c (J.vp_of hv) w')
    clear hv hn ho hj
    go_enter Tryd.func12, Tryd.ntmps12
    go_wp2_with fail
    generalize hW : (w.alloc (.cells #[.int .i64 p, .int .i64 c] 24)).alloc (.cells #[.int .i64 0, .int .i64 0] 24) = W at N0 ⊢
    have gW : Gl W := by rw [← hW]; exact (hg.al _).al _
    clear hW
    generalize w.heap.size + 1 = E at N0 ⊢
    refine (K1.out _).mono ?_
    rintro e w3 ⟨rfl, b3⟩
    have N3 := N0.b b3
    have g3 := gW.b b3
    clear N0 gW b3
    go_wp2_with (first | (go_at_call 27; refine (inR_impl _ _ _ _).mono ?_; rintro e w' ⟨rfl, rfl⟩) | (go_at_call 28; refine (vj_impl _ _).mono ?_; rintro e w' ⟨rfl, rfl⟩))
    have ND := N3.drew
    have gD := g3.drew
    clear N3 g3
    refine wp_region_held_drew (S := (fun w' => w'.cell? ⟨w.heap.size, 0, none⟩ = some (.int .i64 p) ∧ w'.cell? ⟨w.heap.size, 1, none⟩ = some (.int .i64 c) ∧ w'.cell? ⟨0, 0, none⟩ = some (.int .i64 1) ∧ w'.cell? ⟨0, 1, none⟩ = some (.int .i64 1))) (by kernel_rfl) (⟨ND.d0, ND.d1, gD.c0, gD.c1⟩) (fun hHeld => ?_)
    generalize w3.drew = V0 at *
    refine wpAnyH_take (i := 0) (v := ?_) rfl (by kernel_rfl) (by kernel_rfl) (by kernel_rfl) (fun _ _ _ h => h) (Or.inl ⟨by rfl, ?_⟩) (by assumption) ?_
    rotate_left
    · intro w hSw
      (try dsimp only at hSw)
      go_simp
      all_goals with_reducible rfl
    try simp only [Act.put, List.setIfInBounds_toArray, List.set_cons_zero, List.set_cons_succ, List.getElem_toArray, List.getElem_cons_zero]
    refine wpAnyH_take (i := 1) (v := ?_) rfl (by kernel_rfl) (by kernel_rfl) (by kernel_rfl) (fun _ _ _ h => h) (Or.inl ⟨by rfl, ?_⟩) (by assumption) ?_
    rotate_left
    · intro w hSw
      (try dsimp only at hSw)
      go_simp
      all_goals with_reducible rfl
    try simp only [Act.put, List.setIfInBounds_toArray, List.set_cons_zero, List.set_cons_succ, List.getElem_toArray, List.getElem_cons_zero, List.getElem_cons_succ]
    refine wpAnyH_take (i := 2) (v := ?_) rfl (by kernel_rfl) (by kernel_rfl) (by kernel_rfl) (fun _ _ _ h => h) (Or.inl ⟨by rfl, ?_⟩) (by assumption) ?_
    rotate_left
    · intro w hSw
      (try dsimp only at hSw)
      go_simp
      all_goals with_reducible rfl
    try simp only [Act.put, List.setIfInBounds_toArray, List.set_cons_zero, List.set_cons_succ, List.getElem_toArray, List.getElem_cons_zero, List.getElem_cons_succ]
    refine wpAnyH_ready (rs := [3]) (by kernel_rfl) (by simp) ?_
    refine AllReadyH.cons rfl (fun K hK => ?_) AllReadyH.nil
    go_simp
    (go_at_call 30; refine (K2.out _).mono ?_; rintro e w' ⟨rfl, rfl⟩)
    refine hK.out _ _ (⟨ND.d0, ND.d1, gD.c0, gD.c1⟩) (fun hHeld => ?_)
    clear hK K
    try simp only [Act.put, List.setIfInBounds_toArray, List.set_cons_zero, List.set_cons_succ, List.getElem_toArray, List.getElem_cons_zero, List.getElem_cons_succ]
    refine wpAnyH_take (i := 4) (v := ?_) rfl (by kernel_rfl) (by kernel_rfl) (by kernel_rfl) (fun _ _ _ h => h) (Or.inl ⟨by rfl, ?_⟩) (by assumption) ?_
    rotate_left
    · intro w hSw
      (try dsimp only at hSw)
      go_simp
      all_goals with_reducible rfl
    try simp only [Act.put, List.setIfInBounds_toArray, List.set_cons_zero, List.set_cons_succ, List.getElem_toArray, List.getElem_cons_zero, List.getElem_cons_succ]
    refine wpAnyH_take (i := 5) (v := ?_) rfl (by kernel_rfl) (by kernel_rfl) (by kernel_rfl) (fun _ _ _ h => h) (Or.inl ⟨by rfl, ?_⟩) (by assumption) ?_
    rotate_left
    · intro w hSw
      (try dsimp only at hSw)
      go_simp
      all_goals with_reducible rfl
    try simp only [Act.put, List.setIfInBounds_toArray, List.set_cons_zero, List.set_cons_succ, List.getElem_toArray, List.getElem_cons_zero, List.getElem_cons_succ]
    refine wpAnyH_ready (rs := [6]) (by kernel_rfl) (by simp) ?_
    refine AllReadyH.cons rfl (fun K hK => ?_) AllReadyH.nil
    go_simp
    (go_at_call 29; refine (K3.out _).mono ?_; rintro e w5 ⟨rfl, b5⟩)
    refine hK.out _ _ (⟨(ND.b b5).d0, (ND.b b5).d1, (gD.b b5).c0, (gD.b b5).c1⟩) (fun hHeld => ?_)
    clear hK K
    try simp only [Act.put, List.setIfInBounds_toArray, List.set_cons_zero, List.set_cons_succ, List.getElem_toArray, List.getElem_cons_zero, List.getElem_cons_succ]
    have N5 := ND.b b5
    have g5 := gD.b b5
    clear ND gD b5
    obtain ⟨d0, d1, e0, e1, f0, f1, ltD, ltE, hE, hDE, -⟩ := id N5
    have HN := Lib.hid (N5.fin (.int .i64 (J.gp p c)) (.int .i64 (J.gc p c)))
    have hsz : 0 ≠ E := by omega
    have hoth : ∀ b q, b ≠ E → ((w5.setCell ⟨E, 0, none⟩ (.int .i64 (J.gp p c))).setCell ⟨E, 1, none⟩ (.int .i64 (J.gc p c))).cell? ⟨b, q, none⟩ = w5.cell? ⟨b, q, none⟩ := fun b q hb =>
      (World.cell?_setCell_other _ _ _ _ (fun e => hb (by injection e with e; exact e.symm))).trans (World.cell?_setCell_other _ _ _ _ (fun e => hb (by injection e with e; exact e.symm)))
    refine wpAnyH_ready (rs := [7]) (by kernel_rfl) (by simp) ?_
    refine AllReadyH.cons rfl (fun K hK => ?_) AllReadyH.nil
    go_simp
    skip
    refine hK.out _ _ (⟨(hoth _ 0 hDE).trans d0, (hoth _ 1 hDE).trans d1, (hoth 0 0 hsz).trans g5.c0, (hoth 0 1 hsz).trans g5.c1⟩) (fun hHeld => ?_)
    clear hK K
    try simp only [Act.put, List.setIfInBounds_toArray, List.set_cons_zero, List.set_cons_succ, List.getElem_toArray, List.getElem_cons_zero, List.getElem_cons_succ]
    refine wpAnyH_take (i := 8) (v := ?_) rfl (by kernel_rfl) (by kernel_rfl) (by kernel_rfl) (fun _ _ _ h => h) (Or.inl ⟨by rfl, ?_⟩) (by assumption) ?_
    rotate_left
    · intro w hSw
      (try dsimp only at hSw)
      go_simp
      all_goals with_reducible rfl
    try simp only [Act.put, List.setIfInBounds_toArray, List.set_cons_zero, List.set_cons_succ, List.getElem_toArray, List.getElem_cons_zero, List.getElem_cons_succ]
    refine wpAnyH_done (by kernel_rfl) ?_ _
    clear hHeld hoth N5 g5 d0 d1
    go_wp2
    exact bodyPost_ret (v := .tuple #[.agg #[.int .i64 (J.gp p c), .int .i64 (J.gc p c)], .bool true]) (by simp [results, Tryd.results12, go_sem, e0, e1]) rfl ⟨rfl, HN.out⟩
  · rw [(J.near_no hn).1, (J.near_no hn).2]
    have K2 := Lib.hid (fun w' => pk_far o j ho hj hn w')
    have K3 := Lib.hid (fun w' => af_far p c (J.vp_of hv) w')
    clear hv hn ho hj
    go_enter Tryd.func12, Tryd.ntmps12
    go_wp2_with fail
    generalize hW : (w.alloc (.cells #[.int .i64 p, .int .i64 c] 24)).alloc (.cells #[.int .i64 0, .int .i64 0] 24) = W at N0 ⊢
    have gW : Gl W := by rw [← hW]; exact (hg.al _).al _
    clear hW
    generalize w.heap.size + 1 = E at N0 ⊢
    refine (K1.out _).mono ?_
    rintro e w3 ⟨rfl, b3⟩
    have N3 := N0.b b3
    have g3 := gW.b b3
    clear N0 gW b3
    go_wp2_with (first | (go_at_call 27; refine (inR_impl _ _ _ _).mono ?_; rintro e w' ⟨rfl, rfl⟩) | (go_at_call 28; refine (vj_impl _ _).mono ?_; rintro e w' ⟨rfl, rfl⟩))
    have ND := N3.drew
    have gD := g3.drew
    clear N3 g3
    refine wp_region_held_drew (S := (fun w' => w'.cell? ⟨w.heap.size, 0, none⟩ = some (.int .i64 p) ∧ w'.cell? ⟨w.heap.size, 1, none⟩ = some (.int .i64 c) ∧ w'.cell? ⟨0, 2, none⟩ = some (.int .i64 (-2)) ∧ w'.cell? ⟨0, 3, none⟩ = some (.int .i64 (-1)))) (by kernel_rfl) (⟨ND.d0, ND.d1, gD.c2, gD.c3⟩) (fun hHeld => ?_)
    generalize w3.drew = V0 at *
    refine wpAnyH_take (i := 0) (v := ?_) rfl (by kernel_rfl) (by kernel_rfl) (by kernel_rfl) (fun _ _ _ h => h) (Or.inl ⟨by rfl, ?_⟩) (by assumption) ?_
    rotate_left
    · intro w hSw
      (try dsimp only at hSw)
      go_simp
      all_goals with_reducible rfl
    try simp only [Act.put, List.setIfInBounds_toArray, List.set_cons_zero, List.set_cons_succ, List.getElem_toArray, List.getElem_cons_zero]
    refine wpAnyH_take (i := 1) (v := ?_) rfl (by kernel_rfl) (by kernel_rfl) (by kernel_rfl) (fun _ _ _ h => h) (Or.inl ⟨by rfl, ?_⟩) (by assumption) ?_
    rotate_left
    · intro w hSw
      (try dsimp only at hSw)
      go_simp
      all_goals with_reducible rfl
    try simp only [Act.put, List.setIfInBounds_toArray, List.set_cons_zero, List.set_cons_succ, List.getElem_toArray, List.getElem_cons_zero, List.getElem_cons_succ]
    refine wpAnyH_take (i := 2) (v := ?_) rfl (by kernel_rfl) (by kernel_rfl) (by kernel_rfl) (fun _ _ _ h => h) (Or.inl ⟨by rfl, ?_⟩) (by assumption) ?_
    rotate_left
    · intro w hSw
      (try dsimp only at hSw)
      go_simp
      all_goals with_reducible rfl
    try simp only [Act.put, List.setIfInBounds_toArray, List.set_cons_zero, List.set_cons_succ, List.getElem_toArray, List.getElem_cons_zero, List.getElem_cons_succ]
    refine wpAnyH_ready (rs := [3]) (by kernel_rfl) (by simp) ?_
    refine AllReadyH.cons rfl (fun K hK => ?_) AllReadyH.nil
    go_simp
    (go_at_call 30; refine (K2.out _).mono ?_; rintro e w' ⟨rfl, rfl⟩)
    refine hK.out _ _ (⟨ND.d0, ND.d1, gD.c2, gD.c3⟩) (fun hHeld => ?_)
    clear hK K
    try simp only [Act.put, List.setIfInBounds_toArray, List.set_cons_zero, List.set_cons_succ, List.getElem_toArray, List.getElem_cons_zero, List.getElem_cons_succ]
    refine wpAnyH_take (i := 4) (v := ?_) rfl (by kernel_rfl) (by kernel_rfl) (by kernel_rfl) (fun _ _ _ h => h) (Or.inl ⟨by rfl, ?_⟩) (by assumption) ?_
    rotate_left
    · intro w hSw
      (try dsimp only at hSw)
      go_simp
      all_goals with_reducible rfl
    try simp only [Act.put, List.setIfInBounds_toArray, List.set_cons_zero, List.set_cons_succ, List.getElem_toArray, List.getElem_cons_zero, List.getElem_cons_succ]
    refine wpAnyH_take (i := 5) (v := ?_) rfl (by kernel_rfl) (by kernel_rfl) (by kernel_rfl) (fun _ _ _ h => h) (Or.inl ⟨by rfl, ?_⟩) (by assumption) ?_
    rotate_left
    · intro w hSw
      (try dsimp only at hSw)
      go_simp
      all_goals with_reducible rfl
    try simp only [Act.put, List.setIfInBounds_toArray, List.set_cons_zero, List.set_cons_succ, List.getElem_toArray, List.getElem_cons_zero, List.getElem_cons_succ]
    refine wpAnyH_ready (rs := [6]) (by kernel_rfl) (by simp) ?_
    refine AllReadyH.cons rfl (fun K hK => ?_) AllReadyH.nil
    go_simp
    (go_at_call 29; refine (K3.out _).mono ?_; rintro e w5 ⟨rfl, b5⟩)
    refine hK.out _ _ (⟨(ND.b b5).d0, (ND.b b5).d1, (gD.b b5).c2, (gD.b b5).c3⟩) (fun hHeld => ?_)
    clear hK K
    try simp only [Act.put, List.setIfInBounds_toArray, List.set_cons_zero, List.set_cons_succ, List.getElem_toArray, List.getElem_cons_zero, List.getElem_cons_succ]
    have N5 := ND.b b5
    have g5 := gD.b b5
    clear ND gD b5
    obtain ⟨d0, d1, e0, e1, f0, f1, ltD, ltE, hE, hDE, -⟩ := id N5
    have HN := Lib.hid (N5.fin (.int .i64 (J.bp p c)) (.int .i64 (J.bc p c)))
    have hsz : 0 ≠ E := by omega
    have hoth : ∀ b q, b ≠ E → ((w5.setCell ⟨E, 0, none⟩ (.int .i64 (J.bp p c))).setCell ⟨E, 1, none⟩ (.int .i64 (J.bc p c))).cell? ⟨b, q, none⟩ = w5.cell? ⟨b, q, none⟩ := fun b q hb =>
      (World.cell?_setCell_other _ _ _ _ (fun e => hb (by injection e with e; exact e.symm))).trans (World.cell?_setCell_other _ _ _ _ (fun e => hb (by injection e with e; exact e.symm)))
    refine wpAnyH_ready (rs := [7]) (by kernel_rfl) (by simp) ?_
    refine AllReadyH.cons rfl (fun K hK => ?_) AllReadyH.nil
    go_simp
    skip
    refine hK.out _ _ (⟨(hoth _ 0 hDE).trans d0, (hoth _ 1 hDE).trans d1, (hoth 0 2 hsz).trans g5.c2, (hoth 0 3 hsz).trans g5.c3⟩) (fun hHeld => ?_)
    clear hK K
    try simp only [Act.put, List.setIfInBounds_toArray, List.set_cons_zero, List.set_cons_succ, List.getElem_toArray, List.getElem_cons_zero, List.getElem_cons_succ]
    refine wpAnyH_take (i := 8) (v := ?_) rfl (by kernel_rfl) (by kernel_rfl) (by kernel_rfl) (fun _ _ _ h => h) (Or.inl ⟨by rfl, ?_⟩) (by assumption) ?_
    rotate_left
    · intro w hSw
      (try dsimp only at hSw)
      go_simp
      all_goals with_reducible rfl
    try simp only [Act.put, List.setIfInBounds_toArray, List.set_cons_zero, List.set_cons_succ, List.getElem_toArray, List.getElem_cons_zero, List.getElem_cons_succ]
    refine wpAnyH_done (by kernel_rfl) ?_ _
    clear hHeld hoth N5 g5 d0 d1
    go_wp2
    exact bodyPost_ret (v := .tuple #[.agg #[.int .i64 (J.bp p c), .int .i64 (J.bc p c)], .bool true]) (by simp [results, Tryd.results12, go_sem, e0, e1]) rfl ⟨rfl, HN.out⟩
end Go.Proofs.YthbfjmlkcgcgaaaDoor
