/-
  Polls one after the other (chapter 13): the model's function. Written by gen_runpl.py.
-/
import Derived.Test.YthbfjmlkcgcgaaaDoorRunPl
import Derived.Deep.RegionHeld3
namespace Go.Proofs.YthbfjmlkcgcgaaaDoor
open Go.RowKit
set_option linter.unusedVariables false
set_option maxRecDepth 100000
theorem Lst.cellAt {B : Nat} {w : World} {b off n : Nat} {l : List Int} (h : Lst B w (some ⟨b, off, none⟩) n l) {k : Nat} (hk : k < n) : w.cell? ⟨b, off + k, none⟩ = some (.int .i64 (L.g l k)) := by
  obtain ⟨b', off', e, -, hc⟩ := h.at_ k hk
  have e' : (⟨b, off, none⟩ : Addr) = ⟨b', off', none⟩ := Option.some.inj e
  injection e' with e1 e2
  subst e1 e2
  exact hc k hk
theorem NB.lts {w wr : World} {D E : Nat} {p c : Int} (h : NB w wr D E p c) : w.heap.size ≤ wr.heap.size ∧ wr.heap.size ≠ D ∧ wr.heap.size ≠ E := ⟨h.bel.size, by have := h.ltD; omega, by have := h.ltE; omega⟩
theorem RP.far {w X : World} {D E : Nat} {p c : Int} (h : RP w X D E p c) {N : Nat} {u v : Value} (hN : w.heap.size ≤ N) (hD : N ≠ D) (hE : N ≠ E) : RP w ((X.setCell ⟨N, 0, none⟩ u).setCell ⟨N, 1, none⟩ v) D E p c :=
  ⟨⟨(oth2 _ _ hD.symm).trans h.nb.d0, (oth2 _ _ hD.symm).trans h.nb.d1, (oth2 _ _ hE.symm).trans h.nb.e0, (oth2 _ _ hE.symm).trans h.nb.e1, by simpa using h.nb.f0, by simpa using h.nb.f1, by simpa using h.nb.ltD, by simpa using h.nb.ltE, h.nb.hE, h.nb.hDE,
    (h.nb.bel.setCell (p := ⟨N, 0, none⟩) hN _).setCell (p := ⟨N, 1, none⟩) hN _⟩, by simpa using h.g0, by simpa using h.g1, h.hD⟩
structure Zp2 (w : World) (E : Nat) : Prop where
  c0 : w.cell? ⟨E, 0, none⟩ = some (.int .i64 0)
  c1 : w.cell? ⟨E, 1, none⟩ = some (.int .i64 0)
  f0 : w.frozen? ⟨E, 0, none⟩ = false
  f1 : w.frozen? ⟨E, 1, none⟩ = false
  lt : E < w.heap.size
theorem Zp2.b {w w' : World} {E : Nat} (h : Zp2 w E) (q : Below w.heap.size w w') : Zp2 w' E := ⟨(q.cell (p := ⟨E, 0, none⟩) h.lt).trans h.c0, (q.cell (p := ⟨E, 1, none⟩) h.lt).trans h.c1, (q.frozen (p := ⟨E, 0, none⟩) h.lt).trans h.f0, (q.frozen (p := ⟨E, 1, none⟩) h.lt).trans h.f1, Nat.lt_of_lt_of_le h.lt q.size⟩
theorem Zp2.new (w : World) (t : TypeId) : Zp2 (w.alloc (.cells #[.int .i64 0, .int .i64 0] t)) w.heap.size := ⟨by simp, by simp, by simp, by simp, by simp⟩
theorem Zp2.to {X : World} {N : Nat} {u v : Value} (h : Zp2 X N) : ((X.setCell ⟨N, 0, none⟩ u).setCell ⟨N, 1, none⟩ v).cell? ⟨N, 0, none⟩ = some u ∧ ((X.setCell ⟨N, 0, none⟩ u).setCell ⟨N, 1, none⟩ v).cell? ⟨N, 1, none⟩ = some v :=
  ⟨(World.cell?_setCell_other _ _ _ _ (by simp)).trans (World.cell?_setCell_same _ _ _ h.c0), World.cell?_setCell_same _ _ _ ((World.cell?_setCell_other _ _ _ _ (by simp)).trans h.c1)⟩
/-- A run's round: its two blocks and its list. -/
structure RS (w X : World) (E : Nat) (p c : Int) (b off n : Nat) (l : List Int) (k : Nat) : Prop where
  q : RP w X w.heap.size E p c
  ls : Lst w.heap.size X (some ⟨b, off, none⟩) n l
  hk : k < n
theorem RS.all {w X : World} {E : Nat} {p c : Int} {b off n : Nat} {l : List Int} {k : Nat} (h : RS w X E p c b off n l k) : X.cell? ⟨w.heap.size, 0, none⟩ = some (.int .i64 p) ∧ X.cell? ⟨w.heap.size, 1, none⟩ = some (.int .i64 c) ∧ X.cell? ⟨b, off + k, none⟩ = some (.int .i64 (L.g l k)) :=
  ⟨h.q.nb.d0, h.q.nb.d1, h.ls.cellAt h.hk⟩
theorem RS.b {w X X' : World} {E : Nat} {p c : Int} {b off n : Nat} {l : List Int} {k : Nat} (h : RS w X E p c b off n l k) (q : Below X.heap.size X X') : RS w X' E p c b off n l k := ⟨h.q.b q, h.ls.below (q.mono h.q.nb.bel.size), h.hk⟩
theorem RS.al {w X : World} {E : Nat} {p c : Int} {b off n : Nat} {l : List Int} {k : Nat} (h : RS w X E p c b off n l k) (o : Obj) : RS w (X.alloc o) E p c b off n l k := h.b ((Below.refl _ _).alloc (Nat.le_refl _) o)
theorem RS.drew {w X : World} {E : Nat} {p c : Int} {b off n : Nat} {l : List Int} {k : Nat} (h : RS w X E p c b off n l k) : RS w X.drew E p c b off n l k := ⟨h.q.drew, h.ls, h.hk⟩
theorem RS.far {w X : World} {E : Nat} {p c : Int} {b off n : Nat} {l : List Int} {k : Nat} (h : RS w X E p c b off n l k) {N : Nat} {u v : Value} (hN : w.heap.size ≤ N) (hD : N ≠ w.heap.size) (hE : N ≠ E) : RS w ((X.setCell ⟨N, 0, none⟩ u).setCell ⟨N, 1, none⟩ v) E p c b off n l k :=
  ⟨h.q.far hN hD hE, h.ls.set2 hN, h.hk⟩
set_option maxHeartbeats 4000000 in
theorem RP_spec_no (B n cp : Nat) (a : Option Addr) (l : List Int) (s : Int × Int) (j : Int) (w : World) (h : Lst B w a n l) (hB : B ≤ w.heap.size) (hk : ¬ (J.vp s.1 s.2 = true ∧ (0 ≤ j ∧ j ≤ 1000000) ∧ n ≤ 30)) :
    Calls Tryd.prog 18 #[.agg #[.int .i64 s.1, .int .i64 s.2], .slice a n cp, .int .i64 j] w fun e w' => e = .returned (.tuple #[.agg #[.int .i64 0, .int .i64 0], .int .i64 0, .bool false]) ∧ Below w.heap.size w w' := by
  have R0 := RP.new w s.1 s.2 24 24
  have k1 := fun w' => vp_spec.validPoll s.1 s.2 w'
  have hn := h.2.1
  rcases hv : J.vp s.1 s.2 with _ | _
  · simp only [hv] at k1
    have K1 := Lib.hid k1
    clear k1 hv hk
    go_enter Tryd.func18, Tryd.ntmps18
    go_wp2_with fail
    generalize (w.alloc (.cells #[.int .i64 s.1, .int .i64 s.2] 24)).alloc (.cells #[.int .i64 0, .int .i64 0] 24) = W at R0 ⊢
    generalize w.heap.size + 1 = E at R0 ⊢
    refine (K1.out _).mono ?_
    rintro e w3 ⟨rfl, b3⟩
    obtain ⟨-, -, e0, e1, f0, f1, -, -, -, -, -⟩ := (R0.b b3).nb
    have HN := Lib.hid ((R0.b b3).nb.fin (.int .i64 0) (.int .i64 0))
    clear R0 b3
    go_wp2
    exact bodyPost_ret (v := .tuple #[.agg #[.int .i64 0, .int .i64 0], .int .i64 0, .bool false]) (by simp [results, Tryd.results18, go_sem, e0, e1]) rfl ⟨rfl, HN.out⟩
  simp only [hv] at k1
  have K1 := Lib.hid k1
  clear k1
  rcases inR_cases j 0 1000000 with ⟨b0, b1⟩ | ⟨b0, b1⟩
  · have hn30 : 30 < n := by
      rcases Nat.lt_or_ge 30 n with q | q
      · exact q
      · exact absurd ⟨hv, b1, q⟩ hk
    clear hv hk b1
    go_enter Tryd.func18, Tryd.ntmps18
    go_wp2_with fail
    generalize (w.alloc (.cells #[.int .i64 s.1, .int .i64 s.2] 24)).alloc (.cells #[.int .i64 0, .int .i64 0] 24) = W at R0 ⊢
    generalize w.heap.size + 1 = E at R0 ⊢
    refine (K1.out _).mono ?_
    rintro e w3 ⟨rfl, b3⟩
    obtain ⟨-, -, e0, e1, f0, f1, -, -, -, -, -⟩ := (R0.b b3).nb
    have HN := Lib.hid ((R0.b b3).nb.fin (.int .i64 0) (.int .i64 0))
    clear R0 b3
    go_wp2_with (go_at_call 32; refine (inR_spec _ _ _ _).mono ?_; rintro e w' ⟨rfl, rfl⟩)
    exact bodyPost_ret (v := .tuple #[.agg #[.int .i64 0, .int .i64 0], .int .i64 0, .bool false]) (by simp [results, Tryd.results18, go_sem, e0, e1]) rfl ⟨rfl, HN.out⟩
  · clear hv hk b1
    go_enter Tryd.func18, Tryd.ntmps18
    go_wp2_with fail
    generalize (w.alloc (.cells #[.int .i64 s.1, .int .i64 s.2] 24)).alloc (.cells #[.int .i64 0, .int .i64 0] 24) = W at R0 ⊢
    generalize w.heap.size + 1 = E at R0 ⊢
    refine (K1.out _).mono ?_
    rintro e w3 ⟨rfl, b3⟩
    obtain ⟨-, -, e0, e1, f0, f1, -, -, -, -, -⟩ := (R0.b b3).nb
    have HN := Lib.hid ((R0.b b3).nb.fin (.int .i64 0) (.int .i64 0))
    clear R0 b3
    go_wp2_with (go_at_call 32; refine (inR_spec _ _ _ _).mono ?_; rintro e w' ⟨rfl, rfl⟩)
    all_goals exact bodyPost_ret (v := .tuple #[.agg #[.int .i64 0, .int .i64 0], .int .i64 0, .bool false]) (by simp [results, Tryd.results18, go_sem, e0, e1]) rfl ⟨rfl, HN.out⟩
set_option maxHeartbeats 8000000 in
theorem RP_spec (B n cp : Nat) (a : Option Addr) (l : List Int) (s : Int × Int) (j : Int) (w : World) (h : Lst B w a n l) (hB : B ≤ w.heap.size) :
    Calls Tryd.prog 18 #[.agg #[.int .i64 s.1, .int .i64 s.2], .slice a n cp, .int .i64 j] w fun e w' => e = .returned (.tuple #[.agg #[.int .i64 (J.re s l j).1, .int .i64 (J.re s l j).2], .int .i64 (J.rs s l j), .bool (J.rk s l j)]) ∧ Below w.heap.size w w' := by
  obtain ⟨hl, hn, _⟩ := id h
  by_cases hk : J.vp s.1 s.2 = true ∧ (0 ≤ j ∧ j ≤ 1000000) ∧ n ≤ 30
  rotate_left
  · have hf : J.rk s l j = false := J.rk_no (fun q => hk ⟨q.1, q.2.1, by have := q.2.2.1; omega⟩)
    rw [hf, (J.re_no hf).1, (J.re_no hf).2]
    exact RP_spec_no B n cp a l s j w h hB hk
  obtain ⟨hv, hj, hn30⟩ := hk
  have HL := Lib.hid hl
  have HV := Lib.hid hv
  have k1 := fun w' => vp_spec.validPoll s.1 s.2 w'
  simp only [hv] at k1
  have K1 := Lib.hid k1
  have b0 : inR j 0 1000000 = true := inR_yes hj
  have R0 := RP.new w s.1 s.2 24 24
  have h0 := (h.more hB).below R0.nb.bel
  clear k1 hl hv h
  go_enter Tryd.func18, Tryd.ntmps18
  go_wp2_with fail
  generalize (w.alloc (.cells #[.int .i64 s.1, .int .i64 s.2] 24)).alloc (.cells #[.int .i64 0, .int .i64 0] 24) = W at R0 h0 ⊢
  generalize w.heap.size + 1 = E at R0 ⊢
  refine (K1.out _).mono ?_
  rintro e w3 ⟨rfl, b3⟩
  have R3 := R0.b b3
  have h3 := h0.below (b3.mono R0.nb.bel.size)
  clear R0 h0 b3
  go_wp2_with (go_at_call 32; refine (inR_spec _ _ _ _).mono ?_; rintro e w' ⟨rfl, rfl⟩)
  go_loopw [9, 10] (fun x i wr => ∃ k : Nat, k ≤ n ∧ i = .int .i64 k ∧ x = .int .i64 (J.rt s l j k) ∧ (∀ q, q < k → -1000000 ≤ L.g l q ∧ L.g l q ≤ 1000000) ∧ RP w wr w.heap.size E (J.rn s l j k).1 (J.rn s l j k).2 ∧ Lst w.heap.size wr a n l) (fun _ i _ => n - (intOf i).toNat)
  case atStart => exact ⟨0, Nat.zero_le _, rfl, rfl, fun q hq => absurd hq (by omega), R3, h3⟩
  case round =>
    obtain ⟨k, hk, rfl, rfl, hok, R, hS⟩ := hrel
    clear R3 h3
    have HO := Lib.hid hok
    clear hok
    have hrt := J.rt_bd (l := l) (j := j) HV.out k
    have hvk := J.rn_vp (l := l) (j := j) HV.out k
    by_cases hlt : k < n
    · obtain ⟨b, off, ha, hb, hc⟩ := hS.at_ k hlt
      clear hc
      subst ha
      have Q0 : RS w wr E _ _ b off n l k := ⟨R, hS, hlt⟩
      have d0 := R.nb.d0
      have d1 := R.nb.d1
      by_cases hin : -1000000 ≤ L.g l k ∧ L.g l k ≤ 1000000
      · have K3 := Lib.hid (fun w' => NP_spec_yes (J.rn s l j k).1 (J.rn s l j k).2 (L.g l k) j w' ⟨hvk, hin, hj⟩)
        clear R hS
        have k4 := fun w' => ps_spec (J.rn s l j k).1 (J.rn s l j k).2 w'
        simp only [J.ps_yes hvk] at k4
        have K4 := Lib.hid k4
        have hpw := J.pw_bd (J.vp_of hvk).1
        have HO2 : Hid (∀ q, q < k + 1 → -1000000 ≤ L.g l q ∧ L.g l q ≤ 1000000) := Lib.hid (fun q hq => by
          rcases Nat.lt_or_ge q k with c | c
          · exact HO.out q c
          · obtain rfl : q = k := by omega
            exact hin)
        obtain ⟨X, Y, hXY⟩ : ∃ X Y : Int, J.rn s l j (k + 1) = (X, Y) := ⟨_, _, rfl⟩
        have hX : J.np (J.rn s l j k).1 (J.rn s l j k).2 (L.g l k) j = X ∧ J.nc (J.rn s l j k).1 (J.rn s l j k).2 (L.g l k) j = Y := by
          have e : (J.np (J.rn s l j k).1 (J.rn s l j k).2 (L.g l k) j, J.nc (J.rn s l j k).1 (J.rn s l j k).2 (L.g l k) j) = (X, Y) := hXY
          simpa using e
        rw [hX.1, hX.2] at K3
        have HXY := Lib.hid hXY
        have HRT : Hid (J.rt s l j (k + 1) = J.rt s l j k + J.pw (J.rn s l j k).1) := Lib.hid rfl
        clear hX hXY k4 hin hvk
        generalize J.pw (J.rn s l j k).1 = pwk at *
        generalize hrtk : J.rt s l j k = rtk at *
        generalize hp1 : (J.rn s l j k).1 = p1 at *
        generalize hp2 : (J.rn s l j k).2 = p2 at *
        clear hrtk hp1 hp2
        go_wp2_with fail
        refine (K4.out _).mono ?_
        rintro e w4 ⟨rfl, b4⟩
        have Q4 := Q0.b b4
        clear Q0 b4 K4 d0 d1
        go_wp2_with fail
        refine wp_region_held_drew (S := (fun w' => w'.cell? ⟨w.heap.size, 0, none⟩ = some (.int .i64 p1) ∧ w'.cell? ⟨w.heap.size, 1, none⟩ = some (.int .i64 p2) ∧ w'.cell? ⟨b, off + k, none⟩ = some (.int .i64 (L.g l k)))) (by kernel_rfl) (Q4.all) (fun hHeld => ?_)
        have QD := Q4.drew
        clear Q4
        generalize w4.drew = V at *
        refine wpAnyH_take (i := 0) (v := ?_) rfl (by kernel_rfl) (by kernel_rfl) (by kernel_rfl) (fun _ _ _ h => h) (Or.inl ⟨by rfl, ?_⟩) (by assumption) ?_
        rotate_left
        · intro w hSw
          (try dsimp only at hSw)
          go_simp
          all_goals with_reducible rfl
        try simp only [Act.put, List.setIfInBounds_toArray, List.set_cons_zero, List.set_cons_succ, List.getElem_toArray, List.getElem_cons_zero]
        refine wpAnyH_take (i := 1) (v := ?_) rfl (by kernel_rfl) (by kernel_rfl) (by kernel_rfl) (fun _ _ _ h => h) (Or.inl ⟨by rfl, ?_⟩) (by assumption) ?_
        rotate_left
        · intro w hSw
          (try dsimp only at hSw)
          go_simp
          all_goals with_reducible rfl
        try simp only [Act.put, List.setIfInBounds_toArray, List.set_cons_zero, List.set_cons_succ, List.getElem_toArray, List.getElem_cons_zero, List.getElem_cons_succ]
        refine wpAnyH_take (i := 2) (v := ?_) rfl (by kernel_rfl) (by kernel_rfl) (by kernel_rfl) (fun _ _ _ h => h) (Or.inl ⟨by rfl, ?_⟩) (by assumption) ?_
        rotate_left
        · intro w hSw
          (try dsimp only at hSw)
          go_simp
          all_goals with_reducible rfl
        try simp only [Act.put, List.setIfInBounds_toArray, List.set_cons_zero, List.set_cons_succ, List.getElem_toArray, List.getElem_cons_zero, List.getElem_cons_succ]
        refine wpAnyH_take (i := 3) (v := ?_) rfl (by kernel_rfl) (by kernel_rfl) (by kernel_rfl) (fun _ _ _ h => h) (Or.inl ⟨by rfl, ?_⟩) (by assumption) ?_
        rotate_left
        · intro w hSw
          (try dsimp only at hSw)
          go_simp
          all_goals with_reducible rfl
        try simp only [Act.put, List.setIfInBounds_toArray, List.set_cons_zero, List.set_cons_succ, List.getElem_toArray, List.getElem_cons_zero, List.getElem_cons_succ]
        refine wpAnyH_take (i := 4) (v := ?_) rfl (by kernel_rfl) (by kernel_rfl) (by kernel_rfl) (fun _ _ _ h => h) (Or.inl ⟨by rfl, ?_⟩) (by assumption) ?_
        rotate_left
        · intro w hSw
          (try dsimp only at hSw)
          go_simp
          all_goals with_reducible rfl
        try simp only [Act.put, List.setIfInBounds_toArray, List.set_cons_zero, List.set_cons_succ, List.getElem_toArray, List.getElem_cons_zero, List.getElem_cons_succ]
        refine wpAnyH_take (i := 5) (v := ?_) rfl (by kernel_rfl) (by kernel_rfl) (by kernel_rfl) (fun _ _ _ h => h) (Or.inl ⟨by rfl, ?_⟩) (by assumption) ?_
        rotate_left
        · intro w hSw
          (try dsimp only at hSw)
          go_simp
          all_goals with_reducible rfl
        try simp only [Act.put, List.setIfInBounds_toArray, List.set_cons_zero, List.set_cons_succ, List.getElem_toArray, List.getElem_cons_zero, List.getElem_cons_succ]
        refine wpAnyH_ready (rs := [6, 10]) (by kernel_rfl) (by simp) ?_
        refine AllReadyH.cons rfl (fun K hK => ?_) (AllReadyH.cons rfl (fun K hK => ?_) AllReadyH.nil)
        · go_simp
          (go_at_call 13; refine (K3.out _).mono ?_; rintro e w5 ⟨rfl, b5⟩)
          have Q5 := QD.b b5
          refine hK.out _ _ Q5.all (fun hHeld => ?_)
          clear hK K QD b5
          try simp only [Act.put, List.setIfInBounds_toArray, List.set_cons_zero, List.set_cons_succ, List.getElem_toArray, List.getElem_cons_zero, List.getElem_cons_succ]
          refine wpAnyH_take (i := 7) (v := ?_) rfl (by kernel_rfl) (by kernel_rfl) (by kernel_rfl) (fun _ _ _ h => h) (Or.inl ⟨by rfl, ?_⟩) (by assumption) ?_
          rotate_left
          · intro w hSw
            (try dsimp only at hSw)
            go_simp
            all_goals with_reducible rfl
          try simp only [Act.put, List.setIfInBounds_toArray, List.set_cons_zero, List.set_cons_succ, List.getElem_toArray, List.getElem_cons_zero, List.getElem_cons_succ]
          refine wpAnyH_take (i := 8) (v := ?_) rfl (by kernel_rfl) (by kernel_rfl) (by kernel_rfl) (fun _ _ _ h => h) (Or.inl ⟨by rfl, ?_⟩) (by assumption) ?_
          rotate_left
          · intro w hSw
            (try dsimp only at hSw)
            go_simp
            all_goals with_reducible rfl
          try simp only [Act.put, List.setIfInBounds_toArray, List.set_cons_zero, List.set_cons_succ, List.getElem_toArray, List.getElem_cons_zero, List.getElem_cons_succ]
          refine wpAnyH_take (i := 9) (v := ?_) rfl (by kernel_rfl) (by kernel_rfl) (by kernel_rfl) (fun _ _ _ h => h) (Or.inl ⟨by rfl, ?_⟩) (by assumption) ?_
          rotate_left
          · intro w hSw
            (try dsimp only at hSw)
            go_simp
            all_goals with_reducible rfl
          try simp only [Act.put, List.setIfInBounds_toArray, List.set_cons_zero, List.set_cons_succ, List.getElem_toArray, List.getElem_cons_zero, List.getElem_cons_succ]
          have QX := Q5.al (.cells #[.int .i64 0, .int .i64 0] 24)
          have z5 := Zp2.new w5 24
          have hN := Q5.q.nb.lts
          refine wpAnyH_ready (rs := [10]) (by kernel_rfl) (by simp) ?_
          refine AllReadyH.cons rfl (fun K hK => ?_) AllReadyH.nil
          go_simp
          skip
          refine hK.out _ _ (QX.all) (fun hHeld => ?_)
          clear hK K
          try simp only [Act.put, List.setIfInBounds_toArray, List.set_cons_zero, List.set_cons_succ, List.getElem_toArray, List.getElem_cons_zero, List.getElem_cons_succ]
          clear Q5
          generalize w5.alloc (.cells #[.int .i64 0, .int .i64 0] 24) = X5 at *
          generalize w5.heap.size = N at *
          obtain ⟨y0, y1, y2, y3, y4⟩ := id z5
          have QV := QX.far (u := .int .i64 X) (v := .int .i64 Y) hN.1 hN.2.1 hN.2.2
          have zV := z5.to (u := .int .i64 X) (v := .int .i64 Y)
          clear QX z5
          refine wpAnyH_ready (rs := [11]) (by kernel_rfl) (by simp) ?_
          refine AllReadyH.cons rfl (fun K hK => ?_) AllReadyH.nil
          go_simp
          skip
          refine hK.out _ _ (QV.all) (fun hHeld => ?_)
          clear hK K
          try simp only [Act.put, List.setIfInBounds_toArray, List.set_cons_zero, List.set_cons_succ, List.getElem_toArray, List.getElem_cons_zero, List.getElem_cons_succ]
          clear y0 y1 y2 y3 y4
          refine wpAnyH_take (i := 12) (v := ?_) rfl (by kernel_rfl) (by kernel_rfl) (by kernel_rfl) (fun _ _ _ h => h) (Or.inl ⟨by rfl, ?_⟩) (by assumption) ?_
          rotate_left
          · intro w hSw
            (try dsimp only at hSw)
            go_simp
            all_goals with_reducible rfl
          try simp only [Act.put, List.setIfInBounds_toArray, List.set_cons_zero, List.set_cons_succ, List.getElem_toArray, List.getElem_cons_zero, List.getElem_cons_succ]
          refine wpAnyH_done (by kernel_rfl) ?_ _
          clear hHeld
          generalize (X5.setCell ⟨N, 0, none⟩ (.int .i64 (X))).setCell ⟨N, 1, none⟩ (.int .i64 (Y)) = WV at *
          obtain ⟨x0, x1⟩ := zV
          obtain ⟨R7, h7, -⟩ := QV
          have d70 := R7.nb.d0
          have d71 := R7.nb.d1
          have g70 := R7.g0
          have g71 := R7.g1
          have hne : N ≠ w.heap.size := hN.2.1
          go_wp2
          refine ⟨⟨k + 1, by omega, by rw [Int.natCast_add, Int.natCast_one], by rw [HRT.out], HO2.out, ?_, h7.set2 (Nat.le_refl _)⟩, by simp [intOf]; omega⟩
          rw [HXY.out]
          exact R7.set X Y
        · go_simp
          have QX0 := QD.al (.cells #[.int .i64 0, .int .i64 0] 24)
          have z0 := Zp2.new V 24
          have hN := QD.q.nb.lts
          refine hK.out _ _ QX0.all (fun hHeld => ?_)
          clear hK K QD
          try simp only [Act.put, List.setIfInBounds_toArray, List.set_cons_zero, List.set_cons_succ, List.getElem_toArray, List.getElem_cons_zero, List.getElem_cons_succ]
          generalize V.alloc (.cells #[.int .i64 0, .int .i64 0] 24) = V5 at *
          generalize V.heap.size = N at *
          refine wpAnyH_ready (rs := [6]) (by kernel_rfl) (by simp) ?_
          refine AllReadyH.cons rfl (fun K hK => ?_) AllReadyH.nil
          go_simp
          (go_at_call 13; refine (K3.out _).mono ?_; rintro e X5 ⟨rfl, b5⟩)
          have QX := QX0.b b5
          have z5 := z0.b b5
          refine hK.out _ _ QX.all (fun hHeld => ?_)
          clear hK K QX0 z0 b5
          try simp only [Act.put, List.setIfInBounds_toArray, List.set_cons_zero, List.set_cons_succ, List.getElem_toArray, List.getElem_cons_zero, List.getElem_cons_succ]
          refine wpAnyH_take (i := 7) (v := ?_) rfl (by kernel_rfl) (by kernel_rfl) (by kernel_rfl) (fun _ _ _ h => h) (Or.inl ⟨by rfl, ?_⟩) (by assumption) ?_
          rotate_left
          · intro w hSw
            (try dsimp only at hSw)
            go_simp
            all_goals with_reducible rfl
          try simp only [Act.put, List.setIfInBounds_toArray, List.set_cons_zero, List.set_cons_succ, List.getElem_toArray, List.getElem_cons_zero, List.getElem_cons_succ]
          refine wpAnyH_take (i := 8) (v := ?_) rfl (by kernel_rfl) (by kernel_rfl) (by kernel_rfl) (fun _ _ _ h => h) (Or.inl ⟨by rfl, ?_⟩) (by assumption) ?_
          rotate_left
          · intro w hSw
            (try dsimp only at hSw)
            go_simp
            all_goals with_reducible rfl
          try simp only [Act.put, List.setIfInBounds_toArray, List.set_cons_zero, List.set_cons_succ, List.getElem_toArray, List.getElem_cons_zero, List.getElem_cons_succ]
          refine wpAnyH_take (i := 9) (v := ?_) rfl (by kernel_rfl) (by kernel_rfl) (by kernel_rfl) (fun _ _ _ h => h) (Or.inl ⟨by rfl, ?_⟩) (by assumption) ?_
          rotate_left
          · intro w hSw
            (try dsimp only at hSw)
            go_simp
            all_goals with_reducible rfl
          try simp only [Act.put, List.setIfInBounds_toArray, List.set_cons_zero, List.set_cons_succ, List.getElem_toArray, List.getElem_cons_zero, List.getElem_cons_succ]
          obtain ⟨y0, y1, y2, y3, y4⟩ := id z5
          have QV := QX.far (u := .int .i64 X) (v := .int .i64 Y) hN.1 hN.2.1 hN.2.2
          have zV := z5.to (u := .int .i64 X) (v := .int .i64 Y)
          clear QX z5
          refine wpAnyH_ready (rs := [11]) (by kernel_rfl) (by simp) ?_
          refine AllReadyH.cons rfl (fun K hK => ?_) AllReadyH.nil
          go_simp
          skip
          refine hK.out _ _ (QV.all) (fun hHeld => ?_)
          clear hK K
          try simp only [Act.put, List.setIfInBounds_toArray, List.set_cons_zero, List.set_cons_succ, List.getElem_toArray, List.getElem_cons_zero, List.getElem_cons_succ]
          clear y0 y1 y2 y3 y4
          refine wpAnyH_take (i := 12) (v := ?_) rfl (by kernel_rfl) (by kernel_rfl) (by kernel_rfl) (fun _ _ _ h => h) (Or.inl ⟨by rfl, ?_⟩) (by assumption) ?_
          rotate_left
          · intro w hSw
            (try dsimp only at hSw)
            go_simp
            all_goals with_reducible rfl
          try simp only [Act.put, List.setIfInBounds_toArray, List.set_cons_zero, List.set_cons_succ, List.getElem_toArray, List.getElem_cons_zero, List.getElem_cons_succ]
          refine wpAnyH_done (by kernel_rfl) ?_ _
          clear hHeld
          generalize (X5.setCell ⟨N, 0, none⟩ (.int .i64 (X))).setCell ⟨N, 1, none⟩ (.int .i64 (Y)) = WV at *
          obtain ⟨x0, x1⟩ := zV
          obtain ⟨R7, h7, -⟩ := QV
          have d70 := R7.nb.d0
          have d71 := R7.nb.d1
          have g70 := R7.g0
          have g71 := R7.g1
          have hne : N ≠ w.heap.size := hN.2.1
          go_wp2
          refine ⟨⟨k + 1, by omega, by rw [Int.natCast_add, Int.natCast_one], by rw [HRT.out], HO2.out, ?_, h7.set2 (Nat.le_refl _)⟩, by simp [intOf]; omega⟩
          rw [HXY.out]
          exact R7.set X Y
      · have K3 := Lib.hid (fun w' => NP_spec_no (J.rn s l j k).1 (J.rn s l j k).2 (L.g l k) j w' (fun q => hin q.2.1))
        have hf : J.rk s l j = false := J.rk_no (fun q => hin (q.2.2.2 k (by rw [HL.out]; exact hlt)))
        have HF := Lib.hid hf
        have k4 := fun w' => ps_spec (J.rn s l j k).1 (J.rn s l j k).2 w'
        simp only [J.ps_yes hvk] at k4
        have K4 := Lib.hid k4
        have hpw := J.pw_bd (J.vp_of hvk).1
        clear hf hin hvk k4 R hS
        generalize J.pw (J.rn s l j k).1 = pwk at *
        generalize J.rt s l j k = rtk at *
        generalize hp1 : (J.rn s l j k).1 = p1 at *
        generalize hp2 : (J.rn s l j k).2 = p2 at *
        clear hp1 hp2
        go_wp2_with fail
        refine (K4.out _).mono ?_
        rintro e w4 ⟨rfl, b4⟩
        have Q4 := Q0.b b4
        clear Q0 b4 K4 d0 d1
        go_wp2_with fail
        refine wp_region_held_drew (S := (fun w' => w'.cell? ⟨w.heap.size, 0, none⟩ = some (.int .i64 p1) ∧ w'.cell? ⟨w.heap.size, 1, none⟩ = some (.int .i64 p2) ∧ w'.cell? ⟨b, off + k, none⟩ = some (.int .i64 (L.g l k)))) (by kernel_rfl) (Q4.all) (fun hHeld => ?_)
        have QD := Q4.drew
        clear Q4
        generalize w4.drew = V at *
        refine wpAnyH_take (i := 0) (v := ?_) rfl (by kernel_rfl) (by kernel_rfl) (by kernel_rfl) (fun _ _ _ h => h) (Or.inl ⟨by rfl, ?_⟩) (by assumption) ?_
        rotate_left
        · intro w hSw
          (try dsimp only at hSw)
          go_simp
          all_goals with_reducible rfl
        try simp only [Act.put, List.setIfInBounds_toArray, List.set_cons_zero, List.set_cons_succ, List.getElem_toArray, List.getElem_cons_zero]
        refine wpAnyH_take (i := 1) (v := ?_) rfl (by kernel_rfl) (by kernel_rfl) (by kernel_rfl) (fun _ _ _ h => h) (Or.inl ⟨by rfl, ?_⟩) (by assumption) ?_
        rotate_left
        · intro w hSw
          (try dsimp only at hSw)
          go_simp
          all_goals with_reducible rfl
        try simp only [Act.put, List.setIfInBounds_toArray, List.set_cons_zero, List.set_cons_succ, List.getElem_toArray, List.getElem_cons_zero, List.getElem_cons_succ]
        refine wpAnyH_take (i := 2) (v := ?_) rfl (by kernel_rfl) (by kernel_rfl) (by kernel_rfl) (fun _ _ _ h => h) (Or.inl ⟨by rfl, ?_⟩) (by assumption) ?_
        rotate_left
        · intro w hSw
          (try dsimp only at hSw)
          go_simp
          all_goals with_reducible rfl
        try simp only [Act.put, List.setIfInBounds_toArray, List.set_cons_zero, List.set_cons_succ, List.getElem_toArray, List.getElem_cons_zero, List.getElem_cons_succ]
        refine wpAnyH_take (i := 3) (v := ?_) rfl (by kernel_rfl) (by kernel_rfl) (by kernel_rfl) (fun _ _ _ h => h) (Or.inl ⟨by rfl, ?_⟩) (by assumption) ?_
        rotate_left
        · intro w hSw
          (try dsimp only at hSw)
          go_simp
          all_goals with_reducible rfl
        try simp only [Act.put, List.setIfInBounds_toArray, List.set_cons_zero, List.set_cons_succ, List.getElem_toArray, List.getElem_cons_zero, List.getElem_cons_succ]
        refine wpAnyH_take (i := 4) (v := ?_) rfl (by kernel_rfl) (by kernel_rfl) (by kernel_rfl) (fun _ _ _ h => h) (Or.inl ⟨by rfl, ?_⟩) (by assumption) ?_
        rotate_left
        · intro w hSw
          (try dsimp only at hSw)
          go_simp
          all_goals with_reducible rfl
        try simp only [Act.put, List.setIfInBounds_toArray, List.set_cons_zero, List.set_cons_succ, List.getElem_toArray, List.getElem_cons_zero, List.getElem_cons_succ]
        refine wpAnyH_take (i := 5) (v := ?_) rfl (by kernel_rfl) (by kernel_rfl) (by kernel_rfl) (fun _ _ _ h => h) (Or.inl ⟨by rfl, ?_⟩) (by assumption) ?_
        rotate_left
        · intro w hSw
          (try dsimp only at hSw)
          go_simp
          all_goals with_reducible rfl
        try simp only [Act.put, List.setIfInBounds_toArray, List.set_cons_zero, List.set_cons_succ, List.getElem_toArray, List.getElem_cons_zero, List.getElem_cons_succ]
        refine wpAnyH_ready (rs := [6, 10]) (by kernel_rfl) (by simp) ?_
        refine AllReadyH.cons rfl (fun K hK => ?_) (AllReadyH.cons rfl (fun K hK => ?_) AllReadyH.nil)
        · go_simp
          (go_at_call 13; refine (K3.out _).mono ?_; rintro e w5 ⟨rfl, b5⟩)
          have Q5 := QD.b b5
          refine hK.out _ _ Q5.all (fun hHeld => ?_)
          clear hK K QD b5
          try simp only [Act.put, List.setIfInBounds_toArray, List.set_cons_zero, List.set_cons_succ, List.getElem_toArray, List.getElem_cons_zero, List.getElem_cons_succ]
          refine wpAnyH_take (i := 7) (v := ?_) rfl (by kernel_rfl) (by kernel_rfl) (by kernel_rfl) (fun _ _ _ h => h) (Or.inl ⟨by rfl, ?_⟩) (by assumption) ?_
          rotate_left
          · intro w hSw
            (try dsimp only at hSw)
            go_simp
            all_goals with_reducible rfl
          try simp only [Act.put, List.setIfInBounds_toArray, List.set_cons_zero, List.set_cons_succ, List.getElem_toArray, List.getElem_cons_zero, List.getElem_cons_succ]
          refine wpAnyH_take (i := 8) (v := ?_) rfl (by kernel_rfl) (by kernel_rfl) (by kernel_rfl) (fun _ _ _ h => h) (Or.inl ⟨by rfl, ?_⟩) (by assumption) ?_
          rotate_left
          · intro w hSw
            (try dsimp only at hSw)
            go_simp
            all_goals with_reducible rfl
          try simp only [Act.put, List.setIfInBounds_toArray, List.set_cons_zero, List.set_cons_succ, List.getElem_toArray, List.getElem_cons_zero, List.getElem_cons_succ]
          refine wpAnyH_take (i := 9) (v := ?_) rfl (by kernel_rfl) (by kernel_rfl) (by kernel_rfl) (fun _ _ _ h => h) (Or.inl ⟨by rfl, ?_⟩) (by assumption) ?_
          rotate_left
          · intro w hSw
            (try dsimp only at hSw)
            go_simp
            all_goals with_reducible rfl
          try simp only [Act.put, List.setIfInBounds_toArray, List.set_cons_zero, List.set_cons_succ, List.getElem_toArray, List.getElem_cons_zero, List.getElem_cons_succ]
          have QX := Q5.al (.cells #[.int .i64 0, .int .i64 0] 24)
          have z5 := Zp2.new w5 24
          have hN := Q5.q.nb.lts
          refine wpAnyH_ready (rs := [10]) (by kernel_rfl) (by simp) ?_
          refine AllReadyH.cons rfl (fun K hK => ?_) AllReadyH.nil
          go_simp
          skip
          refine hK.out _ _ (QX.all) (fun hHeld => ?_)
          clear hK K
          try simp only [Act.put, List.setIfInBounds_toArray, List.set_cons_zero, List.set_cons_succ, List.getElem_toArray, List.getElem_cons_zero, List.getElem_cons_succ]
          clear Q5
          generalize w5.alloc (.cells #[.int .i64 0, .int .i64 0] 24) = X5 at *
          generalize w5.heap.size = N at *
          obtain ⟨y0, y1, y2, y3, y4⟩ := id z5
          have QV := QX.far (u := .int .i64 0) (v := .int .i64 0) hN.1 hN.2.1 hN.2.2
          have zV := z5.to (u := .int .i64 0) (v := .int .i64 0)
          clear QX z5
          refine wpAnyH_ready (rs := [11]) (by kernel_rfl) (by simp) ?_
          refine AllReadyH.cons rfl (fun K hK => ?_) AllReadyH.nil
          go_simp
          skip
          refine hK.out _ _ (QV.all) (fun hHeld => ?_)
          clear hK K
          try simp only [Act.put, List.setIfInBounds_toArray, List.set_cons_zero, List.set_cons_succ, List.getElem_toArray, List.getElem_cons_zero, List.getElem_cons_succ]
          clear y0 y1 y2 y3 y4
          refine wpAnyH_take (i := 12) (v := ?_) rfl (by kernel_rfl) (by kernel_rfl) (by kernel_rfl) (fun _ _ _ h => h) (Or.inl ⟨by rfl, ?_⟩) (by assumption) ?_
          rotate_left
          · intro w hSw
            (try dsimp only at hSw)
            go_simp
            all_goals with_reducible rfl
          try simp only [Act.put, List.setIfInBounds_toArray, List.set_cons_zero, List.set_cons_succ, List.getElem_toArray, List.getElem_cons_zero, List.getElem_cons_succ]
          refine wpAnyH_done (by kernel_rfl) ?_ _
          clear hHeld
          generalize (X5.setCell ⟨N, 0, none⟩ (.int .i64 (0))).setCell ⟨N, 1, none⟩ (.int .i64 (0)) = WV at *
          have e0 := QV.q.nb.e0
          have e1 := QV.q.nb.e1
          have f0 := QV.q.nb.f0
          have f1 := QV.q.nb.f1
          have HN := Lib.hid (QV.q.nb.fin (.int .i64 0) (.int .i64 0))
          clear QV zV
          go_wp2
          refine bodyPost_ret (v := .tuple #[.agg #[.int .i64 0, .int .i64 0], .int .i64 0, .bool false]) (by simp [results, Tryd.results18, go_sem, e0, e1]) rfl ⟨?_, HN.out⟩
          have hf := HF.out
          rw [hf, (J.re_no hf).1, (J.re_no hf).2]
        · go_simp
          have QX0 := QD.al (.cells #[.int .i64 0, .int .i64 0] 24)
          have z0 := Zp2.new V 24
          have hN := QD.q.nb.lts
          refine hK.out _ _ QX0.all (fun hHeld => ?_)
          clear hK K QD
          try simp only [Act.put, List.setIfInBounds_toArray, List.set_cons_zero, List.set_cons_succ, List.getElem_toArray, List.getElem_cons_zero, List.getElem_cons_succ]
          generalize V.alloc (.cells #[.int .i64 0, .int .i64 0] 24) = V5 at *
          generalize V.heap.size = N at *
          refine wpAnyH_ready (rs := [6]) (by kernel_rfl) (by simp) ?_
          refine AllReadyH.cons rfl (fun K hK => ?_) AllReadyH.nil
          go_simp
          (go_at_call 13; refine (K3.out _).mono ?_; rintro e X5 ⟨rfl, b5⟩)
          have QX := QX0.b b5
          have z5 := z0.b b5
          refine hK.out _ _ QX.all (fun hHeld => ?_)
          clear hK K QX0 z0 b5
          try simp only [Act.put, List.setIfInBounds_toArray, List.set_cons_zero, List.set_cons_succ, List.getElem_toArray, List.getElem_cons_zero, List.getElem_cons_succ]
          refine wpAnyH_take (i := 7) (v := ?_) rfl (by kernel_rfl) (by kernel_rfl) (by kernel_rfl) (fun _ _ _ h => h) (Or.inl ⟨by rfl, ?_⟩) (by assumption) ?_
          rotate_left
          · intro w hSw
            (try dsimp only at hSw)
            go_simp
            all_goals with_reducible rfl
          try simp only [Act.put, List.setIfInBounds_toArray, List.set_cons_zero, List.set_cons_succ, List.getElem_toArray, List.getElem_cons_zero, List.getElem_cons_succ]
          refine wpAnyH_take (i := 8) (v := ?_) rfl (by kernel_rfl) (by kernel_rfl) (by kernel_rfl) (fun _ _ _ h => h) (Or.inl ⟨by rfl, ?_⟩) (by assumption) ?_
          rotate_left
          · intro w hSw
            (try dsimp only at hSw)
            go_simp
            all_goals with_reducible rfl
          try simp only [Act.put, List.setIfInBounds_toArray, List.set_cons_zero, List.set_cons_succ, List.getElem_toArray, List.getElem_cons_zero, List.getElem_cons_succ]
          refine wpAnyH_take (i := 9) (v := ?_) rfl (by kernel_rfl) (by kernel_rfl) (by kernel_rfl) (fun _ _ _ h => h) (Or.inl ⟨by rfl, ?_⟩) (by assumption) ?_
          rotate_left
          · intro w hSw
            (try dsimp only at hSw)
            go_simp
            all_goals with_reducible rfl
          try simp only [Act.put, List.setIfInBounds_toArray, List.set_cons_zero, List.set_cons_succ, List.getElem_toArray, List.getElem_cons_zero, List.getElem_cons_succ]
          obtain ⟨y0, y1, y2, y3, y4⟩ := id z5
          have QV := QX.far (u := .int .i64 0) (v := .int .i64 0) hN.1 hN.2.1 hN.2.2
          have zV := z5.to (u := .int .i64 0) (v := .int .i64 0)
          clear QX z5
          refine wpAnyH_ready (rs := [11]) (by kernel_rfl) (by simp) ?_
          refine AllReadyH.cons rfl (fun K hK => ?_) AllReadyH.nil
          go_simp
          skip
          refine hK.out _ _ (QV.all) (fun hHeld => ?_)
          clear hK K
          try simp only [Act.put, List.setIfInBounds_toArray, List.set_cons_zero, List.set_cons_succ, List.getElem_toArray, List.getElem_cons_zero, List.getElem_cons_succ]
          clear y0 y1 y2 y3 y4
          refine wpAnyH_take (i := 12) (v := ?_) rfl (by kernel_rfl) (by kernel_rfl) (by kernel_rfl) (fun _ _ _ h => h) (Or.inl ⟨by rfl, ?_⟩) (by assumption) ?_
          rotate_left
          · intro w hSw
            (try dsimp only at hSw)
            go_simp
            all_goals with_reducible rfl
          try simp only [Act.put, List.setIfInBounds_toArray, List.set_cons_zero, List.set_cons_succ, List.getElem_toArray, List.getElem_cons_zero, List.getElem_cons_succ]
          refine wpAnyH_done (by kernel_rfl) ?_ _
          clear hHeld
          generalize (X5.setCell ⟨N, 0, none⟩ (.int .i64 (0))).setCell ⟨N, 1, none⟩ (.int .i64 (0)) = WV at *
          have e0 := QV.q.nb.e0
          have e1 := QV.q.nb.e1
          have f0 := QV.q.nb.f0
          have f1 := QV.q.nb.f1
          have HN := Lib.hid (QV.q.nb.fin (.int .i64 0) (.int .i64 0))
          clear QV zV
          go_wp2
          refine bodyPost_ret (v := .tuple #[.agg #[.int .i64 0, .int .i64 0], .int .i64 0, .bool false]) (by simp [results, Tryd.results18, go_sem, e0, e1]) rfl ⟨?_, HN.out⟩
          have hf := HF.out
          rw [hf, (J.re_no hf).1, (J.re_no hf).2]
    · obtain rfl : k = n := by omega
      have ht : J.rk s l j = true := J.rk_yes ⟨HV.out, hj, by rw [HL.out]; exact hn30, fun i hi => HO.out i (by rw [HL.out] at hi; exact hi)⟩
      have HT := Lib.hid ht
      clear ht hrt
      generalize hrtk : J.rt s l j k = rtk at *
      generalize hp1 : (J.rn s l j k).1 = p1 at *
      generalize hp2 : (J.rn s l j k).2 = p2 at *
      have HE := Lib.hid (And.intro hrtk (And.intro hp1 hp2))
      clear hrtk hp1 hp2
      have d0 := R.nb.d0
      have d1 := R.nb.d1
      have e0 := R.nb.e0
      have e1 := R.nb.e1
      have f0 := R.nb.f0
      have f1 := R.nb.f1
      have HN := Lib.hid (fun u v => R.nb.fin (.int .i64 u) (.int .i64 v))
      go_wp2
      refine bodyPost_ret (v := .tuple #[.agg #[.int .i64 p1, .int .i64 p2], .int .i64 rtk, .bool true]) (by simp [results, Tryd.results18, go_sem, e0, e1]) rfl ⟨?_, HN.out _ _⟩
      have ht := HT.out
      obtain ⟨q1, q2, q3⟩ := HE.out
      rw [ht, (J.re_yes ht).1, (J.re_yes ht).2, HL.out, q1, q2, q3]
end Go.Proofs.YthbfjmlkcgcgaaaDoor
