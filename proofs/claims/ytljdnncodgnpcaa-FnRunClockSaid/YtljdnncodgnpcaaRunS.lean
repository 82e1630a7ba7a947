/-
  A clock's corrections one after the other (chapter 7): the model's function.
-/
import Derived.Test.YtljdnncodgnpcaaRun
import Derived.Deep.RegionHeld3
namespace Go.Proofs.Ytljdnncodgnpcaa
open Go.RowKit
set_option linter.unusedVariables false
set_option maxRecDepth 100000
theorem Sms.drewR {B : Nat} {w : World} {a : Option Addr} {n : Nat} {l : List Q.Sm} (h : Sms B w a n l) : Sms B w.drew a n l := h
/-- A struct of three cells is stored: it reads so, and every other block as before. -/
theorem set3 {X : World} {E : Nat} {x y z x0 y0 z0 : Value} (c0 : X.cell? ⟨E, 0, none⟩ = some x0) (c1 : X.cell? ⟨E, 1, none⟩ = some y0) (c2 : X.cell? ⟨E, 2, none⟩ = some z0) :
    let V := ((X.setCell ⟨E, 0, none⟩ x).setCell ⟨E, 1, none⟩ y).setCell ⟨E, 2, none⟩ z
    V.cell? ⟨E, 0, none⟩ = some x ∧ V.cell? ⟨E, 1, none⟩ = some y ∧ V.cell? ⟨E, 2, none⟩ = some z ∧ (∀ b o, b ≠ E → V.cell? ⟨b, o, none⟩ = X.cell? ⟨b, o, none⟩) ∧ (∀ b o, V.frozen? ⟨b, o, none⟩ = X.frozen? ⟨b, o, none⟩) := by
  have a0 := World.cell?_setCell_same X ⟨E, 0, none⟩ x c0
  have a1 : (X.setCell ⟨E, 0, none⟩ x).cell? ⟨E, 1, none⟩ = _ := (World.cell?_setCell_other _ _ _ _ (by simp)).trans c1
  have a2 : (X.setCell ⟨E, 0, none⟩ x).cell? ⟨E, 2, none⟩ = _ := (World.cell?_setCell_other _ _ _ _ (by simp)).trans c2
  refine ⟨?_, ?_, ?_, fun b o h => ?_, fun b o => by simp⟩
  · exact (World.cell?_setCell_other _ _ _ _ (by simp)).trans ((World.cell?_setCell_other _ _ _ _ (by simp)).trans a0)
  · exact (World.cell?_setCell_other _ _ _ _ (by simp)).trans (World.cell?_setCell_same _ _ _ a1)
  · exact World.cell?_setCell_same _ _ _ ((World.cell?_setCell_other _ _ _ _ (by simp)).trans a2)
  · exact (World.cell?_setCell_other _ _ _ _ (fun e => h (by injection e with e; exact e.symm))).trans ((World.cell?_setCell_other _ _ _ _ (fun e => h (by injection e with e; exact e.symm))).trans (World.cell?_setCell_other _ _ _ _ (fun e => h (by injection e with e; exact e.symm))))
theorem RB.far3 {w X : World} {p q r : Int} {E : Nat} {x y z : Value} (h : RB w X p q r) (hE : w.heap.size + 1 < E)
    (vo : ∀ b o, b ≠ E → (((X.setCell ⟨E, 0, none⟩ x).setCell ⟨E, 1, none⟩ y).setCell ⟨E, 2, none⟩ z).cell? ⟨b, o, none⟩ = X.cell? ⟨b, o, none⟩)
    (vf : ∀ b o, (((X.setCell ⟨E, 0, none⟩ x).setCell ⟨E, 1, none⟩ y).setCell ⟨E, 2, none⟩ z).frozen? ⟨b, o, none⟩ = X.frozen? ⟨b, o, none⟩) : RB w (((X.setCell ⟨E, 0, none⟩ x).setCell ⟨E, 1, none⟩ y).setCell ⟨E, 2, none⟩ z) p q r :=
  ⟨(vo _ _ (by omega)).trans h.c0, (vo _ _ (by omega)).trans h.c1, (vo _ _ (by omega)).trans h.c2, (vf _ _).trans h.f0, (vf _ _).trans h.f1, (vf _ _).trans h.f2,
    (vo _ _ (by omega)).trans h.z0, (vo _ _ (by omega)).trans h.z1, (vo _ _ (by omega)).trans h.z2, (vf _ _).trans h.g0, (vf _ _).trans h.g1, (vf _ _).trans h.g2, by simpa using h.lt,
    ((h.bel.setCell (p := ⟨E, 0, none⟩) (show w.heap.size ≤ E by omega) _).setCell (p := ⟨E, 1, none⟩) (show w.heap.size ≤ E by omega) _).setCell (p := ⟨E, 2, none⟩) (show w.heap.size ≤ E by omega) _⟩
set_option maxHeartbeats 4000000 in
theorem RC_spec (B n c : Nat) (a : Option Addr) (l : List Q.Sm) (s : Int × Int × Int) (w : World) (h : Sms B w a n l) (hB : B ≤ w.heap.size) : Calls Try.prog 18 #[.agg #[.int .i64 s.1, .int .i64 s.2.1, .int .i64 s.2.2], .slice a n c] w fun e w' =>
    e = .returned (.tuple #[.agg #[.int .i64 (K.re s l).1, .int .i64 (K.re s l).2.1, .int .i64 (K.re s l).2.2], .bool (K.rok s l)]) ∧ Below w.heap.size w w' := by
  have hl := h.1
  have HL := Lib.hid hl
  have R0 := RB.new w s.1 s.2.1 s.2.2 24
  have h0 := (h.more hB).below R0.bel
  have k1 := fun w' => vc_spec0 s.1 s.2.1 s.2.2 w'
  clear hl
  rcases hv : K.vc s.1 s.2.1 s.2.2 with _ | _
  · have hk : K.rok s l = false := K.rok_no (fun q => by have := q.1.1; rw [hv] at this; cases this)
    rw [K.re_no hk, hk]
    simp only [hv] at k1
    clear hv hk
    go_enter Try.func18, Try.ntmps18
    go_wp2_with fail
    refine (k1 _).mono ?_
    rintro e w1 ⟨rfl, b1⟩
    have R1 := R0.b b1
    obtain ⟨-, -, -, -, -, -, z0, z1, z2, g0, g1, g2, -, -⟩ := id R1
    have HF := Lib.hid (R1.fin (.int .i64 0) (.int .i64 0) (.int .i64 0))
    clear R0 b1 h0 k1 R1
    go_wp2
    exact bodyPost_ret (v := .tuple #[.agg #[.int .i64 0, .int .i64 0, .int .i64 0], .bool false]) (by simp [results, Try.results18, go_sem, z0, z1, z2]) rfl ⟨rfl, HF.out⟩
  have HV := Lib.hid hv
  simp only [hv] at k1
  clear hv
  rcases hq : Q.vq l with _ | _
  · by_cases hn : 0 < n
    · have hk : K.rok s l = false := K.rok_no (fun q => by have := q.1.2 (by have := HL.out; omega); rw [hq] at this; cases this)
      have k2 := fun w' h' => vq_spec w.heap.size n c a l w' h'
      simp only [hq] at k2
      have K2 := Lib.hid k2
      rw [K.re_no hk, hk]
      clear hq hk k2
      go_enter Try.func18, Try.ntmps18
      go_wp2_with fail
      refine (k1 _).mono ?_
      rintro e w1 ⟨rfl, b1⟩
      have R1 := R0.b b1
      have h1 := (h0.below (b1.mono R0.bel.size))
      clear R0 b1 h0 k1
      go_wp2_with fail
      refine (K2.out _ h1).mono ?_
      rintro e w2 ⟨rfl, q2⟩
      have b2 : Below w1.heap.size w1 w2 := q2.below
      have R2 := R1.b b2
      obtain ⟨-, -, -, -, -, -, z0, z1, z2, g0, g1, g2, -, -⟩ := id R2
      have HF := Lib.hid (R2.fin (.int .i64 0) (.int .i64 0) (.int .i64 0))
      clear R1 b2 h1 R2
      go_wp2
      exact bodyPost_ret (v := .tuple #[.agg #[.int .i64 0, .int .i64 0, .int .i64 0], .bool false]) (by simp [results, Try.results18, go_sem, z0, z1, z2]) rfl ⟨rfl, HF.out⟩
    · have HRV : Hid (K.rv s l) := Lib.hid ⟨HV.out, fun q => absurd q (by have := HL.out; omega)⟩
      have hn8 : n ≤ 8 := by omega
      clear hq
      go_enter Try.func18, Try.ntmps18
      go_wp2_with fail
      refine (k1 _).mono ?_
      rintro e w1 ⟨rfl, b1⟩
      have RR := R0.b b1
      have HH := (h0.below (b1.mono R0.bel.size))
      clear R0 b1 h0 k1
      go_wp2_with fail
      try any_goals (exfalso; omega)
      go_loopw [6] (fun i wr => ∃ k : Nat, k ≤ n ∧ i = .int .i64 k ∧ K.rk s l k ∧ RB w wr (K.rs s l k).1 (K.rs s l k).2.1 (K.rs s l k).2.2 ∧ Sms w.heap.size wr a n l) (fun i _ => n - (intOf i).toNat)
      case atStart => exact ⟨0, Nat.zero_le _, rfl, fun i hi => absurd hi (by omega), RR, HH⟩
      case round =>
        obtain ⟨k, hk, rfl, hrk, R, hS⟩ := hrel
        have HRK := Lib.hid hrk
        clear hrk RR HH
        by_cases hlt : k < n
        · exfalso; omega
        · obtain rfl : k = n := by omega
          have HT : Hid (K.rok s l = true) := Lib.hid (K.rok_yes ⟨HRV.out, by rw [HL.out]; exact HRK.out⟩)
          have HE : Hid (K.re s l = K.rs s l k) := Lib.hid (by rw [K.re_yes HT.out, HL.out])
          obtain ⟨c0, c1, c2, f0, f1, f2, z0, z1, z2, g0, g1, g2, -, -⟩ := id R
          have HF := Lib.hid (R.fin (.int .i64 (K.rs s l k).1) (.int .i64 (K.rs s l k).2.1) (.int .i64 (K.rs s l k).2.2))
          clear R hS
          go_wp2
          exact bodyPost_ret (v := .tuple #[.agg #[.int .i64 (K.rs s l k).1, .int .i64 (K.rs s l k).2.1, .int .i64 (K.rs s l k).2.2], .bool true]) (by simp [results, Try.results18, go_sem, z0, z1, z2]) rfl ⟨by rw [HE.out, HT.out], HF.out⟩
  · have hq8 := (Q.vq_of hq).1
    have HRV : Hid (K.rv s l) := Lib.hid ⟨HV.out, fun _ => hq⟩
    have hn : 0 < n := by have := HL.out; omega
    have hn8 : n ≤ 8 := by have := HL.out; omega
    have k2 := fun w' h' => vq_spec w.heap.size n c a l w' h'
    simp only [hq] at k2
    have K2 := Lib.hid k2
    clear hq k2 hq8
    go_enter Try.func18, Try.ntmps18
    go_wp2_with fail
    refine (k1 _).mono ?_
    rintro e w1 ⟨rfl, b1⟩
    have R1 := R0.b b1
    have h1 := (h0.below (b1.mono R0.bel.size))
    clear R0 b1 h0 k1
    go_wp2_with fail
    refine (K2.out _ h1).mono ?_
    rintro e w2 ⟨rfl, q2⟩
    have b2 : Below w1.heap.size w1 w2 := q2.below
    have RR := R1.b b2
    have HH := h1.below (b2.mono R1.bel.size)
    clear R1 b2 h1
    go_wp2_with fail
    try any_goals (exfalso; omega)
    go_loopw [6] (fun i wr => ∃ k : Nat, k ≤ n ∧ i = .int .i64 k ∧ K.rk s l k ∧ RB w wr (K.rs s l k).1 (K.rs s l k).2.1 (K.rs s l k).2.2 ∧ Sms w.heap.size wr a n l) (fun i _ => n - (intOf i).toNat)
    case atStart => exact ⟨0, Nat.zero_le _, rfl, fun i hi => absurd hi (by omega), RR, HH⟩
    case round =>
      obtain ⟨k, hk, rfl, hrk, R, hS⟩ := hrel
      have HRK := Lib.hid hrk
      clear hrk RR HH
      by_cases hlt : k < n
      · obtain ⟨b, off, ha, hb, hc⟩ := hS.at_ k hlt
        have HS := Lib.hid hS
        clear hS
        subst ha
        obtain ⟨q0, q1, q2⟩ := hc k hlt
        have k3 := fun w' => SC_spec (K.rs s l k).1 (K.rs s l k).2.1 (K.rs s l k).2.2 (Q.tm l k) (Q.of l k) w'
        have RA := R
        have r0 := RA.c0
        have r1 := RA.c1
        have r2 := RA.c2
        clear hc R
        rcases hs : K.sk s l k with _ | _
        · have hs' := hs
          unfold K.sk at hs'
          obtain ⟨y0, y1, y2⟩ := K.s_no hs'
          simp only [hs', y0, y1, y2] at k3
          have K3 := Lib.hid k3
          have HT : Hid (K.rok s l = false) := Lib.hid (K.rok_no (fun q => by have := q.2 k (by have := HL.out; omega); rw [hs] at this; cases this))
          clear k3 hs hs' y0 y1 y2 r0 r1 r2
          go_wp2_with fail
          refine wp_region_held_drew (S := (fun w' => w'.cell? ⟨w.heap.size, 0, none⟩ = some (.int .i64 (K.rs s l k).1) ∧ w'.cell? ⟨w.heap.size, 1, none⟩ = some (.int .i64 (K.rs s l k).2.1) ∧ w'.cell? ⟨w.heap.size, 2, none⟩ = some (.int .i64 (K.rs s l k).2.2) ∧ w'.cell? ⟨b, off + k * 3, none⟩ = some (.int .i64 (Q.of l k)) ∧ w'.cell? ⟨b, off + k * 3 + 2, none⟩ = some (.int .i64 (Q.tm l k)))) (by kernel_rfl) (⟨RA.c0, RA.c1, RA.c2, q0, q2⟩) (fun hHeld => ?_)
          have RD := RA.drew
          have SD := HS.out.drew
          replace q0 : wr.drew.cell? ⟨b, off + k * 3, none⟩ = some (.int .i64 (Q.of l k)) := q0
          replace q2 : wr.drew.cell? ⟨b, off + k * 3 + 2, none⟩ = some (.int .i64 (Q.tm l k)) := q2
          have hbw : b < wr.drew.heap.size := by have := RD.lt; omega
          clear RA HS q1
          generalize wr.drew = V at *
          refine wpAnyH_take (i := 0) (v := ?_) rfl (by kernel_rfl) (by kernel_rfl) (by kernel_rfl) (fun _ _ _ h => h) (Or.inl ⟨by rfl, ?_⟩) (by assumption) ?_
          rotate_left
          · intro w hSw
            (try dsimp only at hSw)
            go_simp
            all_goals with_reducible rfl
          try simp only [Act.put, List.setIfInBounds_toArray, List.set_cons_zero, List.set_cons_succ, List.getElem_toArray, List.getElem_cons_zero]
          refine wpAnyH_take (i := 1) (v := ?_) rfl (by kernel_rfl) (by kernel_rfl) (by kernel_rfl) (fun _ _ _ h => h) (Or.inl ⟨by rfl, ?_⟩) (by assumption) ?_
          rotate_left
          · intro w hSw
            (try dsimp only at hSw)
            go_simp
            all_goals with_reducible rfl
          try simp only [Act.put, List.setIfInBounds_toArray, List.set_cons_zero, List.set_cons_succ, List.getElem_toArray, List.getElem_cons_zero, List.getElem_cons_succ]
          refine wpAnyH_take (i := 2) (v := ?_) rfl (by kernel_rfl) (by kernel_rfl) (by kernel_rfl) (fun _ _ _ h => h) (Or.inl ⟨by rfl, ?_⟩) (by assumption) ?_
          rotate_left
          · intro w hSw
            (try dsimp only at hSw)
            go_simp
            all_goals with_reducible rfl
          try simp only [Act.put, List.setIfInBounds_toArray, List.set_cons_zero, List.set_cons_succ, List.getElem_toArray, List.getElem_cons_zero, List.getElem_cons_succ]
          refine wpAnyH_take (i := 3) (v := ?_) rfl (by kernel_rfl) (by kernel_rfl) (by kernel_rfl) (fun _ _ _ h => h) (Or.inl ⟨by rfl, ?_⟩) (by assumption) ?_
          rotate_left
          · intro w hSw
            (try dsimp only at hSw)
            go_simp
            all_goals with_reducible rfl
          try simp only [Act.put, List.setIfInBounds_toArray, List.set_cons_zero, List.set_cons_succ, List.getElem_toArray, List.getElem_cons_zero, List.getElem_cons_succ]
          refine wpAnyH_take (i := 4) (v := ?_) rfl (by kernel_rfl) (by kernel_rfl) (by kernel_rfl) (fun _ _ _ h => h) (Or.inl ⟨by rfl, ?_⟩) (by assumption) ?_
          rotate_left
          · intro w hSw
            (try dsimp only at hSw)
            go_simp
            all_goals with_reducible rfl
          try simp only [Act.put, List.setIfInBounds_toArray, List.set_cons_zero, List.set_cons_succ, List.getElem_toArray, List.getElem_cons_zero, List.getElem_cons_succ]
          refine wpAnyH_take (i := 5) (v := ?_) rfl (by kernel_rfl) (by kernel_rfl) (by kernel_rfl) (fun _ _ _ h => h) (Or.inl ⟨by rfl, ?_⟩) (by assumption) ?_
          rotate_left
          · intro w hSw
            (try dsimp only at hSw)
            go_simp
            all_goals with_reducible rfl
          try simp only [Act.put, List.setIfInBounds_toArray, List.set_cons_zero, List.set_cons_succ, List.getElem_toArray, List.getElem_cons_zero, List.getElem_cons_succ]
          refine wpAnyH_take (i := 6) (v := ?_) rfl (by kernel_rfl) (by kernel_rfl) (by kernel_rfl) (fun _ _ _ h => h) (Or.inl ⟨by rfl, ?_⟩) (by assumption) ?_
          rotate_left
          · intro w hSw
            (try dsimp only at hSw)
            go_simp
            all_goals with_reducible rfl
          try simp only [Act.put, List.setIfInBounds_toArray, List.set_cons_zero, List.set_cons_succ, List.getElem_toArray, List.getElem_cons_zero, List.getElem_cons_succ]
          refine wpAnyH_take (i := 7) (v := ?_) rfl (by kernel_rfl) (by kernel_rfl) (by kernel_rfl) (fun _ _ _ h => h) (Or.inl ⟨by rfl, ?_⟩) (by assumption) ?_
          rotate_left
          · intro w hSw
            (try dsimp only at hSw)
            go_simp
            all_goals with_reducible rfl
          try simp only [Act.put, List.setIfInBounds_toArray, List.set_cons_zero, List.set_cons_succ, List.getElem_toArray, List.getElem_cons_zero, List.getElem_cons_succ]
          refine wpAnyH_take (i := 8) (v := ?_) rfl (by kernel_rfl) (by kernel_rfl) (by kernel_rfl) (fun _ _ _ h => h) (Or.inl ⟨by rfl, ?_⟩) (by assumption) ?_
          rotate_left
          · intro w hSw
            (try dsimp only at hSw)
            go_simp
            all_goals with_reducible rfl
          try simp only [Act.put, List.setIfInBounds_toArray, List.set_cons_zero, List.set_cons_succ, List.getElem_toArray, List.getElem_cons_zero, List.getElem_cons_succ]
          refine wpAnyH_take (i := 9) (v := ?_) rfl (by kernel_rfl) (by kernel_rfl) (by kernel_rfl) (fun _ _ _ h => h) (Or.inl ⟨by rfl, ?_⟩) (by assumption) ?_
          rotate_left
          · intro w hSw
            (try dsimp only at hSw)
            go_simp
            all_goals with_reducible rfl
          try simp only [Act.put, List.setIfInBounds_toArray, List.set_cons_zero, List.set_cons_succ, List.getElem_toArray, List.getElem_cons_zero, List.getElem_cons_succ]
          refine wpAnyH_take (i := 10) (v := ?_) rfl (by kernel_rfl) (by kernel_rfl) (by kernel_rfl) (fun _ _ _ h => h) (Or.inl ⟨by rfl, ?_⟩) (by assumption) ?_
          rotate_left
          · intro w hSw
            (try dsimp only at hSw)
            go_simp
            all_goals with_reducible rfl
          try simp only [Act.put, List.setIfInBounds_toArray, List.set_cons_zero, List.set_cons_succ, List.getElem_toArray, List.getElem_cons_zero, List.getElem_cons_succ]
          refine wpAnyH_ready (rs := [11, 15]) (by kernel_rfl) (by simp) ?_
          refine AllReadyH.cons rfl (fun K hK => ?_) (AllReadyH.cons rfl (fun K hK => ?_) AllReadyH.nil)
          · go_simp
            (go_at_call 52; refine (K3.out _).mono ?_; rintro e w5 ⟨rfl, b5⟩)
            have R5 := RD.b b5
            have S5 := SD.below (b5.mono RD.bel.size)
            have x0 := (b5.cell (p := ⟨b, off + k * 3, none⟩) hbw).trans q0
            have x2 := (b5.cell (p := ⟨b, off + k * 3 + 2, none⟩) hbw).trans q2
            have hb5 := Nat.lt_of_lt_of_le hbw b5.size
            refine hK.out _ _ ⟨R5.c0, R5.c1, R5.c2, x0, x2⟩ (fun hHeld => ?_)
            clear hK K RD SD q0 q2 b5
            try simp only [Act.put, List.setIfInBounds_toArray, List.set_cons_zero, List.set_cons_succ, List.getElem_toArray, List.getElem_cons_zero, List.getElem_cons_succ]
            refine wpAnyH_take (i := 12) (v := ?_) rfl (by kernel_rfl) (by kernel_rfl) (by kernel_rfl) (fun _ _ _ h => h) (Or.inl ⟨by rfl, ?_⟩) (by assumption) ?_
            rotate_left
            · intro w hSw
              (try dsimp only at hSw)
              go_simp
              all_goals with_reducible rfl
            try simp only [Act.put, List.setIfInBounds_toArray, List.set_cons_zero, List.set_cons_succ, List.getElem_toArray, List.getElem_cons_zero, List.getElem_cons_succ]
            refine wpAnyH_take (i := 13) (v := ?_) rfl (by kernel_rfl) (by kernel_rfl) (by kernel_rfl) (fun _ _ _ h => h) (Or.inl ⟨by rfl, ?_⟩) (by assumption) ?_
            rotate_left
            · intro w hSw
              (try dsimp only at hSw)
              go_simp
              all_goals with_reducible rfl
            try simp only [Act.put, List.setIfInBounds_toArray, List.set_cons_zero, List.set_cons_succ, List.getElem_toArray, List.getElem_cons_zero, List.getElem_cons_succ]
            refine wpAnyH_take (i := 14) (v := ?_) rfl (by kernel_rfl) (by kernel_rfl) (by kernel_rfl) (fun _ _ _ h => h) (Or.inl ⟨by rfl, ?_⟩) (by assumption) ?_
            rotate_left
            · intro w hSw
              (try dsimp only at hSw)
              go_simp
              all_goals with_reducible rfl
            try simp only [Act.put, List.setIfInBounds_toArray, List.set_cons_zero, List.set_cons_succ, List.getElem_toArray, List.getElem_cons_zero, List.getElem_cons_succ]
            have RX := R5.al (.cells #[.int .i64 0, .int .i64 0, .int .i64 0] 24)
            have SX := S5.below ((Below.refl w.heap.size w5).alloc R5.bel.size (.cells #[.int .i64 0, .int .i64 0, .int .i64 0] 24))
            replace x0 := (World.cell?_alloc_lt w5 (.cells #[.int .i64 0, .int .i64 0, .int .i64 0] 24) ⟨b, off + k * 3, none⟩ hb5).trans x0
            replace x2 := (World.cell?_alloc_lt w5 (.cells #[.int .i64 0, .int .i64 0, .int .i64 0] 24) ⟨b, off + k * 3 + 2, none⟩ hb5).trans x2
            have e0 : (w5.alloc (.cells #[.int .i64 0, .int .i64 0, .int .i64 0] 24)).cell? ⟨w5.heap.size, 0, none⟩ = some (.int .i64 0) := by simp
            have e1 : (w5.alloc (.cells #[.int .i64 0, .int .i64 0, .int .i64 0] 24)).cell? ⟨w5.heap.size, 1, none⟩ = some (.int .i64 0) := by simp
            have e2 : (w5.alloc (.cells #[.int .i64 0, .int .i64 0, .int .i64 0] 24)).cell? ⟨w5.heap.size, 2, none⟩ = some (.int .i64 0) := by simp
            have h0 : (w5.alloc (.cells #[.int .i64 0, .int .i64 0, .int .i64 0] 24)).frozen? ⟨w5.heap.size, 0, none⟩ = false := by simp
            have h1 : (w5.alloc (.cells #[.int .i64 0, .int .i64 0, .int .i64 0] 24)).frozen? ⟨w5.heap.size, 1, none⟩ = false := by simp
            have h2 : (w5.alloc (.cells #[.int .i64 0, .int .i64 0, .int .i64 0] 24)).frozen? ⟨w5.heap.size, 2, none⟩ = false := by simp
            have hE : w.heap.size + 1 < w5.heap.size := R5.lt
            refine wpAnyH_ready (rs := [15]) (by kernel_rfl) (by simp) ?_
            refine AllReadyH.cons rfl (fun K hK => ?_) AllReadyH.nil
            go_simp
            skip
            refine hK.out _ _ (⟨RX.c0, RX.c1, RX.c2, x0, x2⟩) (fun hHeld => ?_)
            clear hK K
            try simp only [Act.put, List.setIfInBounds_toArray, List.set_cons_zero, List.set_cons_succ, List.getElem_toArray, List.getElem_cons_zero, List.getElem_cons_succ]
            clear R5 S5
            generalize w5.alloc (.cells #[.int .i64 0, .int .i64 0, .int .i64 0] 24) = X5 at *
            have V3 := set3 (x := .int .i64 (0)) (y := .int .i64 (0)) (z := .int .i64 (0)) e0 e1 e2
            obtain ⟨v0, v1, v2, vo, vf⟩ := V3
            have RV := RX.far3 (x := .int .i64 (0)) (y := .int .i64 (0)) (z := .int .i64 (0)) hE vo vf
            have SV := SX.below ((((Below.refl w.heap.size _).setCell (p := ⟨w5.heap.size, 0, none⟩) (show w.heap.size ≤ w5.heap.size by omega) (.int .i64 (0))).setCell (p := ⟨w5.heap.size, 1, none⟩) (show w.heap.size ≤ w5.heap.size by omega) (.int .i64 (0))).setCell (p := ⟨w5.heap.size, 2, none⟩) (show w.heap.size ≤ w5.heap.size by omega) (.int .i64 (0)))
            have t4 := (vo b (off + k * 3) (by omega)).trans x0
            have t5 := (vo b (off + k * 3 + 2) (by omega)).trans x2
            clear RX SX x0 x2
            refine wpAnyH_ready (rs := [16]) (by kernel_rfl) (by simp) ?_
            refine AllReadyH.cons rfl (fun K hK => ?_) AllReadyH.nil
            go_simp
            skip
            refine hK.out _ _ (⟨RV.c0, RV.c1, RV.c2, t4, t5⟩) (fun hHeld => ?_)
            clear hK K
            try simp only [Act.put, List.setIfInBounds_toArray, List.set_cons_zero, List.set_cons_succ, List.getElem_toArray, List.getElem_cons_zero, List.getElem_cons_succ]
            clear e0 e1 e2 h0 h1 h2
            refine wpAnyH_take (i := 17) (v := ?_) rfl (by kernel_rfl) (by kernel_rfl) (by kernel_rfl) (fun _ _ _ h => h) (Or.inl ⟨by rfl, ?_⟩) (by assumption) ?_
            rotate_left
            · intro w hSw
              (try dsimp only at hSw)
              go_simp
              all_goals with_reducible rfl
            try simp only [Act.put, List.setIfInBounds_toArray, List.set_cons_zero, List.set_cons_succ, List.getElem_toArray, List.getElem_cons_zero, List.getElem_cons_succ]
            refine wpAnyH_done (by kernel_rfl) ?_ _
            clear hHeld vo vf t4 t5
            obtain ⟨-, -, -, -, -, -, z0, z1, z2, g0, g1, g2, -, -⟩ := id RV
            have HF := Lib.hid (RV.fin (.int .i64 0) (.int .i64 0) (.int .i64 0))
            clear RV SV
            generalize (((X5).setCell ⟨w5.heap.size, 0, none⟩ (.int .i64 (0))).setCell ⟨w5.heap.size, 1, none⟩ (.int .i64 (0))).setCell ⟨w5.heap.size, 2, none⟩ (.int .i64 (0)) = WV at *
            go_wp2
            exact bodyPost_ret (v := .tuple #[.agg #[.int .i64 0, .int .i64 0, .int .i64 0], .bool false]) (by simp [results, Try.results18, go_sem, z0, z1, z2]) rfl ⟨by rw [K.re_no HT.out, HT.out], HF.out⟩
          · go_simp
            have R5 := RD.al (.cells #[.int .i64 0, .int .i64 0, .int .i64 0] 24)
            have S5 := SD.below ((Below.refl w.heap.size V).alloc RD.bel.size (.cells #[.int .i64 0, .int .i64 0, .int .i64 0] 24))
            have x0' := (World.cell?_alloc_lt V (.cells #[.int .i64 0, .int .i64 0, .int .i64 0] 24) ⟨b, off + k * 3, none⟩ hbw).trans q0
            have x2' := (World.cell?_alloc_lt V (.cells #[.int .i64 0, .int .i64 0, .int .i64 0] 24) ⟨b, off + k * 3 + 2, none⟩ hbw).trans q2
            have hE : w.heap.size + 1 < V.heap.size := RD.lt
            refine hK.out _ _ ⟨R5.c0, R5.c1, R5.c2, x0', x2'⟩ (fun hHeld => ?_)
            clear hK K
            try simp only [Act.put, List.setIfInBounds_toArray, List.set_cons_zero, List.set_cons_succ, List.getElem_toArray, List.getElem_cons_zero, List.getElem_cons_succ]
            refine wpAnyH_ready (rs := [11]) (by kernel_rfl) (by simp) ?_
            refine AllReadyH.cons rfl (fun K hK => ?_) AllReadyH.nil
            go_simp
            (go_at_call 52; refine (K3.out _).mono ?_; rintro e w5 ⟨rfl, b5⟩; have RX := R5.b b5; have SX := S5.below (b5.mono R5.bel.size); have x0 := (b5.cell (p := ⟨b, off + k * 3, none⟩) (by simp; omega)).trans x0'; have x2 := (b5.cell (p := ⟨b, off + k * 3 + 2, none⟩) (by simp; omega)).trans x2')
            refine hK.out _ _ (⟨RX.c0, RX.c1, RX.c2, x0, x2⟩) (fun hHeld => ?_)
            clear hK K
            try simp only [Act.put, List.setIfInBounds_toArray, List.set_cons_zero, List.set_cons_succ, List.getElem_toArray, List.getElem_cons_zero, List.getElem_cons_succ]
            have e0 : w5.cell? ⟨V.heap.size, 0, none⟩ = some (.int .i64 0) := (b5.cell (p := ⟨V.heap.size, 0, none⟩) (by simp)).trans (by simp)
            have e1 : w5.cell? ⟨V.heap.size, 1, none⟩ = some (.int .i64 0) := (b5.cell (p := ⟨V.heap.size, 1, none⟩) (by simp)).trans (by simp)
            have e2 : w5.cell? ⟨V.heap.size, 2, none⟩ = some (.int .i64 0) := (b5.cell (p := ⟨V.heap.size, 2, none⟩) (by simp)).trans (by simp)
            have h0 : w5.frozen? ⟨V.heap.size, 0, none⟩ = false := (b5.frozen (p := ⟨V.heap.size, 0, none⟩) (by simp)).trans (by simp)
            have h1 : w5.frozen? ⟨V.heap.size, 1, none⟩ = false := (b5.frozen (p := ⟨V.heap.size, 1, none⟩) (by simp)).trans (by simp)
            have h2 : w5.frozen? ⟨V.heap.size, 2, none⟩ = false := (b5.frozen (p := ⟨V.heap.size, 2, none⟩) (by simp)).trans (by simp)
            clear R5 S5 RD SD q0 q2 b5 x0' x2'
            refine wpAnyH_take (i := 12) (v := ?_) rfl (by kernel_rfl) (by kernel_rfl) (by kernel_rfl) (fun _ _ _ h => h) (Or.inl ⟨by rfl, ?_⟩) (by assumption) ?_
            rotate_left
            · intro w hSw
              (try dsimp only at hSw)
              go_simp
              all_goals with_reducible rfl
            try simp only [Act.put, List.setIfInBounds_toArray, List.set_cons_zero, List.set_cons_succ, List.getElem_toArray, List.getElem_cons_zero, List.getElem_cons_succ]
            refine wpAnyH_take (i := 13) (v := ?_) rfl (by kernel_rfl) (by kernel_rfl) (by kernel_rfl) (fun _ _ _ h => h) (Or.inl ⟨by rfl, ?_⟩) (by assumption) ?_
            rotate_left
            · intro w hSw
              (try dsimp only at hSw)
              go_simp
              all_goals with_reducible rfl
            try simp only [Act.put, List.setIfInBounds_toArray, List.set_cons_zero, List.set_cons_succ, List.getElem_toArray, List.getElem_cons_zero, List.getElem_cons_succ]
            refine wpAnyH_take (i := 14) (v := ?_) rfl (by kernel_rfl) (by kernel_rfl) (by kernel_rfl) (fun _ _ _ h => h) (Or.inl ⟨by rfl, ?_⟩) (by assumption) ?_
            rotate_left
            · intro w hSw
              (try dsimp only at hSw)
              go_simp
              all_goals with_reducible rfl
            try simp only [Act.put, List.setIfInBounds_toArray, List.set_cons_zero, List.set_cons_succ, List.getElem_toArray, List.getElem_cons_zero, List.getElem_cons_succ]
            have V3 := set3 (x := .int .i64 (0)) (y := .int .i64 (0)) (z := .int .i64 (0)) e0 e1 e2
            obtain ⟨v0, v1, v2, vo, vf⟩ := V3
            have RV := RX.far3 (x := .int .i64 (0)) (y := .int .i64 (0)) (z := .int .i64 (0)) hE vo vf
            have SV := SX.below ((((Below.refl w.heap.size _).setCell (p := ⟨V.heap.size, 0, none⟩) (show w.heap.size ≤ V.heap.size by omega) (.int .i64 (0))).setCell (p := ⟨V.heap.size, 1, none⟩) (show w.heap.size ≤ V.heap.size by omega) (.int .i64 (0))).setCell (p := ⟨V.heap.size, 2, none⟩) (show w.heap.size ≤ V.heap.size by omega) (.int .i64 (0)))
            have t4 := (vo b (off + k * 3) (by omega)).trans x0
            have t5 := (vo b (off + k * 3 + 2) (by omega)).trans x2
            clear RX SX x0 x2
            refine wpAnyH_ready (rs := [16]) (by kernel_rfl) (by simp) ?_
            refine AllReadyH.cons rfl (fun K hK => ?_) AllReadyH.nil
            go_simp
            skip
            refine hK.out _ _ (⟨RV.c0, RV.c1, RV.c2, t4, t5⟩) (fun hHeld => ?_)
            clear hK K
            try simp only [Act.put, List.setIfInBounds_toArray, List.set_cons_zero, List.set_cons_succ, List.getElem_toArray, List.getElem_cons_zero, List.getElem_cons_succ]
            clear e0 e1 e2 h0 h1 h2
            refine wpAnyH_take (i := 17) (v := ?_) rfl (by kernel_rfl) (by kernel_rfl) (by kernel_rfl) (fun _ _ _ h => h) (Or.inl ⟨by rfl, ?_⟩) (by assumption) ?_
            rotate_left
            · intro w hSw
              (try dsimp only at hSw)
              go_simp
              all_goals with_reducible rfl
            try simp only [Act.put, List.setIfInBounds_toArray, List.set_cons_zero, List.set_cons_succ, List.getElem_toArray, List.getElem_cons_zero, List.getElem_cons_succ]
            refine wpAnyH_done (by kernel_rfl) ?_ _
            clear hHeld vo vf t4 t5
            obtain ⟨-, -, -, -, -, -, z0, z1, z2, g0, g1, g2, -, -⟩ := id RV
            have HF := Lib.hid (RV.fin (.int .i64 0) (.int .i64 0) (.int .i64 0))
            clear RV SV
            generalize (((w5).setCell ⟨V.heap.size, 0, none⟩ (.int .i64 (0))).setCell ⟨V.heap.size, 1, none⟩ (.int .i64 (0))).setCell ⟨V.heap.size, 2, none⟩ (.int .i64 (0)) = WV at *
            go_wp2
            exact bodyPost_ret (v := .tuple #[.agg #[.int .i64 0, .int .i64 0, .int .i64 0], .bool false]) (by simp [results, Try.results18, go_sem, z0, z1, z2]) rfl ⟨by rw [K.re_no HT.out, HT.out], HF.out⟩
        · have hs' := hs
          unfold K.sk at hs'
          have HK := Lib.hid (K.rk_succ HRK.out hs)
          have e0' : K.so (K.rs s l k).1 (K.rs s l k).2.1 (K.rs s l k).2.2 (Q.tm l k) (Q.of l k) = (K.rs s l (k + 1)).1 := rfl
          have e1' : K.sr (K.rs s l k).1 (K.rs s l k).2.1 (K.rs s l k).2.2 (Q.tm l k) (Q.of l k) = (K.rs s l (k + 1)).2.1 := rfl
          have e2' : K.st (K.rs s l k).1 (K.rs s l k).2.1 (K.rs s l k).2.2 (Q.tm l k) (Q.of l k) = (K.rs s l (k + 1)).2.2 := rfl
          simp only [hs'] at k3
          simp only [e0', e1', e2'] at k3
          have K3 := Lib.hid k3
          clear k3 hs hs' r0 r1 r2 e0' e1' e2'
          go_wp2_with fail
          refine wp_region_held_drew (S := (fun w' => w'.cell? ⟨w.heap.size, 0, none⟩ = some (.int .i64 (K.rs s l k).1) ∧ w'.cell? ⟨w.heap.size, 1, none⟩ = some (.int .i64 (K.rs s l k).2.1) ∧ w'.cell? ⟨w.heap.size, 2, none⟩ = some (.int .i64 (K.rs s l k).2.2) ∧ w'.cell? ⟨b, off + k * 3, none⟩ = some (.int .i64 (Q.of l k)) ∧ w'.cell? ⟨b, off + k * 3 + 2, none⟩ = some (.int .i64 (Q.tm l k)))) (by kernel_rfl) (⟨RA.c0, RA.c1, RA.c2, q0, q2⟩) (fun hHeld => ?_)
          have RD := RA.drew
          have SD := HS.out.drew
          replace q0 : wr.drew.cell? ⟨b, off + k * 3, none⟩ = some (.int .i64 (Q.of l k)) := q0
          replace q2 : wr.drew.cell? ⟨b, off + k * 3 + 2, none⟩ = some (.int .i64 (Q.tm l k)) := q2
          have hbw : b < wr.drew.heap.size := by have := RD.lt; omega
          clear RA HS q1
          generalize wr.drew = V at *
          refine wpAnyH_take (i := 0) (v := ?_) rfl (by kernel_rfl) (by kernel_rfl) (by kernel_rfl) (fun _ _ _ h => h) (Or.inl ⟨by rfl, ?_⟩) (by assumption) ?_
          rotate_left
          · intro w hSw
            (try dsimp only at hSw)
            go_simp
            all_goals with_reducible rfl
          try simp only [Act.put, List.setIfInBounds_toArray, List.set_cons_zero, List.set_cons_succ, List.getElem_toArray, List.getElem_cons_zero]
          refine wpAnyH_take (i := 1) (v := ?_) rfl (by kernel_rfl) (by kernel_rfl) (by kernel_rfl) (fun _ _ _ h => h) (Or.inl ⟨by rfl, ?_⟩) (by assumption) ?_
          rotate_left
          · intro w hSw
            (try dsimp only at hSw)
            go_simp
            all_goals with_reducible rfl
          try simp only [Act.put, List.setIfInBounds_toArray, List.set_cons_zero, List.set_cons_succ, List.getElem_toArray, List.getElem_cons_zero, List.getElem_cons_succ]
          refine wpAnyH_take (i := 2) (v := ?_) rfl (by kernel_rfl) (by kernel_rfl) (by kernel_rfl) (fun _ _ _ h => h) (Or.inl ⟨by rfl, ?_⟩) (by assumption) ?_
          rotate_left
          · intro w hSw
            (try dsimp only at hSw)
            go_simp
            all_goals with_reducible rfl
          try simp only [Act.put, List.setIfInBounds_toArray, List.set_cons_zero, List.set_cons_succ, List.getElem_toArray, List.getElem_cons_zero, List.getElem_cons_succ]
          refine wpAnyH_take (i := 3) (v := ?_) rfl (by kernel_rfl) (by kernel_rfl) (by kernel_rfl) (fun _ _ _ h => h) (Or.inl ⟨by rfl, ?_⟩) (by assumption) ?_
          rotate_left
          · intro w hSw
            (try dsimp only at hSw)
            go_simp
            all_goals with_reducible rfl
          try simp only [Act.put, List.setIfInBounds_toArray, List.set_cons_zero, List.set_cons_succ, List.getElem_toArray, List.getElem_cons_zero, List.getElem_cons_succ]
          refine wpAnyH_take (i := 4) (v := ?_) rfl (by kernel_rfl) (by kernel_rfl) (by kernel_rfl) (fun _ _ _ h => h) (Or.inl ⟨by rfl, ?_⟩) (by assumption) ?_
          rotate_left
          · intro w hSw
            (try dsimp only at hSw)
            go_simp
            all_goals with_reducible rfl
          try simp only [Act.put, List.setIfInBounds_toArray, List.set_cons_zero, List.set_cons_succ, List.getElem_toArray, List.getElem_cons_zero, List.getElem_cons_succ]
          refine wpAnyH_take (i := 5) (v := ?_) rfl (by kernel_rfl) (by kernel_rfl) (by kernel_rfl) (fun _ _ _ h => h) (Or.inl ⟨by rfl, ?_⟩) (by assumption) ?_
          rotate_left
          · intro w hSw
            (try dsimp only at hSw)
            go_simp
            all_goals with_reducible rfl
          try simp only [Act.put, List.setIfInBounds_toArray, List.set_cons_zero, List.set_cons_succ, List.getElem_toArray, List.getElem_cons_zero, List.getElem_cons_succ]
          refine wpAnyH_take (i := 6) (v := ?_) rfl (by kernel_rfl) (by kernel_rfl) (by kernel_rfl) (fun _ _ _ h => h) (Or.inl ⟨by rfl, ?_⟩) (by assumption) ?_
          rotate_left
          · intro w hSw
            (try dsimp only at hSw)
            go_simp
            all_goals with_reducible rfl
          try simp only [Act.put, List.setIfInBounds_toArray, List.set_cons_zero, List.set_cons_succ, List.getElem_toArray, List.getElem_cons_zero, List.getElem_cons_succ]
          refine wpAnyH_take (i := 7) (v := ?_) rfl (by kernel_rfl) (by kernel_rfl) (by kernel_rfl) (fun _ _ _ h => h) (Or.inl ⟨by rfl, ?_⟩) (by assumption) ?_
          rotate_left
          · intro w hSw
            (try dsimp only at hSw)
            go_simp
            all_goals with_reducible rfl
          try simp only [Act.put, List.setIfInBounds_toArray, List.set_cons_zero, List.set_cons_succ, List.getElem_toArray, List.getElem_cons_zero, List.getElem_cons_succ]
          refine wpAnyH_take (i := 8) (v := ?_) rfl (by kernel_rfl) (by kernel_rfl) (by kernel_rfl) (fun _ _ _ h => h) (Or.inl ⟨by rfl, ?_⟩) (by assumption) ?_
          rotate_left
          · intro w hSw
            (try dsimp only at hSw)
            go_simp
            all_goals with_reducible rfl
          try simp only [Act.put, List.setIfInBounds_toArray, List.set_cons_zero, List.set_cons_succ, List.getElem_toArray, List.getElem_cons_zero, List.getElem_cons_succ]
          refine wpAnyH_take (i := 9) (v := ?_) rfl (by kernel_rfl) (by kernel_rfl) (by kernel_rfl) (fun _ _ _ h => h) (Or.inl ⟨by rfl, ?_⟩) (by assumption) ?_
          rotate_left
          · intro w hSw
            (try dsimp only at hSw)
            go_simp
            all_goals with_reducible rfl
          try simp only [Act.put, List.setIfInBounds_toArray, List.set_cons_zero, List.set_cons_succ, List.getElem_toArray, List.getElem_cons_zero, List.getElem_cons_succ]
          refine wpAnyH_take (i := 10) (v := ?_) rfl (by kernel_rfl) (by kernel_rfl) (by kernel_rfl) (fun _ _ _ h => h) (Or.inl ⟨by rfl, ?_⟩) (by assumption) ?_
          rotate_left
          · intro w hSw
            (try dsimp only at hSw)
            go_simp
            all_goals with_reducible rfl
          try simp only [Act.put, List.setIfInBounds_toArray, List.set_cons_zero, List.set_cons_succ, List.getElem_toArray, List.getElem_cons_zero, List.getElem_cons_succ]
          refine wpAnyH_ready (rs := [11, 15]) (by kernel_rfl) (by simp) ?_
          refine AllReadyH.cons rfl (fun K hK => ?_) (AllReadyH.cons rfl (fun K hK => ?_) AllReadyH.nil)
          · go_simp
            (go_at_call 52; refine (K3.out _).mono ?_; rintro e w5 ⟨rfl, b5⟩)
            have R5 := RD.b b5
            have S5 := SD.below (b5.mono RD.bel.size)
            have x0 := (b5.cell (p := ⟨b, off + k * 3, none⟩) hbw).trans q0
            have x2 := (b5.cell (p := ⟨b, off + k * 3 + 2, none⟩) hbw).trans q2
            have hb5 := Nat.lt_of_lt_of_le hbw b5.size
            refine hK.out _ _ ⟨R5.c0, R5.c1, R5.c2, x0, x2⟩ (fun hHeld => ?_)
            clear hK K RD SD q0 q2 b5
            try simp only [Act.put, List.setIfInBounds_toArray, List.set_cons_zero, List.set_cons_succ, List.getElem_toArray, List.getElem_cons_zero, List.getElem_cons_succ]
            refine wpAnyH_take (i := 12) (v := ?_) rfl (by kernel_rfl) (by kernel_rfl) (by kernel_rfl) (fun _ _ _ h => h) (Or.inl ⟨by rfl, ?_⟩) (by assumption) ?_
            rotate_left
            · intro w hSw
              (try dsimp only at hSw)
              go_simp
              all_goals with_reducible rfl
            try simp only [Act.put, List.setIfInBounds_toArray, List.set_cons_zero, List.set_cons_succ, List.getElem_toArray, List.getElem_cons_zero, List.getElem_cons_succ]
            refine wpAnyH_take (i := 13) (v := ?_) rfl (by kernel_rfl) (by kernel_rfl) (by kernel_rfl) (fun _ _ _ h => h) (Or.inl ⟨by rfl, ?_⟩) (by assumption) ?_
            rotate_left
            · intro w hSw
              (try dsimp only at hSw)
              go_simp
              all_goals with_reducible rfl
            try simp only [Act.put, List.setIfInBounds_toArray, List.set_cons_zero, List.set_cons_succ, List.getElem_toArray, List.getElem_cons_zero, List.getElem_cons_succ]
            refine wpAnyH_take (i := 14) (v := ?_) rfl (by kernel_rfl) (by kernel_rfl) (by kernel_rfl) (fun _ _ _ h => h) (Or.inl ⟨by rfl, ?_⟩) (by assumption) ?_
            rotate_left
            · intro w hSw
              (try dsimp only at hSw)
              go_simp
              all_goals with_reducible rfl
            try simp only [Act.put, List.setIfInBounds_toArray, List.set_cons_zero, List.set_cons_succ, List.getElem_toArray, List.getElem_cons_zero, List.getElem_cons_succ]
            have RX := R5.al (.cells #[.int .i64 0, .int .i64 0, .int .i64 0] 24)
            have SX := S5.below ((Below.refl w.heap.size w5).alloc R5.bel.size (.cells #[.int .i64 0, .int .i64 0, .int .i64 0] 24))
            replace x0 := (World.cell?_alloc_lt w5 (.cells #[.int .i64 0, .int .i64 0, .int .i64 0] 24) ⟨b, off + k * 3, none⟩ hb5).trans x0
            replace x2 := (World.cell?_alloc_lt w5 (.cells #[.int .i64 0, .int .i64 0, .int .i64 0] 24) ⟨b, off + k * 3 + 2, none⟩ hb5).trans x2
            have e0 : (w5.alloc (.cells #[.int .i64 0, .int .i64 0, .int .i64 0] 24)).cell? ⟨w5.heap.size, 0, none⟩ = some (.int .i64 0) := by simp
            have e1 : (w5.alloc (.cells #[.int .i64 0, .int .i64 0, .int .i64 0] 24)).cell? ⟨w5.heap.size, 1, none⟩ = some (.int .i64 0) := by simp
            have e2 : (w5.alloc (.cells #[.int .i64 0, .int .i64 0, .int .i64 0] 24)).cell? ⟨w5.heap.size, 2, none⟩ = some (.int .i64 0) := by simp
            have h0 : (w5.alloc (.cells #[.int .i64 0, .int .i64 0, .int .i64 0] 24)).frozen? ⟨w5.heap.size, 0, none⟩ = false := by simp
            have h1 : (w5.alloc (.cells #[.int .i64 0, .int .i64 0, .int .i64 0] 24)).frozen? ⟨w5.heap.size, 1, none⟩ = false := by simp
            have h2 : (w5.alloc (.cells #[.int .i64 0, .int .i64 0, .int .i64 0] 24)).frozen? ⟨w5.heap.size, 2, none⟩ = false := by simp
            have hE : w.heap.size + 1 < w5.heap.size := R5.lt
            refine wpAnyH_ready (rs := [15]) (by kernel_rfl) (by simp) ?_
            refine AllReadyH.cons rfl (fun K hK => ?_) AllReadyH.nil
            go_simp
            skip
            refine hK.out _ _ (⟨RX.c0, RX.c1, RX.c2, x0, x2⟩) (fun hHeld => ?_)
            clear hK K
            try simp only [Act.put, List.setIfInBounds_toArray, List.set_cons_zero, List.set_cons_succ, List.getElem_toArray, List.getElem_cons_zero, List.getElem_cons_succ]
            clear R5 S5
            generalize w5.alloc (.cells #[.int .i64 0, .int .i64 0, .int .i64 0] 24) = X5 at *
            have V3 := set3 (x := .int .i64 ((K.rs s l (k + 1)).1)) (y := .int .i64 ((K.rs s l (k + 1)).2.1)) (z := .int .i64 ((K.rs s l (k + 1)).2.2)) e0 e1 e2
            obtain ⟨v0, v1, v2, vo, vf⟩ := V3
            have RV := RX.far3 (x := .int .i64 ((K.rs s l (k + 1)).1)) (y := .int .i64 ((K.rs s l (k + 1)).2.1)) (z := .int .i64 ((K.rs s l (k + 1)).2.2)) hE vo vf
            have SV := SX.below ((((Below.refl w.heap.size _).setCell (p := ⟨w5.heap.size, 0, none⟩) (show w.heap.size ≤ w5.heap.size by omega) (.int .i64 ((K.rs s l (k + 1)).1))).setCell (p := ⟨w5.heap.size, 1, none⟩) (show w.heap.size ≤ w5.heap.size by omega) (.int .i64 ((K.rs s l (k + 1)).2.1))).setCell (p := ⟨w5.heap.size, 2, none⟩) (show w.heap.size ≤ w5.heap.size by omega) (.int .i64 ((K.rs s l (k + 1)).2.2)))
            have t4 := (vo b (off + k * 3) (by omega)).trans x0
            have t5 := (vo b (off + k * 3 + 2) (by omega)).trans x2
            clear RX SX x0 x2
            refine wpAnyH_ready (rs := [16]) (by kernel_rfl) (by simp) ?_
            refine AllReadyH.cons rfl (fun K hK => ?_) AllReadyH.nil
            go_simp
            skip
            refine hK.out _ _ (⟨RV.c0, RV.c1, RV.c2, t4, t5⟩) (fun hHeld => ?_)
            clear hK K
            try simp only [Act.put, List.setIfInBounds_toArray, List.set_cons_zero, List.set_cons_succ, List.getElem_toArray, List.getElem_cons_zero, List.getElem_cons_succ]
            clear e0 e1 e2 h0 h1 h2
            refine wpAnyH_take (i := 17) (v := ?_) rfl (by kernel_rfl) (by kernel_rfl) (by kernel_rfl) (fun _ _ _ h => h) (Or.inl ⟨by rfl, ?_⟩) (by assumption) ?_
            rotate_left
            · intro w hSw
              (try dsimp only at hSw)
              go_simp
              all_goals with_reducible rfl
            try simp only [Act.put, List.setIfInBounds_toArray, List.set_cons_zero, List.set_cons_succ, List.getElem_toArray, List.getElem_cons_zero, List.getElem_cons_succ]
            refine wpAnyH_done (by kernel_rfl) ?_ _
            clear hHeld vo vf t4 t5
            have R6 := Lib.hid (RV.set ((K.rs s l (k + 1)).1) ((K.rs s l (k + 1)).2.1) ((K.rs s l (k + 1)).2.2))
            have S6 := Lib.hid (SV.below ((((Below.refl w.heap.size _).setCell (p := ⟨w.heap.size, 0, none⟩) (Nat.le_refl _) (.int .i64 ((K.rs s l (k + 1)).1))).setCell (p := ⟨w.heap.size, 1, none⟩) (Nat.le_refl _) (.int .i64 ((K.rs s l (k + 1)).2.1))).setCell (p := ⟨w.heap.size, 2, none⟩) (Nat.le_refl _) (.int .i64 ((K.rs s l (k + 1)).2.2))))
            have u0 := RV.c0
            have u1 := RV.c1
            have u2 := RV.c2
            have y0 := RV.f0
            have y1 := RV.f1
            have y2 := RV.f2
            clear RV SV
            generalize (((X5).setCell ⟨w5.heap.size, 0, none⟩ (.int .i64 ((K.rs s l (k + 1)).1))).setCell ⟨w5.heap.size, 1, none⟩ (.int .i64 ((K.rs s l (k + 1)).2.1))).setCell ⟨w5.heap.size, 2, none⟩ (.int .i64 ((K.rs s l (k + 1)).2.2)) = WV at *
            go_wp2
            go_roundw
            case rel => exact ⟨k + 1, by omega, by go_num, HK.out, R6.out, S6.out⟩
            case measure => simp [intOf]; omega
          · go_simp
            have R5 := RD.al (.cells #[.int .i64 0, .int .i64 0, .int .i64 0] 24)
            have S5 := SD.below ((Below.refl w.heap.size V).alloc RD.bel.size (.cells #[.int .i64 0, .int .i64 0, .int .i64 0] 24))
            have x0' := (World.cell?_alloc_lt V (.cells #[.int .i64 0, .int .i64 0, .int .i64 0] 24) ⟨b, off + k * 3, none⟩ hbw).trans q0
            have x2' := (World.cell?_alloc_lt V (.cells #[.int .i64 0, .int .i64 0, .int .i64 0] 24) ⟨b, off + k * 3 + 2, none⟩ hbw).trans q2
            have hE : w.heap.size + 1 < V.heap.size := RD.lt
            refine hK.out _ _ ⟨R5.c0, R5.c1, R5.c2, x0', x2'⟩ (fun hHeld => ?_)
            clear hK K
            try simp only [Act.put, List.setIfInBounds_toArray, List.set_cons_zero, List.set_cons_succ, List.getElem_toArray, List.getElem_cons_zero, List.getElem_cons_succ]
            refine wpAnyH_ready (rs := [11]) (by kernel_rfl) (by simp) ?_
            refine AllReadyH.cons rfl (fun K hK => ?_) AllReadyH.nil
            go_simp
            (go_at_call 52; refine (K3.out _).mono ?_; rintro e w5 ⟨rfl, b5⟩; have RX := R5.b b5; have SX := S5.below (b5.mono R5.bel.size); have x0 := (b5.cell (p := ⟨b, off + k * 3, none⟩) (by simp; omega)).trans x0'; have x2 := (b5.cell (p := ⟨b, off + k * 3 + 2, none⟩) (by simp; omega)).trans x2')
            refine hK.out _ _ (⟨RX.c0, RX.c1, RX.c2, x0, x2⟩) (fun hHeld => ?_)
            clear hK K
            try simp only [Act.put, List.setIfInBounds_toArray, List.set_cons_zero, List.set_cons_succ, List.getElem_toArray, List.getElem_cons_zero, List.getElem_cons_succ]
            have e0 : w5.cell? ⟨V.heap.size, 0, none⟩ = some (.int .i64 0) := (b5.cell (p := ⟨V.heap.size, 0, none⟩) (by simp)).trans (by simp)
            have e1 : w5.cell? ⟨V.heap.size, 1, none⟩ = some (.int .i64 0) := (b5.cell (p := ⟨V.heap.size, 1, none⟩) (by simp)).trans (by simp)
            have e2 : w5.cell? ⟨V.heap.size, 2, none⟩ = some (.int .i64 0) := (b5.cell (p := ⟨V.heap.size, 2, none⟩) (by simp)).trans (by simp)
            have h0 : w5.frozen? ⟨V.heap.size, 0, none⟩ = false := (b5.frozen (p := ⟨V.heap.size, 0, none⟩) (by simp)).trans (by simp)
            have h1 : w5.frozen? ⟨V.heap.size, 1, none⟩ = false := (b5.frozen (p := ⟨V.heap.size, 1, none⟩) (by simp)).trans (by simp)
            have h2 : w5.frozen? ⟨V.heap.size, 2, none⟩ = false := (b5.frozen (p := ⟨V.heap.size, 2, none⟩) (by simp)).trans (by simp)
            clear R5 S5 RD SD q0 q2 b5 x0' x2'
            refine wpAnyH_take (i := 12) (v := ?_) rfl (by kernel_rfl) (by kernel_rfl) (by kernel_rfl) (fun _ _ _ h => h) (Or.inl ⟨by rfl, ?_⟩) (by assumption) ?_
            rotate_left
            · intro w hSw
              (try dsimp only at hSw)
              go_simp
              all_goals with_reducible rfl
            try simp only [Act.put, List.setIfInBounds_toArray, List.set_cons_zero, List.set_cons_succ, List.getElem_toArray, List.getElem_cons_zero, List.getElem_cons_succ]
            refine wpAnyH_take (i := 13) (v := ?_) rfl (by kernel_rfl) (by kernel_rfl) (by kernel_rfl) (fun _ _ _ h => h) (Or.inl ⟨by rfl, ?_⟩) (by assumption) ?_
            rotate_left
            · intro w hSw
              (try dsimp only at hSw)
              go_simp
              all_goals with_reducible rfl
            try simp only [Act.put, List.setIfInBounds_toArray, List.set_cons_zero, List.set_cons_succ, List.getElem_toArray, List.getElem_cons_zero, List.getElem_cons_succ]
            refine wpAnyH_take (i := 14) (v := ?_) rfl (by kernel_rfl) (by kernel_rfl) (by kernel_rfl) (fun _ _ _ h => h) (Or.inl ⟨by rfl, ?_⟩) (by assumption) ?_
            rotate_left
            · intro w hSw
              (try dsimp only at hSw)
              go_simp
              all_goals with_reducible rfl
            try simp only [Act.put, List.setIfInBounds_toArray, List.set_cons_zero, List.set_cons_succ, List.getElem_toArray, List.getElem_cons_zero, List.getElem_cons_succ]
            have V3 := set3 (x := .int .i64 ((K.rs s l (k + 1)).1)) (y := .int .i64 ((K.rs s l (k + 1)).2.1)) (z := .int .i64 ((K.rs s l (k + 1)).2.2)) e0 e1 e2
            obtain ⟨v0, v1, v2, vo, vf⟩ := V3
            have RV := RX.far3 (x := .int .i64 ((K.rs s l (k + 1)).1)) (y := .int .i64 ((K.rs s l (k + 1)).2.1)) (z := .int .i64 ((K.rs s l (k + 1)).2.2)) hE vo vf
            have SV := SX.below ((((Below.refl w.heap.size _).setCell (p := ⟨V.heap.size, 0, none⟩) (show w.heap.size ≤ V.heap.size by omega) (.int .i64 ((K.rs s l (k + 1)).1))).setCell (p := ⟨V.heap.size, 1, none⟩) (show w.heap.size ≤ V.heap.size by omega) (.int .i64 ((K.rs s l (k + 1)).2.1))).setCell (p := ⟨V.heap.size, 2, none⟩) (show w.heap.size ≤ V.heap.size by omega) (.int .i64 ((K.rs s l (k + 1)).2.2)))
            have t4 := (vo b (off + k * 3) (by omega)).trans x0
            have t5 := (vo b (off + k * 3 + 2) (by omega)).trans x2
            clear RX SX x0 x2
            refine wpAnyH_ready (rs := [16]) (by kernel_rfl) (by simp) ?_
            refine AllReadyH.cons rfl (fun K hK => ?_) AllReadyH.nil
            go_simp
            skip
            refine hK.out _ _ (⟨RV.c0, RV.c1, RV.c2, t4, t5⟩) (fun hHeld => ?_)
            clear hK K
            try simp only [Act.put, List.setIfInBounds_toArray, List.set_cons_zero, List.set_cons_succ, List.getElem_toArray, List.getElem_cons_zero, List.getElem_cons_succ]
            clear e0 e1 e2 h0 h1 h2
            refine wpAnyH_take (i := 17) (v := ?_) rfl (by kernel_rfl) (by kernel_rfl) (by kernel_rfl) (fun _ _ _ h => h) (Or.inl ⟨by rfl, ?_⟩) (by assumption) ?_
            rotate_left
            · intro w hSw
              (try dsimp only at hSw)
              go_simp
              all_goals with_reducible rfl
            try simp only [Act.put, List.setIfInBounds_toArray, List.set_cons_zero, List.set_cons_succ, List.getElem_toArray, List.getElem_cons_zero, List.getElem_cons_succ]
            refine wpAnyH_done (by kernel_rfl) ?_ _
            clear hHeld vo vf t4 t5
            have R6 := Lib.hid (RV.set ((K.rs s l (k + 1)).1) ((K.rs s l (k + 1)).2.1) ((K.rs s l (k + 1)).2.2))
            have S6 := Lib.hid (SV.below ((((Below.refl w.heap.size _).setCell (p := ⟨w.heap.size, 0, none⟩) (Nat.le_refl _) (.int .i64 ((K.rs s l (k + 1)).1))).setCell (p := ⟨w.heap.size, 1, none⟩) (Nat.le_refl _) (.int .i64 ((K.rs s l (k + 1)).2.1))).setCell (p := ⟨w.heap.size, 2, none⟩) (Nat.le_refl _) (.int .i64 ((K.rs s l (k + 1)).2.2))))
            have u0 := RV.c0
            have u1 := RV.c1
            have u2 := RV.c2
            have y0 := RV.f0
            have y1 := RV.f1
            have y2 := RV.f2
            clear RV SV
            generalize (((w5).setCell ⟨V.heap.size, 0, none⟩ (.int .i64 ((K.rs s l (k + 1)).1))).setCell ⟨V.heap.size, 1, none⟩ (.int .i64 ((K.rs s l (k + 1)).2.1))).setCell ⟨V.heap.size, 2, none⟩ (.int .i64 ((K.rs s l (k + 1)).2.2)) = WV at *
            go_wp2
            go_roundw
            case rel => exact ⟨k + 1, by omega, by go_num, HK.out, R6.out, S6.out⟩
            case measure => simp [intOf]; omega
      · obtain rfl : k = n := by omega
        have HT : Hid (K.rok s l = true) := Lib.hid (K.rok_yes ⟨HRV.out, by rw [HL.out]; exact HRK.out⟩)
        have HE : Hid (K.re s l = K.rs s l k) := Lib.hid (by rw [K.re_yes HT.out, HL.out])
        obtain ⟨c0, c1, c2, f0, f1, f2, z0, z1, z2, g0, g1, g2, -, -⟩ := id R
        have HF := Lib.hid (R.fin (.int .i64 (K.rs s l k).1) (.int .i64 (K.rs s l k).2.1) (.int .i64 (K.rs s l k).2.2))
        clear R hS
        go_wp2
        exact bodyPost_ret (v := .tuple #[.agg #[.int .i64 (K.rs s l k).1, .int .i64 (K.rs s l k).2.1, .int .i64 (K.rs s l k).2.2], .bool true]) (by simp [results, Try.results18, go_sem, z0, z1, z2]) rfl ⟨by rw [HE.out, HT.out], HF.out⟩
end Go.Proofs.Ytljdnncodgnpcaa
