/-
  What chapter 6 says of samples in memory: the program's functions that only look at them.
-/
import Derived.Test.YtcbahomohlaakaaSample
import Derived.IntWalk
namespace Go.Proofs.Ytcbahomohlaakaa
open Go.RowKit
set_option linter.unusedVariables false
set_option maxHeartbeats 4000000 in
theorem vq_impl (B n c : Nat) (a : Option Addr) (l : List Q.Sm) (w : World) (h : Sms B w a n l) (hB : B ≤ w.heap.size) : Calls Try.prog 23 #[.slice a n c] w fun e w' => e = .returned (.bool (Q.vq l)) ∧ Below w.heap.size w w' := by
  obtain ⟨hl, hn, _⟩ := id h
  have HL := Lib.hid hl
  clear hl
  go_enter Try.func23, Try.ntmps23
  rcases inR_cases (n : Int) 1 8 with ⟨s0, s1⟩ | ⟨s0, s1⟩
  · go_wp2_with (go_at_call 46; refine (inR_impl _ _ _ _).mono ?_; rintro e w' ⟨rfl, rfl⟩)
    go_loopw [11] (fun i wr => ∃ k : Nat, k ≤ n ∧ Q.okTo l k ∧ i = .int .i64 k ∧ Below w.heap.size w wr) (fun i _ => n - (intOf i).toNat)
    case atStart => exact ⟨0, Nat.zero_le _, fun i hi => absurd hi (by omega), rfl, Below.refl _ _⟩
    case round =>
      obtain ⟨k, hk, hok, rfl, hs⟩ := hrel
      have HO := Lib.hid hok
      clear hok
      have h := (h.more hB).below hs
      have hsz := hs.size
      by_cases hlt : k < n
      · obtain ⟨b, off, rfl, hb, hc⟩ := h.at_ k hlt
        obtain ⟨c0, c1, c2⟩ := hc k hlt
        have HC := Lib.hid hc
        have hbr : b < wr.heap.size := by omega
        have hb2 := hs.alloc hsz (Obj.cells #[.int .i64 (Q.of l k), .int .i64 (Q.de l k), .int .i64 (Q.tm l k)] 26)
        have HB2 := Lib.hid hb2
        clear hc hb2 hs h
        rcases inR_cases (Q.of l k) (-1000000) 1000000 with ⟨r0, r1⟩ | ⟨r0, r1⟩
        · rcases inR_cases (Q.de l k) 0 1000000 with ⟨t0, t1⟩ | ⟨t0, t1⟩
          · rcases inR_cases (Q.tm l k) 0 3786479999 with ⟨u0, u1⟩ | ⟨u0, u1⟩
            · rcases Nat.eq_zero_or_pos k with hz | hz
              · subst hz
                have e0 : wr.cell? ⟨b, off, none⟩ = some (.int .i64 (Q.of l 0)) := by simpa using c0
                have e1 : wr.cell? ⟨b, off + 1, none⟩ = some (.int .i64 (Q.de l 0)) := by simpa using c1
                have e2 : wr.cell? ⟨b, off + 2, none⟩ = some (.int .i64 (Q.tm l 0)) := by simpa using c2
                have HS := Lib.hid (Q.okTo_succ HO.out ⟨⟨r1, t1, u1⟩, fun h => absurd h (by omega)⟩)
                clear r1 t1 u1 c0 c1 c2
                go_wp2_with (go_at_call 46; refine (inR_impl _ _ _ _).mono ?_; rintro e w' ⟨rfl, rfl⟩)
                go_quiet (fail)
                go_wp2
                go_roundw
                case rel => exact ⟨1, by omega, HS.out, by go_num, below_drewN HB2.out _⟩
                case measure => simp [intOf]; omega
              · obtain ⟨m, rfl⟩ : ∃ m, k = m + 1 := ⟨k - 1, by omega⟩
                have cm := (HC.out m (by omega)).2.2
                by_cases hd : Q.tm l m < Q.tm l (m + 1)
                · have hd' : decide (Q.tm l (m + 1) ≤ Q.tm l m) = false := decide_eq_false (by omega)
                  have HS := Lib.hid (Q.okTo_succ HO.out ⟨⟨r1, t1, u1⟩, fun _ => hd⟩)
                  clear r1 t1 u1 hd
                  go_wp2_with (go_at_call 46; refine (inR_impl _ _ _ _).mono ?_; rintro e w' ⟨rfl, rfl⟩)
                  go_quiet (fail)
                  go_wp2
                  go_roundw
                  case rel => exact ⟨m + 1 + 1, by omega, HS.out, by go_num, below_drewN HB2.out _⟩
                  case measure => simp [intOf]; omega
                · have hd' : Q.tm l (m + 1) ≤ Q.tm l m := by omega
                  have HF := Lib.hid (Q.vq_bad (m + 1) (by have := HL.out; omega) (fun h => hd (h.2 (by omega))))
                  clear r1 t1 u1 hd
                  go_wp2_with (go_at_call 46; refine (inR_impl _ _ _ _).mono ?_; rintro e w' ⟨rfl, rfl⟩)
                  go_quiet (fail)
                  go_wp2
                  go_ret
                  exact ⟨ret_bool HF.out.symm, below_drewN HB2.out _⟩
            · have HF := Lib.hid (Q.vq_bad k (by have := HL.out; omega) (fun h => u1 h.1.2.2))
              clear r1 t1 u1
              go_wp2_with (go_at_call 46; refine (inR_impl _ _ _ _).mono ?_; rintro e w' ⟨rfl, rfl⟩)
              go_ret
              exact ⟨ret_bool HF.out.symm, HB2.out⟩
          · have HF := Lib.hid (Q.vq_bad k (by have := HL.out; omega) (fun h => t1 h.1.2.1))
            clear r1 t1
            go_wp2_with (go_at_call 46; refine (inR_impl _ _ _ _).mono ?_; rintro e w' ⟨rfl, rfl⟩)
            go_ret
            exact ⟨ret_bool HF.out.symm, HB2.out⟩
        · have HF := Lib.hid (Q.vq_bad k (by have := HL.out; omega) (fun h => r1 h.1.1))
          clear r1
          go_wp2_with (go_at_call 46; refine (inR_impl _ _ _ _).mono ?_; rintro e w' ⟨rfl, rfl⟩)
          go_ret
          exact ⟨ret_bool HF.out.symm, HB2.out⟩
      · obtain rfl : k = n := by omega
        go_wp2
        go_ret
        exact ⟨ret_bool (Q.vq_yes (by have := HL.out; omega) (by have := HL.out; omega) (by rw [HL.out]; exact HO.out)).symm, hs⟩
  · go_wp2_with (go_at_call 46; refine (inR_impl _ _ _ _).mono ?_; rintro e w' ⟨rfl, rfl⟩)
    go_ret
    exact ⟨ret_bool (Q.vq_long (by have := HL.out; omega)).symm, Below.refl _ _⟩
theorem dist_impl (x y : Int) (hx : -1000000000 ≤ x ∧ x ≤ 1000000000) (hy : -1000000000 ≤ y ∧ y ≤ 1000000000) (w : World) : Calls Try.prog 40 #[.int .i64 x, .int .i64 y] w fun e w' => e = .returned (.int .i64 (Q.abs (x - y))) ∧ w = w' := by
  rcases Int.lt_or_le (x - y) 0 with h | h
  · have h2 : x - y < y - x := by omega
    rw [show Q.abs (x - y) = y - x from (if_pos h).trans (by omega)]
    go_enter Try.func40, Try.ntmps40
    go_wp2
    go_ret
    exact ⟨rfl, rfl⟩
  · have h2 : ¬ x - y < y - x := by omega
    rw [show Q.abs (x - y) = x - y from if_neg (by omega)]
    go_enter Try.func40, Try.ntmps40
    go_wp2
    go_ret
    exact ⟨rfl, rfl⟩
/-- The cells of the search for the fastest: its result and the fastest so far. -/
structure Bs (w wr : World) (D : Nat) (x y z : Int) : Prop where
  c0 : wr.cell? ⟨w.heap.size, 0, none⟩ = some (.int .i64 0)
  c1 : wr.cell? ⟨w.heap.size, 1, none⟩ = some (.int .i64 0)
  c2 : wr.cell? ⟨w.heap.size, 2, none⟩ = some (.int .i64 0)
  f0 : wr.frozen? ⟨w.heap.size, 0, none⟩ = false
  f1 : wr.frozen? ⟨w.heap.size, 1, none⟩ = false
  f2 : wr.frozen? ⟨w.heap.size, 2, none⟩ = false
  d0 : wr.cell? ⟨D, 0, none⟩ = some (.int .i64 x)
  d1 : wr.cell? ⟨D, 1, none⟩ = some (.int .i64 y)
  d2 : wr.cell? ⟨D, 2, none⟩ = some (.int .i64 z)
  g0 : wr.frozen? ⟨D, 0, none⟩ = false
  g1 : wr.frozen? ⟨D, 1, none⟩ = false
  g2 : wr.frozen? ⟨D, 2, none⟩ = false
  hD : w.heap.size < D
  lt : D < wr.heap.size
  bel : Below w.heap.size w wr
theorem Bs.keep {w wr w' : World} {D : Nat} {x y z : Int} (h : Bs w wr D x y z) (q : Below wr.heap.size wr w') : Bs w w' D x y z := by
  have z := h.lt
  have hg := h.hD
  have C : ∀ b o, b < wr.heap.size → w'.cell? ⟨b, o, none⟩ = wr.cell? ⟨b, o, none⟩ := fun b o hb => q.cell (p := ⟨b, o, none⟩) hb
  have F : ∀ b o, b < wr.heap.size → w'.frozen? ⟨b, o, none⟩ = wr.frozen? ⟨b, o, none⟩ := fun b o hb => q.frozen (p := ⟨b, o, none⟩) hb
  exact ⟨(C _ _ (by omega)).trans h.c0, (C _ _ (by omega)).trans h.c1, (C _ _ (by omega)).trans h.c2, (F _ _ (by omega)).trans h.f0, (F _ _ (by omega)).trans h.f1, (F _ _ (by omega)).trans h.f2, (C _ _ z).trans h.d0, (C _ _ z).trans h.d1, (C _ _ z).trans h.d2, (F _ _ z).trans h.g0, (F _ _ z).trans h.g1, (F _ _ z).trans h.g2, hg, Nat.lt_of_lt_of_le z q.size, h.bel.trans (q.mono h.bel.size)⟩
theorem Bs.set {w wr : World} {D : Nat} {x y z : Int} (h : Bs w wr D x y z) (x' y' z' : Int) : Bs w (((wr.setCell ⟨D, 0, none⟩ (.int .i64 x')).setCell ⟨D, 1, none⟩ (.int .i64 y')).setCell ⟨D, 2, none⟩ (.int .i64 z')) D x' y' z' := by
  have hg := h.hD
  have C : ∀ b o, b ≠ D → (((wr.setCell ⟨D, 0, none⟩ (.int .i64 x')).setCell ⟨D, 1, none⟩ (.int .i64 y')).setCell ⟨D, 2, none⟩ (.int .i64 z')).cell? ⟨b, o, none⟩ = wr.cell? ⟨b, o, none⟩ := fun b o hb => by
    rw [World.cell?_setCell_other _ _ _ _ (by intro e; injection e with e1; exact hb e1.symm), World.cell?_setCell_other _ _ _ _ (by intro e; injection e with e1; exact hb e1.symm), World.cell?_setCell_other _ _ _ _ (by intro e; injection e with e1; exact hb e1.symm)]
  have F : ∀ a : Addr, (((wr.setCell ⟨D, 0, none⟩ (.int .i64 x')).setCell ⟨D, 1, none⟩ (.int .i64 y')).setCell ⟨D, 2, none⟩ (.int .i64 z')).frozen? a = wr.frozen? a := fun a => by
    rw [World.frozen?_setCell, World.frozen?_setCell, World.frozen?_setCell]
  refine ⟨(C _ _ (by omega)).trans h.c0, (C _ _ (by omega)).trans h.c1, (C _ _ (by omega)).trans h.c2, (F _).trans h.f0, (F _).trans h.f1, (F _).trans h.f2, ?_, ?_, ?_, (F _).trans h.g0, (F _).trans h.g1, (F _).trans h.g2, hg, by simpa using h.lt, ((h.bel.setCell (show w.heap.size ≤ D by omega) _).setCell (show w.heap.size ≤ D by omega) _).setCell (show w.heap.size ≤ D by omega) _⟩
  · rw [World.cell?_setCell_other _ _ _ _ (by simp), World.cell?_setCell_other _ _ _ _ (by simp)]; exact World.cell?_setCell_same _ _ _ h.d0
  · rw [World.cell?_setCell_other _ _ _ _ (by simp)]; exact World.cell?_setCell_same _ _ _ (u := .int .i64 y) (by rw [World.cell?_setCell_other _ _ _ _ (by simp)]; exact h.d1)
  · exact World.cell?_setCell_same _ _ _ (u := .int .i64 z) (by rw [World.cell?_setCell_other _ _ _ _ (by simp), World.cell?_setCell_other _ _ _ _ (by simp)]; exact h.d2)
theorem three_below {w w1 : World} {u v z : Value} {t : TypeId} (b : Below (w.alloc (Obj.cells #[u, v, z] t)).heap.size (w.alloc (Obj.cells #[u, v, z] t)) w1) : (w1.cell? ⟨w.heap.size, 0, none⟩ = some u ∧ w1.cell? ⟨w.heap.size, 1, none⟩ = some v ∧ w1.cell? ⟨w.heap.size, 2, none⟩ = some z) ∧ (w1.frozen? ⟨w.heap.size, 0, none⟩ = false ∧ w1.frozen? ⟨w.heap.size, 1, none⟩ = false ∧ w1.frozen? ⟨w.heap.size, 2, none⟩ = false) := by
  have L : ∀ o, (⟨w.heap.size, o, none⟩ : Addr).block < (w.alloc (Obj.cells #[u, v, z] t)).heap.size := fun o => by simp
  exact ⟨⟨(b.cell (L 0)).trans (by simp), (b.cell (L 1)).trans (by simp), (b.cell (L 2)).trans (by simp)⟩, (b.frozen (L 0)).trans (by simp), (b.frozen (L 1)).trans (by simp), (b.frozen (L 2)).trans (by simp)⟩
set_option maxHeartbeats 4000000 in
theorem BS_impl (B n c : Nat) (a : Option Addr) (l : List Q.Sm) (w : World) (h : Sms B w a n l) (hB : B ≤ w.heap.size) : Calls Try.prog 13 #[.slice a n c] w fun e w' => e = .returned (.tuple #[.agg #[.int .i64 (Q.bo l), .int .i64 (Q.bd l), .int .i64 (Q.bt l)], .bool (Q.vq l)]) ∧ Below w.heap.size w w' := by
  have hb0 := (Below.refl w.heap.size w).alloc (Nat.le_refl _) (Obj.cells #[.int .i64 0, .int .i64 0, .int .i64 0] 26)
  have h1 := ((h.more hB).below hb0).more (show w.heap.size ≤ (w.alloc (Obj.cells #[.int .i64 0, .int .i64 0, .int .i64 0] 26)).heap.size by simp)
  have HB := Lib.hid hb0
  have HS1 := Lib.hid h1
  have HS0 := Lib.hid (h.more hB)
  have hl := h.1
  clear hb0 h1 h
  go_enter Try.func13, Try.ntmps13
  cases hv : Q.vq l
  · rw [(Q.b_no hv).1, (Q.b_no hv).2.1, (Q.b_no hv).2.2]
    go_wp2_with fail
    refine (vq_impl _ _ _ _ l _ HS1.out (Nat.le_refl _)).mono ?_
    rw [hv]
    rintro e w1 ⟨rfl, b1⟩
    obtain ⟨⟨c0, c1, c2⟩, f0, f1, f2⟩ := three_below b1
    have hfin := Lib.hid (HB.out.trans (b1.mono (by simp)))
    clear b1
    go_wp2
    exact bodyPost_ret (v := .tuple #[.agg #[.int .i64 0, .int .i64 0, .int .i64 0], .bool false]) (by simp [results, Try.results13, go_sem, c0, c1, c2]) rfl ⟨rfl, ((hfin.out.setCell (Nat.le_refl _) _).setCell (Nat.le_refl _) _).setCell (Nat.le_refl _) _⟩
  · have hq := (Q.vq_of hv).1
    rw [(Q.b_yes hv).1, (Q.b_yes hv).2.1, (Q.b_yes hv).2.2]
    go_wp2_with fail
    refine (vq_impl _ _ _ _ l _ HS1.out (Nat.le_refl _)).mono ?_
    rw [hv]
    rintro e w1 ⟨rfl, b1⟩
    obtain ⟨⟨c0, c1, c2⟩, f0, f1, f2⟩ := three_below b1
    have hfin := HB.out.trans (b1.mono (by simp))
    have hsz : w.heap.size < w1.heap.size := by have := b1.size; simp at this; omega
    have S1 := HS0.out.below hfin
    obtain ⟨b, off, rfl, hbb, hcc⟩ := S1.at_ 0 (by omega)
    have e0 : w1.cell? ⟨b, off, none⟩ = some (.int .i64 (Q.of l 0)) := by simpa using (hcc 0 (by omega)).1
    have e1 : w1.cell? ⟨b, off + 1, none⟩ = some (.int .i64 (Q.de l 0)) := by simpa using (hcc 0 (by omega)).2.1
    have e2 : w1.cell? ⟨b, off + 2, none⟩ = some (.int .i64 (Q.tm l 0)) := by simpa using (hcc 0 (by omega)).2.2
    have hn0 : (0 : Int) < (n : Int) := by omega
    have M0 : Bs w (w1.alloc (Obj.cells #[.int .i64 (Q.of l 0), .int .i64 (Q.de l 0), .int .i64 (Q.tm l 0)] 26)) w1.heap.size (Q.of l 0) (Q.de l 0) (Q.tm l 0) := by
      have hlt : ∀ o, (⟨w.heap.size, o, none⟩ : Addr).block < w1.heap.size := fun o => hsz
      exact ⟨(World.cell?_alloc_lt _ _ _ (hlt 0)).trans c0, (World.cell?_alloc_lt _ _ _ (hlt 1)).trans c1, (World.cell?_alloc_lt _ _ _ (hlt 2)).trans c2, (World.frozen?_alloc_past _ _ _ hsz).trans f0, (World.frozen?_alloc_past _ _ _ hsz).trans f1, (World.frozen?_alloc_past _ _ _ hsz).trans f2, by simp, by simp, by simp, by simp, by simp, by simp, hsz, by simp, hfin.alloc (by omega) _⟩
    have HM0 := Lib.hid M0
    clear M0 b1 S1 hcc hfin c0 c1 c2 f0 f1 f2
    go_wp2
    generalize w1.heap.size = D at *
    go_loopw [16] (fun i wr => ∃ k : Nat, k ≤ n ∧ i = .int .i64 k ∧ Bs w wr D (Q.of l (Q.bestTo l (k - 1))) (Q.de l (Q.bestTo l (k - 1))) (Q.tm l (Q.bestTo l (k - 1)))) (fun i _ => n - (intOf i).toNat)
    case atStart => exact ⟨0, Nat.zero_le _, rfl, HM0.out⟩
    case round =>
      obtain ⟨k, hk, rfl, M⟩ := hrel
      clear HM0 e0 e1 e2
      have S := HS0.out.below M.bel
      have hbr : b < wr.heap.size := Nat.lt_of_lt_of_le hbb M.bel.size
      by_cases hlt : k < n
      · obtain ⟨b', off', eb, _, hcc⟩ := S.at_ k hlt
        injection eb with eb
        injection eb with eb1 eb2
        subst eb1
        subst eb2
        obtain ⟨q0, q1, q2⟩ := hcc k hlt
        have d0 := M.d0
        have d1 := M.d1
        have d2 := M.d2
        have g0 := M.g0
        have g1 := M.g1
        have g2 := M.g2
        have hDl := M.lt
        have HM := Lib.hid M
        clear hcc S M
        by_cases hd : Q.de l k ≤ Q.de l (Q.bestTo l (k - 1))
        · have HE : Hid (Q.bestTo l (k + 1 - 1) = k) := Lib.hid (by
            rcases Nat.eq_zero_or_pos k with hz | hz
            · subst hz; rfl
            · obtain ⟨m, rfl⟩ : ∃ m, k = m + 1 := ⟨k - 1, by omega⟩
              exact if_pos hd)
          generalize Q.bestTo l (k - 1) = j at *
          go_wp2
          go_roundw
          case rel => exact ⟨k + 1, by omega, by go_num, by rw [HE.out]; exact (HM.out.set _ _ _).keep ((Below.refl _ _).alloc (Nat.le_refl _) _)⟩
          case measure => simp [intOf]; omega
        · have hd' : decide (Q.de l k ≤ Q.de l (Q.bestTo l (k - 1))) = false := decide_eq_false hd
          have HE : Hid (Q.bestTo l (k + 1 - 1) = Q.bestTo l (k - 1)) := Lib.hid (by
            rcases Nat.eq_zero_or_pos k with hz | hz
            · subst hz; rfl
            · obtain ⟨m, rfl⟩ : ∃ m, k = m + 1 := ⟨k - 1, by omega⟩
              exact if_neg hd)
          generalize Q.bestTo l (k - 1) = j at *
          go_wp2
          go_roundw
          case rel => exact ⟨k + 1, by omega, by go_num, by rw [HE.out]; exact HM.out.keep ((Below.refl _ _).alloc (Nat.le_refl _) _)⟩
          case measure => simp [intOf]; omega
      · obtain rfl : k = n := by omega
        have hbe : Q.bestTo l (k - 1) = Q.best l := by unfold Q.best; rw [hl]
        rw [hbe] at M
        have c0 := M.c0
        have c1 := M.c1
        have c2 := M.c2
        have f0 := M.f0
        have f1 := M.f1
        have f2 := M.f2
        have d0 := M.d0
        have d1 := M.d1
        have d2 := M.d2
        have HX := Lib.hid M.bel
        clear M S hbe
        go_wp2
        exact bodyPost_ret (v := .tuple #[.agg #[.int .i64 (Q.of l (Q.best l)), .int .i64 (Q.de l (Q.best l)), .int .i64 (Q.tm l (Q.best l))], .bool true]) (by simp [results, Try.results13, go_sem, c0, c1, c2]) rfl ⟨rfl, ((HX.out.setCell (Nat.le_refl _) _).setCell (Nat.le_refl _) _).setCell (Nat.le_refl _) _⟩
set_option maxHeartbeats 2000000 in
theorem JF_impl (B n c : Nat) (a : Option Addr) (l : List Q.Sm) (w : World) (h : Sms B w a n l) (hB : B ≤ w.heap.size) : Calls Try.prog 17 #[.slice a n c] w fun e w' => e = .returned (.int .i64 (Q.jf l)) ∧ Below w.heap.size w w' := by
  have hl := h.1
  have HS0 := Lib.hid (h.more hB)
  go_enter Try.func17, Try.ntmps17
  cases hv : Q.vq l
  · rw [Q.jf_no hv]
    go_wp2_with fail
    refine (BS_impl _ _ _ _ l _ h hB).mono ?_
    rw [hv]
    rintro e w1 ⟨rfl, b1⟩
    have hfin := Lib.hid (b1.alloc b1.size (Obj.cells #[.int .i64 (Q.bo l), .int .i64 (Q.bd l), .int .i64 (Q.bt l)] 26))
    clear b1
    go_wp2
    go_ret
    exact ⟨rfl, hfin.out⟩
  · have hq := (Q.vq_of hv).1
    have hok := (Q.vq_of hv).2
    have hbl := Q.best_lt (l := l) (by omega)
    have hbb := (hok _ hbl).1.1
    have hbd := fun k (hk : k < n) => (hok k (by omega)).1.1
    have hsum := fun k (hk : k ≤ n) => Q.sumTo_bd (l := l) (b := Q.of l (Q.best l)) hbb k (fun i hi => hbd i (by omega))
    have HBD := Lib.hid hbd
    have HSUM := Lib.hid hsum
    have HL := Lib.hid hl
    have hn8 : 1 ≤ n ∧ n ≤ 8 := by omega
    rw [Q.jf_yes hv]
    unfold Q.jit
    rw [hl]
    have HY := Lib.hid (Q.b_yes hv)
    clear hok hbd hsum hl hbl
    generalize Q.best l = j at *
    go_wp2_with fail
    refine (BS_impl _ _ _ _ l _ h hB).mono ?_
    rw [hv, HY.out.1, HY.out.2.1, HY.out.2.2]
    rintro e w1 ⟨rfl, b1⟩
    have hs1 := b1.size
    have B0 := b1.alloc hs1 (Obj.cells #[.int .i64 (Q.of l j), .int .i64 (Q.de l j), .int .i64 (Q.tm l j)] 26)
    have C0 : (w1.alloc (Obj.cells #[.int .i64 (Q.of l j), .int .i64 (Q.de l j), .int .i64 (Q.tm l j)] 26)).cell? ⟨w1.heap.size, 0, none⟩ = some (.int .i64 (Q.of l j)) := by simp
    have HN := Lib.hid (And.intro B0 C0)
    clear b1 B0 C0 h
    go_wp2
    have hZ1 : w.heap.size ≤ w1.heap.size := hs1
    generalize w1.heap.size = Z at *
    go_loopw [5, 17] (fun x i wr => ∃ k : Nat, k ≤ n ∧ i = .int .i64 k ∧ x = .int .i64 (Q.sumTo l (Q.of l j) k) ∧ Below w.heap.size w wr ∧ wr.cell? ⟨Z, 0, none⟩ = some (.int .i64 (Q.of l j)) ∧ Z < wr.heap.size) (fun _ i _ => n - (intOf i).toNat)
    case atStart => exact ⟨0, Nat.zero_le _, rfl, rfl, HN.out.1, HN.out.2, World.block_lt_of_cell? _ _ HN.out.2⟩
    case round =>
      obtain ⟨k, hk, rfl, rfl, hs, cz, hzl⟩ := hrel
      have hsk := HSUM.out k hk
      have S := HS0.out.below hs
      have hsz := hs.size
      clear HN
      by_cases hlt : k < n
      · obtain ⟨b, off, rfl, hbb2, hcc⟩ := S.at_ k hlt
        obtain ⟨q0, q1, q2⟩ := hcc k hlt
        have hbk := HBD.out k hlt
        have hsn := HSUM.out (k + 1) (by omega)
        have e1 : Q.sumTo l (Q.of l j) (k + 1) = Q.sumTo l (Q.of l j) k + Q.abs (Q.of l k - Q.of l j) := rfl
        rw [e1] at hsn
        have HE := Lib.hid e1
        have habs := Q.abs_nn (Q.of l k - Q.of l j)
        have q3 := hs.alloc hsz (Obj.cells #[.int .i64 (Q.of l k), .int .i64 (Q.de l k), .int .i64 (Q.tm l k)] 26)
        have HQ := Lib.hid q3
        clear e1 hcc S q3 hs
        go_wp2_with (go_at_call 40; refine (dist_impl _ _ (by omega) (by omega) _).mono ?_; rintro e w3 ⟨rfl, rfl⟩)
        go_roundw
        case rel => exact ⟨k + 1, by omega, by go_num, by rw [HE.out], HQ.out, (World.cell?_alloc_lt _ _ _ hzl).trans cz, by simp; omega⟩
        case measure => simp [intOf]; omega
      · obtain rfl : k = n := by omega
        have hne : ((k : Int) == 0) = false := by rw [beq_eq_false_iff_ne]; omega
        clear S
        go_wp2
        go_ret
        exact ⟨rfl, hs⟩
end Go.Proofs.Ytcbahomohlaakaa
