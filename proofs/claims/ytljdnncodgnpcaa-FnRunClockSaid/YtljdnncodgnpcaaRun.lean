/-
  A clock's corrections one after the other (chapter 7): the program's and the model's functions.
-/
import Derived.Test.YtljdnncodgnpcaaClockF
import Derived.Test.YtljdnncodgnpcaaClockG
import Derived.Test.YtljdnncodgnpcaaRMath
import Derived.Test.YtljdnncodgnpcaaISample
namespace Go.Proofs.Ytljdnncodgnpcaa
open Go.RowKit
set_option linter.unusedVariables false
set_option maxRecDepth 100000
/-- The two blocks of a run: the clock, and the result of zeros. -/
structure RB (w wr : World) (x y z : Int) : Prop where
  c0 : wr.cell? ⟨w.heap.size, 0, none⟩ = some (.int .i64 x)
  c1 : wr.cell? ⟨w.heap.size, 1, none⟩ = some (.int .i64 y)
  c2 : wr.cell? ⟨w.heap.size, 2, none⟩ = some (.int .i64 z)
  f0 : wr.frozen? ⟨w.heap.size, 0, none⟩ = false
  f1 : wr.frozen? ⟨w.heap.size, 1, none⟩ = false
  f2 : wr.frozen? ⟨w.heap.size, 2, none⟩ = false
  z0 : wr.cell? ⟨w.heap.size + 1, 0, none⟩ = some (.int .i64 0)
  z1 : wr.cell? ⟨w.heap.size + 1, 1, none⟩ = some (.int .i64 0)
  z2 : wr.cell? ⟨w.heap.size + 1, 2, none⟩ = some (.int .i64 0)
  g0 : wr.frozen? ⟨w.heap.size + 1, 0, none⟩ = false
  g1 : wr.frozen? ⟨w.heap.size + 1, 1, none⟩ = false
  g2 : wr.frozen? ⟨w.heap.size + 1, 2, none⟩ = false
  lt : w.heap.size + 1 < wr.heap.size
  bel : Below w.heap.size w wr
theorem RB.new (w : World) (x y z : Int) (t : TypeId) : RB w ((w.alloc (Obj.cells #[.int .i64 x, .int .i64 y, .int .i64 z] t)).alloc (Obj.cells #[.int .i64 0, .int .i64 0, .int .i64 0] t)) x y z := by
  have N : ∀ o, ((w.alloc (Obj.cells #[.int .i64 x, .int .i64 y, .int .i64 z] t)).alloc (Obj.cells #[.int .i64 0, .int .i64 0, .int .i64 0] t)).cell? ⟨w.heap.size + 1, o, none⟩ = (#[.int .i64 0, .int .i64 0, .int .i64 0] : Array Value)[o]? := fun o => by
    have := World.cell?_alloc_new (w.alloc (Obj.cells #[.int .i64 x, .int .i64 y, .int .i64 z] t)) #[.int .i64 0, .int .i64 0, .int .i64 0] t o
    rw [World.size_alloc] at this
    exact this
  exact ⟨by simp, by simp, by simp, by simp, by simp, by simp, N 0, N 1, N 2, by simp, by simp, by simp, by simp, ((Below.refl _ _).alloc (Nat.le_refl _) _).alloc (by simp) _⟩
theorem RB.b {w wr w' : World} {x y z : Int} (h : RB w wr x y z) (q : Below wr.heap.size wr w') : RB w w' x y z := by
  have L : ∀ o, (⟨w.heap.size, o, none⟩ : Addr).block < wr.heap.size := fun o => Nat.lt_trans (Nat.lt_succ_self _) h.lt
  have M : ∀ o, (⟨w.heap.size + 1, o, none⟩ : Addr).block < wr.heap.size := fun o => h.lt
  exact ⟨(q.cell (L 0)).trans h.c0, (q.cell (L 1)).trans h.c1, (q.cell (L 2)).trans h.c2, (q.frozen (L 0)).trans h.f0, (q.frozen (L 1)).trans h.f1, (q.frozen (L 2)).trans h.f2,
    (q.cell (M 0)).trans h.z0, (q.cell (M 1)).trans h.z1, (q.cell (M 2)).trans h.z2, (q.frozen (M 0)).trans h.g0, (q.frozen (M 1)).trans h.g1, (q.frozen (M 2)).trans h.g2,
    Nat.lt_of_lt_of_le h.lt q.size, h.bel.trans (q.mono h.bel.size)⟩
theorem RB.al {w wr : World} {x y z : Int} (h : RB w wr x y z) (o : Obj) : RB w (wr.alloc o) x y z := h.b ((Below.refl _ _).alloc (Nat.le_refl _) o)
theorem RB.drew {w wr : World} {x y z : Int} (h : RB w wr x y z) : RB w wr.drew x y z := ⟨h.c0, h.c1, h.c2, h.f0, h.f1, h.f2, h.z0, h.z1, h.z2, h.g0, h.g1, h.g2, h.lt, h.bel.drew⟩
theorem RB.set {w wr : World} {x y z : Int} (h : RB w wr x y z) (x' y' z' : Int) : RB w (((wr.setCell ⟨w.heap.size, 0, none⟩ (.int .i64 x')).setCell ⟨w.heap.size, 1, none⟩ (.int .i64 y')).setCell ⟨w.heap.size, 2, none⟩ (.int .i64 z')) x' y' z' := by
  have a0 := World.cell?_setCell_same wr ⟨w.heap.size, 0, none⟩ (.int .i64 x') h.c0
  have a1 : (wr.setCell ⟨w.heap.size, 0, none⟩ (.int .i64 x')).cell? ⟨w.heap.size, 1, none⟩ = _ := (World.cell?_setCell_other _ _ _ _ (by simp)).trans h.c1
  have a2 : (wr.setCell ⟨w.heap.size, 0, none⟩ (.int .i64 x')).cell? ⟨w.heap.size, 2, none⟩ = _ := (World.cell?_setCell_other _ _ _ _ (by simp)).trans h.c2
  have hoth : ∀ o, (((wr.setCell ⟨w.heap.size, 0, none⟩ (.int .i64 x')).setCell ⟨w.heap.size, 1, none⟩ (.int .i64 y')).setCell ⟨w.heap.size, 2, none⟩ (.int .i64 z')).cell? ⟨w.heap.size + 1, o, none⟩ = wr.cell? ⟨w.heap.size + 1, o, none⟩ := fun o =>
    (World.cell?_setCell_other _ _ _ _ (by simp)).trans ((World.cell?_setCell_other _ _ _ _ (by simp)).trans (World.cell?_setCell_other _ _ _ _ (by simp)))
  refine ⟨?_, ?_, ?_, by simpa using h.f0, by simpa using h.f1, by simpa using h.f2, (hoth 0).trans h.z0, (hoth 1).trans h.z1, (hoth 2).trans h.z2, by simpa using h.g0, by simpa using h.g1, by simpa using h.g2, by simpa using h.lt, ?_⟩
  · exact (World.cell?_setCell_other _ _ _ _ (by simp)).trans ((World.cell?_setCell_other _ _ _ _ (by simp)).trans a0)
  · exact (World.cell?_setCell_other _ _ _ _ (by simp)).trans (World.cell?_setCell_same _ _ _ a1)
  · exact World.cell?_setCell_same _ _ _ ((World.cell?_setCell_other _ _ _ _ (by simp)).trans a2)
  · exact ((h.bel.setCell (p := ⟨w.heap.size, 0, none⟩) (Nat.le_refl _) _).setCell (p := ⟨w.heap.size, 1, none⟩) (Nat.le_refl _) _).setCell (p := ⟨w.heap.size, 2, none⟩) (Nat.le_refl _) _
theorem RB.fin {w wr : World} {x y z : Int} (h : RB w wr x y z) (u v q : Value) : Below w.heap.size w (((wr.setCell ⟨w.heap.size + 1, 0, none⟩ u).setCell ⟨w.heap.size + 1, 1, none⟩ v).setCell ⟨w.heap.size + 1, 2, none⟩ q) :=
  ((h.bel.setCell (p := ⟨w.heap.size + 1, 0, none⟩) (Nat.le_succ _) _).setCell (p := ⟨w.heap.size + 1, 1, none⟩) (Nat.le_succ _) _).setCell (p := ⟨w.heap.size + 1, 2, none⟩) (Nat.le_succ _) _
set_option maxHeartbeats 4000000 in
theorem RC_impl (B n c : Nat) (a : Option Addr) (l : List Q.Sm) (s : Int × Int × Int) (w : World) (h : Sms B w a n l) (hB : B ≤ w.heap.size) : Calls Try.prog 17 #[.agg #[.int .i64 s.1, .int .i64 s.2.1, .int .i64 s.2.2], .slice a n c] w fun e w' =>
    e = .returned (.tuple #[.agg #[.int .i64 (K.re s l).1, .int .i64 (K.re s l).2.1, .int .i64 (K.re s l).2.2], .bool (K.rok s l)]) ∧ Below w.heap.size w w' := by
  have hl := h.1
  have HL := Lib.hid hl
  have R0 := RB.new w s.1 s.2.1 s.2.2 24
  have h0 := (h.more hB).below R0.bel
  have k1 := fun w' => vc_impl s.1 s.2.1 s.2.2 w'
  clear hl
  rcases hv : K.vc s.1 s.2.1 s.2.2 with _ | _
  · have hk : K.rok s l = false := K.rok_no (fun q => by have := q.1.1; rw [hv] at this; cases this)
    rw [K.re_no hk, hk]
    simp only [hv] at k1
    clear hv hk
    go_enter Try.func17, Try.ntmps17
    go_wp2_with fail
    refine (k1 _).mono ?_
    rintro e w1 ⟨rfl, b1⟩
    have R1 := R0.b b1
    obtain ⟨-, -, -, -, -, -, z0, z1, z2, g0, g1, g2, -, -⟩ := id R1
    have HF := Lib.hid (R1.fin (.int .i64 0) (.int .i64 0) (.int .i64 0))
    clear R0 b1 h0 k1 R1
    go_wp2
    exact bodyPost_ret (v := .tuple #[.agg #[.int .i64 0, .int .i64 0, .int .i64 0], .bool false]) (by simp [results, Try.results17, go_sem, z0, z1, z2]) rfl ⟨rfl, HF.out⟩
  have HV := Lib.hid hv
  simp only [hv] at k1
  clear hv
  rcases hq : Q.vq l with _ | _
  · by_cases hn : 0 < n
    · have hk : K.rok s l = false := K.rok_no (fun q => by have := q.1.2 (by have := HL.out; omega); rw [hq] at this; cases this)
      have k2 := fun w' h' hB' => vq_impl w.heap.size n c a l w' h' hB'
      simp only [hq] at k2
      have K2 := Lib.hid k2
      rw [K.re_no hk, hk]
      clear hq hk k2
      go_enter Try.func17, Try.ntmps17
      go_wp2_with fail
      refine (k1 _).mono ?_
      rintro e w1 ⟨rfl, b1⟩
      have R1 := R0.b b1
      have h1 := (h0.below (b1.mono R0.bel.size))
      clear R0 b1 h0 k1
      go_wp2_with fail
      refine (K2.out _ h1 R1.bel.size).mono ?_
      rintro e w2 ⟨rfl, b2⟩
      have R2 := R1.b b2
      obtain ⟨-, -, -, -, -, -, z0, z1, z2, g0, g1, g2, -, -⟩ := id R2
      have HF := Lib.hid (R2.fin (.int .i64 0) (.int .i64 0) (.int .i64 0))
      clear R1 b2 h1 R2
      go_wp2
      exact bodyPost_ret (v := .tuple #[.agg #[.int .i64 0, .int .i64 0, .int .i64 0], .bool false]) (by simp [results, Try.results17, go_sem, z0, z1, z2]) rfl ⟨rfl, HF.out⟩
    · have HRV : Hid (K.rv s l) := Lib.hid ⟨HV.out, fun q => absurd q (by have := HL.out; omega)⟩
      have hn8 : n ≤ 8 := by omega
      clear hq
      go_enter Try.func17, Try.ntmps17
      go_wp2_with fail
      refine (k1 _).mono ?_
      rintro e w1 ⟨rfl, b1⟩
      have RR := R0.b b1
      have HH := (h0.below (b1.mono R0.bel.size))
      clear R0 b1 h0 k1
      go_wp2_with fail
      try any_goals (exfalso; omega)
      go_loopw [26] (fun i wr => ∃ k : Nat, k ≤ n ∧ i = .int .i64 k ∧ K.rk s l k ∧ RB w wr (K.rs s l k).1 (K.rs s l k).2.1 (K.rs s l k).2.2 ∧ Sms w.heap.size wr a n l) (fun i _ => n - (intOf i).toNat)
      case atStart => exact ⟨0, Nat.zero_le _, rfl, fun i hi => absurd hi (by omega), RR, HH⟩
      case round =>
        obtain ⟨k, hk, rfl, hrk, R, hS⟩ := hrel
        have HRK := Lib.hid hrk
        clear hrk RR HH
        by_cases hlt : k < n
        · exfalso; omega
        · obtain rfl : k = n := by omega
          have HT : Hid (K.rok s l = true) := Lib.hid (K.rok_yes ⟨HRV.out, by rw [HL.out]; exact HRK.out⟩)
          have HE : Hid (K.re s l = K.rs s l k) := Lib.hid (by rw [K.re_yes HT.out, HL.out])
          obtain ⟨c0, c1, c2, f0, f1, f2, z0, z1, z2, g0, g1, g2, -, -⟩ := id R
          have HF := Lib.hid (R.fin (.int .i64 (K.rs s l k).1) (.int .i64 (K.rs s l k).2.1) (.int .i64 (K.rs s l k).2.2))
          clear R hS
          go_wp2
          exact bodyPost_ret (v := .tuple #[.agg #[.int .i64 (K.rs s l k).1, .int .i64 (K.rs s l k).2.1, .int .i64 (K.rs s l k).2.2], .bool true]) (by simp [results, Try.results17, go_sem, z0, z1, z2]) rfl ⟨by rw [HE.out, HT.out], HF.out⟩
  · have hq8 := (Q.vq_of hq).1
    have HRV : Hid (K.rv s l) := Lib.hid ⟨HV.out, fun _ => hq⟩
    have hn : 0 < n := by have := HL.out; omega
    have hn8 : n ≤ 8 := by have := HL.out; omega
    have k2 := fun w' h' hB' => vq_impl w.heap.size n c a l w' h' hB'
    simp only [hq] at k2
    have K2 := Lib.hid k2
    clear hq k2 hq8
    go_enter Try.func17, Try.ntmps17
    go_wp2_with fail
    refine (k1 _).mono ?_
    rintro e w1 ⟨rfl, b1⟩
    have R1 := R0.b b1
    have h1 := (h0.below (b1.mono R0.bel.size))
    clear R0 b1 h0 k1
    go_wp2_with fail
    refine (K2.out _ h1 R1.bel.size).mono ?_
    rintro e w2 ⟨rfl, b2⟩
    have RR := R1.b b2
    have HH := h1.below (b2.mono R1.bel.size)
    clear R1 b2 h1
    go_wp2_with fail
    try any_goals (exfalso; omega)
    go_loopw [26] (fun i wr => ∃ k : Nat, k ≤ n ∧ i = .int .i64 k ∧ K.rk s l k ∧ RB w wr (K.rs s l k).1 (K.rs s l k).2.1 (K.rs s l k).2.2 ∧ Sms w.heap.size wr a n l) (fun i _ => n - (intOf i).toNat)
    case atStart => exact ⟨0, Nat.zero_le _, rfl, fun i hi => absurd hi (by omega), RR, HH⟩
    case round =>
      obtain ⟨k, hk, rfl, hrk, R, hS⟩ := hrel
      have HRK := Lib.hid hrk
      clear hrk RR HH
      by_cases hlt : k < n
      · obtain ⟨b, off, ha, hb, hc⟩ := hS.at_ k hlt
        have HS := Lib.hid hS
        clear hS
        subst ha
        obtain ⟨q0, q1, q2⟩ := hc k hlt
        have k3 := fun w' => SC_impl (K.rs s l k).1 (K.rs s l k).2.1 (K.rs s l k).2.2 (Q.tm l k) (Q.of l k) w'
        have RA := R.al (.cells #[.int .i64 (Q.of l k), .int .i64 (Q.de l k), .int .i64 (Q.tm l k)] 32)
        have bA : Below w.heap.size wr (wr.alloc (.cells #[.int .i64 (Q.of l k), .int .i64 (Q.de l k), .int .i64 (Q.tm l k)] 32)) := (Below.refl _ _).alloc R.bel.size _
        have r0 := RA.c0
        have r1 := RA.c1
        have r2 := RA.c2
        clear hc R
        rcases hs : K.sk s l k with _ | _
        · have hs' := hs
          unfold K.sk at hs'
          obtain ⟨y0, y1, y2⟩ := K.s_no hs'
          simp only [hs', y0, y1, y2] at k3
          have K3 := Lib.hid k3
          have HT : Hid (K.rok s l = false) := Lib.hid (K.rok_no (fun q => by have := q.2 k (by have := HL.out; omega); rw [hs] at this; cases this))
          clear k3 hs hs' y0 y1 y2
          go_wp2_with fail
          refine (K3.out _).mono ?_
          rintro e w5 ⟨rfl, b5⟩
          have R5 := (RA.b b5).al (.cells #[.int .i64 0, .int .i64 0, .int .i64 0] 24)
          obtain ⟨-, -, -, -, -, -, z0, z1, z2, g0, g1, g2, -, -⟩ := id R5
          have HF := Lib.hid (R5.fin (.int .i64 0) (.int .i64 0) (.int .i64 0))
          clear RA bA b5 R5 r0 r1 r2 q0 q1 q2
          go_wp2
          exact bodyPost_ret (v := .tuple #[.agg #[.int .i64 0, .int .i64 0, .int .i64 0], .bool false]) (by simp [results, Try.results17, go_sem, z0, z1, z2]) rfl ⟨by rw [K.re_no HT.out, HT.out], HF.out⟩
        · have hs' := hs
          unfold K.sk at hs'
          have HK := Lib.hid (K.rk_succ HRK.out hs)
          simp only [hs'] at k3
          have K3 := Lib.hid k3
          clear k3 hs hs'
          go_wp2_with fail
          refine (K3.out _).mono ?_
          rintro e w5 ⟨rfl, b5⟩
          obtain ⟨X, hX⟩ : ∃ X : Int × Int × Int, X = K.rs s l (k + 1) := ⟨_, rfl⟩
          have R5 := (RA.b b5).al (.cells #[.int .i64 (K.rs s l (k + 1)).1, .int .i64 (K.rs s l (k + 1)).2.1, .int .i64 (K.rs s l (k + 1)).2.2] 24)
          have bB : Below w.heap.size wr (w5.alloc (.cells #[.int .i64 (K.rs s l (k + 1)).1, .int .i64 (K.rs s l (k + 1)).2.1, .int .i64 (K.rs s l (k + 1)).2.2] 24)) := (bA.trans (b5.mono RA.bel.size)).alloc (by have := RA.bel.size; have := b5.size; omega) _
          have S5 := HS.out.below bB
          have e0 : K.so (K.rs s l k).1 (K.rs s l k).2.1 (K.rs s l k).2.2 (Q.tm l k) (Q.of l k) = (K.rs s l (k + 1)).1 := rfl
          have e1 : K.sr (K.rs s l k).1 (K.rs s l k).2.1 (K.rs s l k).2.2 (Q.tm l k) (Q.of l k) = (K.rs s l (k + 1)).2.1 := rfl
          have e2 : K.st (K.rs s l k).1 (K.rs s l k).2.1 (K.rs s l k).2.2 (Q.tm l k) (Q.of l k) = (K.rs s l (k + 1)).2.2 := rfl
          rw [e0, e1, e2]
          have R6 := Lib.hid (R5.set (K.rs s l (k + 1)).1 (K.rs s l (k + 1)).2.1 (K.rs s l (k + 1)).2.2)
          have S6 := Lib.hid (S5.below ((((Below.refl w.heap.size _).setCell (p := ⟨w.heap.size, 0, none⟩) (Nat.le_refl _) (.int .i64 (K.rs s l (k + 1)).1)).setCell (p := ⟨w.heap.size, 1, none⟩) (Nat.le_refl _) (.int .i64 (K.rs s l (k + 1)).2.1)).setCell (p := ⟨w.heap.size, 2, none⟩) (Nat.le_refl _) (.int .i64 (K.rs s l (k + 1)).2.2)))
          have u0 := R5.c0
          have u1 := R5.c1
          have u2 := R5.c2
          have v0 := R5.f0
          have v1 := R5.f1
          have v2 := R5.f2
          clear RA bA b5 bB S5 R5 r0 r1 r2 q0 q1 q2 e0 e1 e2 hX X HS
          go_wp2
          go_roundw
          case rel => exact ⟨k + 1, by omega, by go_num, HK.out, R6.out, S6.out⟩
          case measure => simp [intOf]; omega
      · obtain rfl : k = n := by omega
        have HT : Hid (K.rok s l = true) := Lib.hid (K.rok_yes ⟨HRV.out, by rw [HL.out]; exact HRK.out⟩)
        have HE : Hid (K.re s l = K.rs s l k) := Lib.hid (by rw [K.re_yes HT.out, HL.out])
        obtain ⟨c0, c1, c2, f0, f1, f2, z0, z1, z2, g0, g1, g2, -, -⟩ := id R
        have HF := Lib.hid (R.fin (.int .i64 (K.rs s l k).1) (.int .i64 (K.rs s l k).2.1) (.int .i64 (K.rs s l k).2.2))
        clear R hS
        go_wp2
        exact bodyPost_ret (v := .tuple #[.agg #[.int .i64 (K.rs s l k).1, .int .i64 (K.rs s l k).2.1, .int .i64 (K.rs s l k).2.2], .bool true]) (by simp [results, Try.results17, go_sem, z0, z1, z2]) rfl ⟨by rw [HE.out, HT.out], HF.out⟩
end Go.Proofs.Ytljdnncodgnpcaa
