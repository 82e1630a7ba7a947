/-
  Polls one after the other (chapter 13): the program's and the model's functions.
-/
import Derived.Test.YthbfjmlkcgcgaaaDoorNextS
namespace Go.Proofs.YthbfjmlkcgcgaaaDoor
open Go.RowKit
set_option linter.unusedVariables false
set_option maxRecDepth 100000
/-- The two blocks of a run: the state that is written at D, the result of zeros at E. -/
structure RP (w wr : World) (D E : Nat) (p c : Int) : Prop where
  nb : NB w wr D E p c
  g0 : wr.frozen? ⟨D, 0, none⟩ = false
  g1 : wr.frozen? ⟨D, 1, none⟩ = false
  hD : w.heap.size ≤ D
theorem RP.b {w wr w' : World} {D E : Nat} {p c : Int} (h : RP w wr D E p c) (q : Below wr.heap.size wr w') : RP w w' D E p c :=
  ⟨h.nb.b q, (q.frozen (p := ⟨D, 0, none⟩) h.nb.ltD).trans h.g0, (q.frozen (p := ⟨D, 1, none⟩) h.nb.ltD).trans h.g1, h.hD⟩
theorem RP.al {w wr : World} {D E : Nat} {p c : Int} (h : RP w wr D E p c) (o : Obj) : RP w (wr.alloc o) D E p c := h.b ((Below.refl _ _).alloc (Nat.le_refl _) o)
theorem RP.drew {w wr : World} {D E : Nat} {p c : Int} (h : RP w wr D E p c) : RP w wr.drew D E p c := ⟨h.nb.drew, h.g0, h.g1, h.hD⟩
theorem RP.new (w : World) (p c : Int) (t t' : TypeId) : RP w ((w.alloc (.cells #[.int .i64 p, .int .i64 c] t)).alloc (.cells #[.int .i64 0, .int .i64 0] t')) w.heap.size (w.heap.size + 1) p c :=
  ⟨NB.new w p c t t', by simp, by simp, Nat.le_refl _⟩
theorem oth2 {X : World} {D : Nat} {u v : Value} (b o : Nat) (hb : b ≠ D) : ((X.setCell ⟨D, 0, none⟩ u).setCell ⟨D, 1, none⟩ v).cell? ⟨b, o, none⟩ = X.cell? ⟨b, o, none⟩ :=
  (World.cell?_setCell_other _ _ _ _ (fun e => hb (by injection e with e; exact e.symm))).trans (World.cell?_setCell_other _ _ _ _ (fun e => hb (by injection e with e; exact e.symm)))
theorem RP.set {w wr : World} {D E : Nat} {p c : Int} (h : RP w wr D E p c) (x y : Int) : RP w ((wr.setCell ⟨D, 0, none⟩ (.int .i64 x)).setCell ⟨D, 1, none⟩ (.int .i64 y)) D E x y := by
  have hn := h.nb
  have hlD := hn.ltD
  have hlE := hn.ltE
  refine ⟨⟨?_, ?_, (oth2 _ _ hn.hDE.symm).trans hn.e0, (oth2 _ _ hn.hDE.symm).trans hn.e1, by simpa using hn.f0, by simpa using hn.f1, by simpa using hlD, by simpa using hlE, hn.hE, hn.hDE, ?_⟩, by simpa using h.g0, by simpa using h.g1, h.hD⟩
  · exact (World.cell?_setCell_other _ _ _ _ (by simp)).trans (World.cell?_setCell_same _ _ _ hn.d0)
  · exact World.cell?_setCell_same _ _ _ ((World.cell?_setCell_other _ _ _ _ (by simp)).trans hn.d1)
  · exact (hn.bel.setCell (p := ⟨D, 0, none⟩) h.hD _).setCell (p := ⟨D, 1, none⟩) h.hD _
theorem Lst.set2 {B : Nat} {w : World} {a : Option Addr} {n : Nat} {l : List Int} {D : Nat} {u v : Value} (h : Lst B w a n l) (hD : B ≤ D) : Lst B ((w.setCell ⟨D, 0, none⟩ u).setCell ⟨D, 1, none⟩ v) a n l :=
  h.below (((Below.refl B w).setCell (p := ⟨D, 0, none⟩) hD u).setCell (p := ⟨D, 1, none⟩) hD v)
theorem Gl.set2 {w : World} {D : Nat} {u v : Value} (h : Gl w) (hD : 0 < D) : Gl ((w.setCell ⟨D, 0, none⟩ u).setCell ⟨D, 1, none⟩ v) :=
  ⟨(oth2 _ _ (by omega)).trans h.c0, (oth2 _ _ (by omega)).trans h.c1, (oth2 _ _ (by omega)).trans h.c2, (oth2 _ _ (by omega)).trans h.c3, by simpa using h.lt⟩
set_option maxHeartbeats 4000000 in
theorem RP_impl_no (B n cp : Nat) (a : Option Addr) (l : List Int) (s : Int × Int) (j : Int) (w : World) (h : Lst B w a n l) (hB : B ≤ w.heap.size) (hk : ¬ (J.vp s.1 s.2 = true ∧ (0 ≤ j ∧ j ≤ 1000000) ∧ n ≤ 30)) :
    Calls Tryd.prog 17 #[.agg #[.int .i64 s.1, .int .i64 s.2], .slice a n cp, .int .i64 j] w fun e w' => e = .returned (.tuple #[.agg #[.int .i64 0, .int .i64 0], .int .i64 0, .bool false]) ∧ Below w.heap.size w w' := by
  have R0 := RP.new w s.1 s.2 24 24
  have k1 := fun w' => vp_impl.ValidPoll s.1 s.2 w'
  have hn := h.2.1
  rcases hv : J.vp s.1 s.2 with _ | _
  · simp only [hv] at k1
    have K1 := Lib.hid k1
    clear k1 hv hk
    go_enter Tryd.func17, Tryd.ntmps17
    go_wp2_with fail
    generalize (w.alloc (.cells #[.int .i64 s.1, .int .i64 s.2] 24)).alloc (.cells #[.int .i64 0, .int .i64 0] 24) = W at R0 ⊢
    generalize w.heap.size + 1 = E at R0 ⊢
    refine (K1.out _).mono ?_
    rintro e w3 ⟨rfl, b3⟩
    obtain ⟨-, -, e0, e1, f0, f1, -, -, -, -, -⟩ := (R0.b b3).nb
    have HN := Lib.hid ((R0.b b3).nb.fin (.int .i64 0) (.int .i64 0))
    clear R0 b3
    go_wp2
    exact bodyPost_ret (v := .tuple #[.agg #[.int .i64 0, .int .i64 0], .int .i64 0, .bool false]) (by simp [results, Tryd.results17, go_sem, e0, e1]) rfl ⟨rfl, HN.out⟩
  simp only [hv] at k1
  have K1 := Lib.hid k1
  clear k1
  rcases inR_cases j 0 1000000 with ⟨b0, b1⟩ | ⟨b0, b1⟩
  · have hn30 : 30 < n := by
      rcases Nat.lt_or_ge 30 n with q | q
      · exact q
      · exact absurd ⟨hv, b1, q⟩ hk
    clear hv hk b1
    go_enter Tryd.func17, Tryd.ntmps17
    go_wp2_with fail
    generalize (w.alloc (.cells #[.int .i64 s.1, .int .i64 s.2] 24)).alloc (.cells #[.int .i64 0, .int .i64 0] 24) = W at R0 ⊢
    generalize w.heap.size + 1 = E at R0 ⊢
    refine (K1.out _).mono ?_
    rintro e w3 ⟨rfl, b3⟩
    obtain ⟨-, -, e0, e1, f0, f1, -, -, -, -, -⟩ := (R0.b b3).nb
    have HN := Lib.hid ((R0.b b3).nb.fin (.int .i64 0) (.int .i64 0))
    clear R0 b3
    go_wp2_with (go_at_call 28; refine (vj_impl _ _).mono ?_; rintro e w' ⟨rfl, rfl⟩)
    exact bodyPost_ret (v := .tuple #[.agg #[.int .i64 0, .int .i64 0], .int .i64 0, .bool false]) (by simp [results, Tryd.results17, go_sem, e0, e1]) rfl ⟨rfl, HN.out⟩
  · clear hv hk b1
    go_enter Tryd.func17, Tryd.ntmps17
    go_wp2_with fail
    generalize (w.alloc (.cells #[.int .i64 s.1, .int .i64 s.2] 24)).alloc (.cells #[.int .i64 0, .int .i64 0] 24) = W at R0 ⊢
    generalize w.heap.size + 1 = E at R0 ⊢
    refine (K1.out _).mono ?_
    rintro e w3 ⟨rfl, b3⟩
    obtain ⟨-, -, e0, e1, f0, f1, -, -, -, -, -⟩ := (R0.b b3).nb
    have HN := Lib.hid ((R0.b b3).nb.fin (.int .i64 0) (.int .i64 0))
    clear R0 b3
    go_wp2_with (go_at_call 28; refine (vj_impl _ _).mono ?_; rintro e w' ⟨rfl, rfl⟩)
    exact bodyPost_ret (v := .tuple #[.agg #[.int .i64 0, .int .i64 0], .int .i64 0, .bool false]) (by simp [results, Tryd.results17, go_sem, e0, e1]) rfl ⟨rfl, HN.out⟩
set_option maxHeartbeats 8000000 in
theorem RP_impl (B n cp : Nat) (a : Option Addr) (l : List Int) (s : Int × Int) (j : Int) (w : World) (h : Lst B w a n l) (hB : B ≤ w.heap.size) (hg : Gl w) :
    Calls Tryd.prog 17 #[.agg #[.int .i64 s.1, .int .i64 s.2], .slice a n cp, .int .i64 j] w fun e w' => e = .returned (.tuple #[.agg #[.int .i64 (J.re s l j).1, .int .i64 (J.re s l j).2], .int .i64 (J.rs s l j), .bool (J.rk s l j)]) ∧ Below w.heap.size w w' := by
  obtain ⟨hl, hn, _⟩ := id h
  by_cases hk : J.vp s.1 s.2 = true ∧ (0 ≤ j ∧ j ≤ 1000000) ∧ n ≤ 30
  rotate_left
  · have hf : J.rk s l j = false := J.rk_no (fun q => hk ⟨q.1, q.2.1, by have := q.2.2.1; omega⟩)
    rw [hf, (J.re_no hf).1, (J.re_no hf).2]
    exact RP_impl_no B n cp a l s j w h hB hk
  obtain ⟨hv, hj, hn30⟩ := hk
  have HL := Lib.hid hl
  have HV := Lib.hid hv
  have k1 := fun w' => vp_impl.ValidPoll s.1 s.2 w'
  simp only [hv] at k1
  have K1 := Lib.hid k1
  have b0 : inR j 0 1000000 = true := inR_yes hj
  have R0 := RP.new w s.1 s.2 24 24
  have h0 := (h.more hB).below R0.nb.bel
  have gW0 : Gl ((w.alloc (.cells #[.int .i64 s.1, .int .i64 s.2] 24)).alloc (.cells #[.int .i64 0, .int .i64 0] 24)) := (hg.al _).al _
  have hw0 : 0 < w.heap.size := hg.lt
  clear k1 hl hv h hg
  go_enter Tryd.func17, Tryd.ntmps17
  go_wp2_with fail
  generalize (w.alloc (.cells #[.int .i64 s.1, .int .i64 s.2] 24)).alloc (.cells #[.int .i64 0, .int .i64 0] 24) = W at R0 h0 gW0 ⊢
  generalize w.heap.size + 1 = E at R0 ⊢
  refine (K1.out _).mono ?_
  rintro e w3 ⟨rfl, b3⟩
  have R3 := R0.b b3
  have h3 := h0.below (b3.mono R0.nb.bel.size)
  have g3 := gW0.b b3
  clear R0 h0 gW0 b3
  go_wp2_with (go_at_call 28; refine (vj_impl _ _).mono ?_; rintro e w' ⟨rfl, rfl⟩)
  go_loopw [9, 30] (fun x i wr => ∃ k : Nat, k ≤ n ∧ i = .int .i64 k ∧ x = .int .i64 (J.rt s l j k) ∧ (∀ q, q < k → -1000000 ≤ L.g l q ∧ L.g l q ≤ 1000000) ∧ RP w wr w.heap.size E (J.rn s l j k).1 (J.rn s l j k).2 ∧ Lst w.heap.size wr a n l ∧ Gl wr) (fun _ i _ => n - (intOf i).toNat)
  case atStart => exact ⟨0, Nat.zero_le _, rfl, rfl, fun q hq => absurd hq (by omega), R3, h3, g3⟩
  case round =>
    obtain ⟨k, hk, rfl, rfl, hok, R, hS, gW⟩ := hrel
    clear R3 h3 g3
    have HO := Lib.hid hok
    clear hok
    have hrt := J.rt_bd (l := l) (j := j) HV.out k
    have hvk := J.rn_vp (l := l) (j := j) HV.out k
    by_cases hlt : k < n
    · obtain ⟨b, off, ha, hb, hc⟩ := hS.at_ k hlt
      have HS := Lib.hid hS
      have ck := hc k hlt
      clear hc
      subst ha
      have d0 := R.nb.d0
      have d1 := R.nb.d1
      by_cases hin : -1000000 ≤ L.g l k ∧ L.g l k ≤ 1000000
      · have K3 := Lib.hid (fun w' hg' => NP_impl_yes (J.rn s l j k).1 (J.rn s l j k).2 (L.g l k) j w' hg' ⟨hvk, hin, hj⟩)
        have k4 := fun w' => ps_impl (J.rn s l j k).1 (J.rn s l j k).2 w'
        simp only [J.ps_yes hvk] at k4
        have K4 := Lib.hid k4
        have hpw := J.pw_bd (J.vp_of hvk).1
        have HO2 : Hid (∀ q, q < k + 1 → -1000000 ≤ L.g l q ∧ L.g l q ≤ 1000000) := Lib.hid (fun q hq => by
          rcases Nat.lt_or_ge q k with c | c
          · exact HO.out q c
          · obtain rfl : q = k := by omega
            exact hin)
        obtain ⟨X, Y, hXY⟩ : ∃ X Y : Int, J.rn s l j (k + 1) = (X, Y) := ⟨_, _, rfl⟩
        have hX : J.np (J.rn s l j k).1 (J.rn s l j k).2 (L.g l k) j = X ∧ J.nc (J.rn s l j k).1 (J.rn s l j k).2 (L.g l k) j = Y := by
          have e : (J.np (J.rn s l j k).1 (J.rn s l j k).2 (L.g l k) j, J.nc (J.rn s l j k).1 (J.rn s l j k).2 (L.g l k) j) = (X, Y) := hXY
          simpa using e
        rw [hX.1, hX.2] at K3
        have HXY := Lib.hid hXY
        have HRT : Hid (J.rt s l j (k + 1) = J.rt s l j k + J.pw (J.rn s l j k).1) := Lib.hid rfl
        clear hX hXY k4 hin hvk
        generalize J.pw (J.rn s l j k).1 = pwk at *
        generalize hrtk : J.rt s l j k = rtk at *
        generalize hp1 : (J.rn s l j k).1 = p1 at *
        generalize hp2 : (J.rn s l j k).2 = p2 at *
        clear hrtk hp1 hp2
        go_wp2_with fail
        refine (K3.out _ gW).mono ?_
        rintro e w5 ⟨rfl, b5⟩
        have hDw := (R.b b5).nb.ltD
        have R5 := (R.b b5).al (.cells #[.int .i64 X, .int .i64 Y] 24)
        have h5 := ((HS.out.below (b5.mono R.nb.bel.size))).below ((Below.refl w.heap.size w5).alloc (R.b b5).nb.bel.size (.cells #[.int .i64 X, .int .i64 Y] 24))
        have g5 := (gW.b b5).al (.cells #[.int .i64 X, .int .i64 Y] 24)
        have x5 := P2.new w5 X Y 24
        have d50 := R5.nb.d0
        have d51 := R5.nb.d1
        clear R b5 gW d0 d1 ck HS
        go_wp2_with fail
        refine (K4.out _).mono ?_
        rintro e w7 ⟨rfl, b7⟩
        have R7 := R5.b b7
        have h7 := h5.below (b7.mono R5.nb.bel.size)
        have g7 := g5.b b7
        have x7 := x5.b b7
        have hne : w5.heap.size ≠ w.heap.size := by omega
        have x70 := x7.c0
        have x71 := x7.c1
        have d70 := R7.nb.d0
        have d71 := R7.nb.d1
        have g70 := R7.g0
        have g71 := R7.g1
        clear K3 K4 R5 h5 g5 x5 b7 d50 d51 hDw
        go_wp2
        refine ⟨⟨k + 1, by omega, by rw [Int.natCast_add, Int.natCast_one], by rw [HRT.out], HO2.out, ?_, h7.set2 (Nat.le_refl _), g7.set2 hw0⟩, by simp [intOf]; omega⟩
        rw [HXY.out]
        exact R7.set X Y
      · have K3 := Lib.hid (fun w' => NP_impl_no (J.rn s l j k).1 (J.rn s l j k).2 (L.g l k) j w' (fun q => hin q.2.1))
        have hf : J.rk s l j = false := J.rk_no (fun q => hin (q.2.2.2 k (by rw [HL.out]; exact hlt)))
        have HF := Lib.hid hf
        clear hf hin hvk hrt
        generalize J.rt s l j k = rtk at *
        generalize hp1 : (J.rn s l j k).1 = p1 at *
        generalize hp2 : (J.rn s l j k).2 = p2 at *
        clear hp1 hp2
        go_wp2_with fail
        refine (K3.out _).mono ?_
        rintro e w5 ⟨rfl, b5⟩
        have R5 := (R.b b5).al (.cells #[.int .i64 0, .int .i64 0] 24)
        clear R b5 gW d0 d1 ck HS K3
        have e0 := R5.nb.e0
        have e1 := R5.nb.e1
        have f0 := R5.nb.f0
        have f1 := R5.nb.f1
        have HN := Lib.hid (R5.nb.fin (.int .i64 0) (.int .i64 0))
        clear R5
        go_wp2
        refine bodyPost_ret (v := .tuple #[.agg #[.int .i64 0, .int .i64 0], .int .i64 0, .bool false]) (by simp [results, Tryd.results17, go_sem, e0, e1]) rfl ⟨?_, HN.out⟩
        have hf := HF.out
        rw [hf, (J.re_no hf).1, (J.re_no hf).2]
    · obtain rfl : k = n := by omega
      have ht : J.rk s l j = true := J.rk_yes ⟨HV.out, hj, by rw [HL.out]; exact hn30, fun i hi => HO.out i (by rw [HL.out] at hi; exact hi)⟩
      have HT := Lib.hid ht
      clear ht hrt
      generalize hrtk : J.rt s l j k = rtk at *
      generalize hp1 : (J.rn s l j k).1 = p1 at *
      generalize hp2 : (J.rn s l j k).2 = p2 at *
      have HE := Lib.hid (And.intro hrtk (And.intro hp1 hp2))
      clear hrtk hp1 hp2
      have d0 := R.nb.d0
      have d1 := R.nb.d1
      have e0 := R.nb.e0
      have e1 := R.nb.e1
      have f0 := R.nb.f0
      have f1 := R.nb.f1
      have HN := Lib.hid (fun u v => R.nb.fin (.int .i64 u) (.int .i64 v))
      go_wp2
      refine bodyPost_ret (v := .tuple #[.agg #[.int .i64 p1, .int .i64 p2], .int .i64 rtk, .bool true]) (by simp [results, Tryd.results17, go_sem, e0, e1]) rfl ⟨?_, HN.out _ _⟩
      have ht := HT.out
      obtain ⟨q1, q2, q3⟩ := HE.out
      rw [ht, (J.re_yes ht).1, (J.re_yes ht).2, HL.out, q1, q2, q3]
end Go.Proofs.YthbfjmlkcgcgaaaDoor
