/-
  When a clock crosses zero (chapter 7): the model's binary search.
-/
import Derived.Test.YtmkeddcaeaaoaacCross
namespace Go.Proofs.Ytmkeddcaeaaoaac
open Go.RowKit
set_option linter.unusedVariables false
set_option maxRecDepth 100000
set_option maxHeartbeats 8000000 in
theorem CZ_spec (o r a : Int) (w : World) : Calls Try.prog 17 #[.agg #[.int .i64 o, .int .i64 r, .int .i64 a]] w fun e w' => e = .returned (.int .i64 (K.cz o r a)) ∧ Below w.heap.size w w' := by
  have k1 := fun w' => vc_spec0 o r a w'
  have bA := (Below.refl w.heap.size w).alloc (Nat.le_refl _) (.cells #[.int .i64 o, .int .i64 r, .int .i64 a] 24)
  have xA := C3.new w o r a 24
  rcases hv : K.vc o r a with _ | _
  · have HT := Lib.hid (K.cz_no (o := o) (r := r) (a := a) (fun h => by rw [hv] at h; cases h.1))
    simp only [hv] at k1
    clear hv
    go_enter Try.func17, Try.ntmps17
    go_wp2_with fail
    refine (k1 _).mono ?_
    rintro e w1 ⟨rfl, b1⟩
    have b2 := bA.trans (b1.mono bA.size)
    clear bA b1 xA
    go_wp2
    go_ret
    exact ⟨ret_int HT.out.symm, b2⟩
  have HV := Lib.hid hv
  simp only [hv] at k1
  clear hv
  rcases hn : K.near o r with _ | _
  · have HT := Lib.hid (K.cz_no (o := o) (r := r) (a := a) (fun h => by rw [hn] at h; cases h.2.1))
    have hnn : ¬ (o < 0 ∧ 0 < r ∨ 0 < o ∧ r < 0) := of_decide_eq_false hn
    clear hn
    rcases Int.lt_trichotomy o 0 with ho | ho | ho
    · have x1 : decide (0 < o) = false := decide_eq_false (by omega)
      have x3 : r ≤ 0 := by omega
      clear hnn
      go_enter Try.func17, Try.ntmps17
      go_wp2_with fail
      refine (k1 _).mono ?_
      rintro e w1 ⟨rfl, b1⟩
      have b2 := bA.trans (b1.mono bA.size)
      have y := xA.b b1
      have d0 := y.c0
      have d1 := y.c1
      have d2 := y.c2
      clear bA b1 xA k1 y
      go_wp2
      go_ret
      exact ⟨ret_int HT.out.symm, b2⟩
    · have x1 : decide (0 < o) = false := decide_eq_false (by omega)
      have x2 : decide (o < 0) = false := decide_eq_false (by omega)
      have x3 : (o == 0) = true := by rw [ho]; rfl
      clear hnn ho
      go_enter Try.func17, Try.ntmps17
      go_wp2_with fail
      refine (k1 _).mono ?_
      rintro e w1 ⟨rfl, b1⟩
      have b2 := bA.trans (b1.mono bA.size)
      have y := xA.b b1
      have d0 := y.c0
      have d1 := y.c1
      have d2 := y.c2
      clear bA b1 xA k1 y
      go_wp2
      go_ret
      exact ⟨ret_int HT.out.symm, b2⟩
    · have x3 : 0 ≤ r := by omega
      clear hnn
      go_enter Try.func17, Try.ntmps17
      go_wp2_with fail
      refine (k1 _).mono ?_
      rintro e w1 ⟨rfl, b1⟩
      have b2 := bA.trans (b1.mono bA.size)
      have y := xA.b b1
      have d0 := y.c0
      have d1 := y.c1
      have d2 := y.c2
      clear bA b1 xA k1 y
      go_wp2
      go_ret
      exact ⟨ret_int HT.out.symm, b2⟩
  have hvc := K.vc_of HV.out
  have hl := K.last_bd HV.out
  have hx := K.near_of hn
  have HN := Lib.hid hn
  clear hn
  have x1 : (0 < o ∧ r < 0) ∨ (o < 0 ∧ 0 < r) := by omega
  obtain ⟨L, hL⟩ : ∃ L : Nat, K.last a = a + (L : Int) := ⟨(K.last a - a).toNat, by omega⟩
  have HLE := Lib.hid hL
  have hL1 : L ≤ 100000 := by omega
  have hLm := K.last a
  have y0 : (o == 0) = false := by rw [beq_eq_false_iff_ne]; omega
  have y1 : decide (0 < o ∧ 0 ≤ r) = false := decide_eq_false (by omega)
  have hsg : (decide (0 < o) = true ∧ decide (0 ≤ r) = false ∧ decide (o < 0) = false) ∨ (decide (0 < o) = false ∧ decide (o < 0) = true ∧ decide (r ≤ 0) = false) := by
    rcases x1 with h | h
    · exact .inl ⟨decide_eq_true h.1, decide_eq_false (by omega), decide_eq_false (by omega)⟩
    · exact .inr ⟨decide_eq_false (by omega), decide_eq_true h.1, decide_eq_false (by omega)⟩
  clear hLm y1
  have hmin : a + 100000 ≤ 3786479999 ∧ a + 100000 = a + (L : Int) ∨ 3786479999 ≤ a + 100000 ∧ 3786479999 = a + (L : Int) := by unfold K.last at hL; omega
  have KC : Hid (∀ w' t s, t = a + ((s : Nat) : Int) → s ≤ 100000 → Calls Try.prog 54 #[.agg #[.int .i64 o, .int .i64 r, .int .i64 a], .int .i64 t] w' fun e w'' => e = .returned (.bool (K.xd o r a s)) ∧ Below w'.heap.size w' w'') := Lib.hid (fun w' t s h1 h2 => crs_spec o r a t s w' HV.out HN.out h1 h2)
  clear hx x1 hl hL
  go_enter Try.func17, Try.ntmps17
  go_wp2_with fail
  refine (k1 _).mono ?_
  rintro e w1 ⟨rfl, b1⟩
  have b2 := bA.trans (b1.mono bA.size)
  have y := xA.b b1
  have d0 := y.c0
  have d1 := y.c1
  have d2 := y.c2
  clear bA b1 xA k1
  have HY := Lib.hid y
  clear y
  obtain ⟨M, hM, hMa⟩ : ∃ M : Int, M = a + (L : Int) ∧ (3786479999 ≤ a + 100000 ∧ M = 3786479999 ∨ a + 100000 ≤ 3786479999 ∧ M = a + 100000) := ⟨a + L, rfl, by omega⟩
  rcases hsg with ⟨s1, s2, s3⟩ | ⟨s1, s2, s3⟩
  all_goals
    go_wp2_with fail
  all_goals
    refine (KC.out _ _ L (by omega) hL1).mono ?_
    rintro e w2 ⟨rfl, b3⟩
    have b4 := b2.trans (b3.mono b2.size)
    have HY2 := Lib.hid (HY.out.b b3)
    clear b2 b3 HY d0 d1 d2
    rcases hq : K.xd o r a L with _ | _
    · have HT := Lib.hid (K.cz_no (o := o) (r := r) (a := a) (fun h => K.fp_out HN.out hq (by omega) (by rw [HLE.out] at h; omega)))
      clear hq
      go_wp2
      go_ret
      exact ⟨ret_int HT.out.symm, b4⟩
    · have HQ := Lib.hid hq
      have HM := Lib.hid hmin
      clear hq hmin hMa hM
      go_wp2_with fail
      go_loopw [4, 5, 6] (fun i j m wr => ∃ p q : Nat, p ≤ q ∧ q ≤ L ∧ i = .int .i64 (a + (p : Int)) ∧ j = .int .i64 (a + (q : Int)) ∧ (∀ x : Nat, x < p → K.xd o r a x = false) ∧ K.xd o r a q = true ∧ Below w.heap.size w wr ∧ C3 wr w.heap.size o r a) (fun i j _ _ => (intOf j).toNat - (intOf i).toNat)
      case atStart => exact ⟨0, L, by omega, by omega, by simp, by have := HM.out; simp; omega, fun j hj => absurd hj (by omega), HQ.out, b4, HY2.out⟩
      case round =>
        obtain ⟨p, q, hpq, hq, rfl, rfl, hlo, hhi, hs, hy⟩ := hrel
        have HA := Lib.hid hlo
        have HB := Lib.hid hhi
        have HC := Lib.hid hy
        have d0 := hy.c0
        have d1 := hy.c1
        have d2 := hy.c2
        clear hlo hhi b4 HY2 hy
        by_cases hlt : p < q
        · have hlt' : a + (p : Int) < a + (q : Int) := by omega
          have hnn : 0 ≤ a + (p : Int) + (a + (q : Int)) := by omega
          have em : (a + (p : Int) + (a + (q : Int))) / 2 = a + (((p + q) / 2 : Nat) : Int) := by omega
          have KM := Lib.hid (fun w' t h => KC.out w' t ((p + q) / 2) h (by omega))
          have EM := Lib.hid em
          clear em
          rcases hd : K.xd o r a ((p + q) / 2) with _ | _
          · have HG : Hid (∀ x : Nat, x < (p + q) / 2 + 1 → K.xd o r a x = false) := Lib.hid (fun x hx => K.xd_before HN.out (by omega) hd)
            have km := KM.out
            simp only [hd] at km
            have KM2 := Lib.hid km
            clear km KM hd
            go_wp2_with fail
            refine (KM2.out _ _ EM.out).mono ?_
            rintro e w5 ⟨rfl, b5⟩
            have HC5 := HC.out.b b5
            have b6 := hs.trans (b5.mono hs.size)
            go_wp2
            go_roundw
            case rel => exact ⟨(p + q) / 2 + 1, q, by omega, hq, by have := EM.out; simp; omega, rfl, HG.out, HB.out, b6, HC5⟩
            case measure => have := EM.out; simp [intOf]; omega
          · have HG := Lib.hid hd
            have km := KM.out
            simp only [hd] at km
            have KM2 := Lib.hid km
            clear km KM hd
            go_wp2_with fail
            refine (KM2.out _ _ EM.out).mono ?_
            rintro e w5 ⟨rfl, b5⟩
            have HC5 := HC.out.b b5
            have b6 := hs.trans (b5.mono hs.size)
            go_wp2
            go_roundw
            case rel => exact ⟨p, (p + q) / 2, by omega, by omega, rfl, by have := EM.out; simp; omega, HA.out, HG.out, b6, HC5⟩
            case measure => have := EM.out; simp [intOf]; omega
        · obtain rfl : q = p := by omega
          have HT := Lib.hid (show K.cz o r a = a + (q : Int) from by
            have hcr : K.Cr o r a q := ⟨by omega, HA.out, fun _ => HB.out⟩
            rw [K.cz_yes ⟨HV.out, HN.out, by rw [hcr.fp, HLE.out]; omega⟩, hcr.fp])
          go_wp2
          go_ret
          exact ⟨ret_int HT.out.symm, hs⟩
end Go.Proofs.Ytmkeddcaeaaoaac
