/-
  When a clock crosses zero (chapter 7): the program's and the model's search.
-/
import Derived.Test.YtmkeddcaeaaoaacClockC
import Derived.Test.YtmkeddcaeaaoaacClockD
import Derived.Test.YtmkeddcaeaaoaacKMathB
namespace Go.Proofs.Ytmkeddcaeaaoaac
open Go.RowKit
set_option linter.unusedVariables false
set_option maxRecDepth 100000
namespace K
/-- Whether a clock that neared zero has come to it, some seconds later. -/
def xd (o r a : Int) (s : Nat) : Bool := !near (off o r a (a + s)) r
theorem near_of {o r : Int} (h : near o r = true) : o < 0 ∧ 0 < r ∨ 0 < o ∧ r < 0 := of_decide_eq_true h
theorem off_secs (o r a : Int) (s : Nat) : off o r a (a + s) = o + r * (s : Int) / 1000 := by unfold off; congr 3; omega
theorem xd_pos {o r a : Int} {s : Nat} (h : 0 < o ∧ r < 0) : xd o r a s = decide (off o r a (a + s) ≤ 0) := by
  unfold xd near
  by_cases h0 : off o r a (a + s) ≤ 0
  · rw [decide_eq_true h0, decide_eq_false (by omega)]; rfl
  · rw [decide_eq_false h0, decide_eq_true (by omega)]; rfl
theorem xd_neg {o r a : Int} {s : Nat} (h : o < 0 ∧ 0 < r) : xd o r a s = decide (0 ≤ off o r a (a + s)) := by
  unfold xd near
  by_cases h0 : 0 ≤ off o r a (a + s)
  · rw [decide_eq_true h0, decide_eq_false (by omega)]; rfl
  · rw [decide_eq_false h0, decide_eq_true (by omega)]; rfl
theorem xd_mono {o r a : Int} (h : near o r = true) {s s' : Nat} (hs : s ≤ s') (hx : xd o r a s = true) : xd o r a s' = true := by
  rcases near_of h with k | k
  · rw [xd_neg k, decide_eq_true_eq, off_secs] at hx ⊢
    have e : r * (s : Int) ≤ r * (s' : Int) := Int.mul_le_mul_of_nonneg_left (by omega) (by omega)
    have := Int.ediv_le_ediv (c := 1000) (by omega) e
    omega
  · rw [xd_pos k, decide_eq_true_eq, off_secs] at hx ⊢
    have e : r * (s' : Int) ≤ r * (s : Int) := Int.mul_le_mul_of_nonpos_left (by omega) (by omega)
    have := Int.ediv_le_ediv (c := 1000) (by omega) e
    omega
theorem xd_before {o r a : Int} (h : near o r = true) {s s' : Nat} (hs : s ≤ s') (hx : xd o r a s' = false) : xd o r a s = false := by
  rcases hc : xd o r a s with _ | _
  · rfl
  · have := xd_mono h hs hc; rw [hx] at this; cases this
/-- The first second at which it has, of those that are asked for; one behind them if there is none. -/
structure Cr (o r a : Int) (p : Nat) : Prop where
  le : p ≤ 100001
  lo : ∀ x, x < p → xd o r a x = false
  hi : p < 100001 → xd o r a p = true
theorem Cr.same {o r a : Int} {p q : Nat} (h : Cr o r a p) (k : Cr o r a q) : p = q := by
  rcases Nat.lt_trichotomy p q with x | x | x
  · have := k.lo p x; rw [h.hi (by have := k.le; omega)] at this; cases this
  · exact x
  · have := h.lo q x; rw [k.hi (by have := h.le; omega)] at this; cases this
noncomputable def fp (o r a : Int) : Nat := Classical.epsilon (fun p => Cr o r a p)
theorem Cr.fp {o r a : Int} {p : Nat} (h : Cr o r a p) : fp o r a = p := Cr.same (Classical.epsilon_spec (p := fun p => Cr o r a p) ⟨p, h⟩) h
theorem Cr.exists_ {o r a : Int} (h : near o r = true) : ∀ n : Nat, n ≤ 100001 → (∃ p, Cr o r a p) ∨ ∀ x, x < n → xd o r a x = false
  | 0, _ => .inr (fun x hx => absurd hx (by omega))
  | n + 1, hn => by
    rcases Cr.exists_ h n (by omega) with k | k
    · exact .inl k
    · rcases hx : xd o r a n with _ | _
      · exact .inr (fun x hx' => by
          rcases Nat.lt_or_ge x n with y | y
          · exact k x y
          · obtain rfl : x = n := by omega
            exact hx)
      · exact .inl ⟨n, by omega, k, fun _ => hx⟩
theorem cr_ex {o r a : Int} (h : near o r = true) : Cr o r a (fp o r a) := by
  have : ∃ p, Cr o r a p := by
    rcases Cr.exists_ (a := a) h 100001 (by omega) with k | k
    · exact k
    · exact ⟨100001, by omega, k, fun h => absurd h (by omega)⟩
  exact Classical.epsilon_spec (p := fun p => Cr o r a p) this
/-- Where the clock has not come to zero at a second, the first one is a later one. -/
theorem fp_out {o r a : Int} (h : near o r = true) {n : Nat} (hx : xd o r a n = false) (hn : n ≤ 100000) (hle : fp o r a ≤ n) : False := by
  have k := cr_ex (a := a) h
  have := xd_mono h hle (k.hi (by omega))
  rw [hx] at this
  cases this
noncomputable def cz (o r a : Int) : Int := if vc o r a = true ∧ near o r = true ∧ a + (fp o r a : Int) ≤ last a then a + (fp o r a : Int) else -1
theorem cz_no {o r a : Int} (h : ¬ (vc o r a = true ∧ near o r = true ∧ a + (fp o r a : Int) ≤ last a)) : cz o r a = -1 := if_neg h
theorem cz_yes {o r a : Int} (h : vc o r a = true ∧ near o r = true ∧ a + (fp o r a : Int) ≤ last a) : cz o r a = a + (fp o r a : Int) := if_pos h
end K
theorem xcl_impl (o r a z : Int) (s p1 : Nat) (w : World) (hv : K.vc o r a = true) (hz : z = s) (hs : s ≤ 100000) (C : C3 w p1 o r a) :
    Calls Try.prog 50 #[.int .i64 z, .pointer (some ⟨p1, 0, none⟩)] w fun e w' => e = .returned (.bool (K.xd o r a s)) ∧ Below w.heap.size w w' := by
  subst hz
  have hvc := K.vc_of hv
  have K1 := Lib.hid (fun w' => at_impl o r a (a + (s : Int)) hvc.1 hvc.2.1 hvc.2.2 (by omega) w')
  have K2 := Lib.hid (fun w' => near_impl (K.off o r a (a + (s : Int))) r (a + (s : Int)) w')
  have c0 := C.c0
  have c1 := C.c1
  have c2 := C.c2
  clear hv C
  go_enter Try.func50, Try.ntmps50
  go_wp2_with fail
  refine (K1.out _).mono ?_
  rintro e w2 ⟨rfl, b2⟩
  clear c0 c1 c2
  go_wp2_with fail
  refine (K2.out _).mono ?_
  rintro e w3 ⟨rfl, b3⟩
  have b := b2.trans (b3.mono b2.size)
  clear b2 b3
  go_wp2
  go_ret
  exact ⟨rfl, b⟩
set_option maxHeartbeats 2000000 in
theorem xsearch (o r a : Int) (p1 : Nat) (w : World) (hv : K.vc o r a = true) (hn : K.near o r = true) (C : C3 w p1 o r a) :
    Calls Try.prog 49 #[.int .i64 100001, .func (.func 50) #[] #[.pointer (some ⟨p1, 0, none⟩)]] w fun e w' => e = .returned (.int .i64 (K.fp o r a)) ∧ (K.fp o r a ≤ 100001) ∧ Below w.heap.size w w' := by
  have HV := Lib.hid hv
  have HN := Lib.hid hn
  have HC := Lib.hid C
  clear hv hn C
  go_enter Try.func49, Try.ntmps49
  go_wp2
  go_loopw [5, 6] (fun i j wr => ∃ p q : Nat, p ≤ q ∧ q ≤ 100001 ∧ i = .int .i64 p ∧ j = .int .i64 q ∧ (∀ x : Nat, x < p → K.xd o r a x = false) ∧ (q < 100001 → K.xd o r a q = true) ∧ Below w.heap.size w wr) (fun i j _ => (intOf j).toNat - (intOf i).toNat)
  case atStart => exact ⟨0, 100001, by omega, by omega, rfl, rfl, fun j hj => absurd hj (by omega), fun h => absurd h (by omega), Below.refl _ _⟩
  case round =>
    obtain ⟨p, q, hpq, hq, rfl, rfl, hlo, hhi, hs⟩ := hrel
    have HA := Lib.hid hlo
    have HB := Lib.hid hhi
    clear hlo hhi
    by_cases hlt : p < q
    · have hm : (p + q) / 2 < 100001 := by omega
      have C := xcl_impl o r a ((((p : Int) + (q : Int))) / 2) ((p + q) / 2) p1 wr HV.out (by omega) (by omega) ((HC.out).b hs)
      rcases hd : K.xd o r a ((p + q) / 2) with _ | _
      · rw [hd] at C
        have HC2 := Lib.hid C
        have HG : Hid (∀ x : Nat, x < (p + q) / 2 + 1 → K.xd o r a x = false) := Lib.hid (fun x hx => K.xd_before HN.out (by omega) hd)
        clear C hd
        go_wp2_with (go_at_call 50; refine HC2.out.mono ?_; rintro e w2 ⟨rfl, b2⟩)
        go_roundw
        case rel => exact ⟨(p + q) / 2 + 1, q, by omega, hq, by go_num, rfl, HG.out, HB.out, hs.trans (b2.mono hs.size)⟩
        case measure => simp [intOf]; omega
      · rw [hd] at C
        have HC2 := Lib.hid C
        have HG := Lib.hid hd
        clear C hd
        go_wp2_with (go_at_call 50; refine HC2.out.mono ?_; rintro e w2 ⟨rfl, b2⟩)
        go_roundw
        case rel => exact ⟨p, (p + q) / 2, by omega, by omega, rfl, by go_num, HA.out, fun _ => HG.out, hs.trans (b2.mono hs.size)⟩
        case measure => simp [intOf]; omega
    · obtain rfl : q = p := by omega
      have hcut : K.Cr o r a q := ⟨hq, HA.out, HB.out⟩
      have HC2 := Lib.hid hcut
      clear hcut
      go_wp2
      go_ret
      exact ⟨ret_int (by rw [HC2.out.fp]), by rw [HC2.out.fp]; exact hq, hs⟩
set_option maxHeartbeats 4000000 in
theorem CZ_impl (o r a : Int) (w : World) : Calls Try.prog 16 #[.agg #[.int .i64 o, .int .i64 r, .int .i64 a]] w fun e w' => e = .returned (.int .i64 (K.cz o r a)) ∧ Below w.heap.size w w' := by
  have k1 := fun w' => vc_impl o r a w'
  have k2 := fun w' => near_impl o r a w'
  have bA := (Below.refl w.heap.size w).alloc (Nat.le_refl _) (.cells #[.int .i64 o, .int .i64 r, .int .i64 a] 24)
  have xA := C3.new w o r a 24
  rcases hv : K.vc o r a with _ | _
  · have HT := Lib.hid (K.cz_no (o := o) (r := r) (a := a) (fun h => by rw [hv] at h; cases h.1))
    simp only [hv] at k1
    clear hv k2
    go_enter Try.func16, Try.ntmps16
    go_wp2_with fail
    refine (k1 _).mono ?_
    rintro e w1 ⟨rfl, b1⟩
    have b2 := bA.trans (b1.mono bA.size)
    clear bA b1 xA
    go_wp2
    go_ret
    exact ⟨ret_int HT.out.symm, b2⟩
  · have HV := Lib.hid hv
    simp only [hv] at k1
    clear hv
    rcases hn : K.near o r with _ | _
    · have HT := Lib.hid (K.cz_no (o := o) (r := r) (a := a) (fun h => by rw [hn] at h; cases h.2.1))
      simp only [hn] at k2
      clear hn
      go_enter Try.func16, Try.ntmps16
      go_wp2_with fail
      refine (k1 _).mono ?_
      rintro e w1 ⟨rfl, b1⟩
      have b2 := bA.trans (b1.mono bA.size)
      have x1 := xA.b b1
      have d0 := x1.c0
      have d1 := x1.c1
      have d2 := x1.c2
      clear bA b1 xA k1 x1
      go_wp2_with fail
      refine (k2 _).mono ?_
      rintro e w2 ⟨rfl, b3⟩
      have b4 := b2.trans (b3.mono b2.size)
      clear b2 b3 d0 d1 d2 k2
      go_wp2
      go_ret
      exact ⟨ret_int HT.out.symm, b4⟩
    · have hvc := K.vc_of HV.out
      have hl := K.last_bd HV.out
      have HN := Lib.hid hn
      simp only [hn] at k2
      have K3 := Lib.hid (fun w' => last_impl o r a hvc.2.2 w')
      clear hn
      go_enter Try.func16, Try.ntmps16
      go_wp2_with fail
      refine (k1 _).mono ?_
      rintro e w1 ⟨rfl, b1⟩
      have b2 := bA.trans (b1.mono bA.size)
      have x1 := xA.b b1
      have d0 := x1.c0
      have d1 := x1.c1
      have d2 := x1.c2
      clear bA b1 xA k1
      go_wp2_with fail
      refine (k2 _).mono ?_
      rintro e w2 ⟨rfl, b3⟩
      have b4 := b2.trans (b3.mono b2.size)
      have x2 := x1.b b3
      have e0 := x2.c0
      have e1 := x2.c1
      have e2 := x2.c2
      clear b2 b3 d0 d1 d2 k2 x1
      go_wp2_with fail
      have hlt := x2.lt
      have K4 := fun w' (C : C3 w' w.heap.size o r a) => xsearch o r a w.heap.size w' HV.out HN.out C
      have K4' := Lib.hid K4
      clear K4
      go_region_held3 (fun w' => Below w.heap.size w w' ∧ w.heap.size < w'.heap.size ∧ w'.cell? ⟨w.heap.size, 0, none⟩ = some (.int .i64 o) ∧ w'.cell? ⟨w.heap.size, 1, none⟩ = some (.int .i64 r) ∧ w'.cell? ⟨w.heap.size, 2, none⟩ = some (.int .i64 a))
        (first | assumption | exact ⟨b4, hlt, e0, e1, e2⟩ | exact ⟨b4.drew, hlt, e0, e1, e2⟩ | exact keepC hb (by assumption))
        ((go_at_call 49; refine (K4'.out _ ⟨by assumption, by assumption, by assumption, by assumption⟩).mono ?_; rintro e w4 ⟨rfl, hfp, hb⟩))
      obtain ⟨g0, g1, g2, g3, g4⟩ := ‹Below w.heap.size w w4 ∧ _›
      have ew : IntKind.i64.wrap (a + (K.fp o r a : Int)) = a + (K.fp o r a : Int) := IntWalk.i64_in _ (by omega)
      by_cases hc : a + (K.fp o r a : Int) ≤ K.last a
      · have HT := Lib.hid (K.cz_yes ⟨HV.out, HN.out, hc⟩)
        have hd : decide (K.last a < a + (K.fp o r a : Int)) = false := decide_eq_false (by omega)
        clear hc b4 e0 e1 e2 hlt x2
        go_wp2_with fail
        refine (K3.out _).mono ?_
        rintro e w5 ⟨rfl, b5⟩
        have g5 := g0.trans (b5.mono g0.size)
        clear g0 g1 g2 g3 g4 b5
        go_wp2
        go_ret
        exact ⟨ret_int (by rw [HT.out]; first | done | rfl | exact ew), g5⟩
      · have HT := Lib.hid (K.cz_no (o := o) (r := r) (a := a) (fun h => hc h.2.2))
        have hd : decide (K.last a < a + (K.fp o r a : Int)) = true := decide_eq_true (by omega)
        clear hc b4 e0 e1 e2 hlt x2
        go_wp2_with fail
        refine (K3.out _).mono ?_
        rintro e w5 ⟨rfl, b5⟩
        have g5 := g0.trans (b5.mono g0.size)
        clear g0 g1 g2 g3 g4 b5
        go_wp2
        go_ret
        exact ⟨ret_int HT.out.symm, g5⟩
set_option maxHeartbeats 2000000 in
theorem crs_spec (o r a t : Int) (s : Nat) (w : World) (hv : K.vc o r a = true) (hn : K.near o r = true) (ht : t = a + (s : Int)) (hs : s ≤ 100000) :
    Calls Try.prog 54 #[.agg #[.int .i64 o, .int .i64 r, .int .i64 a], .int .i64 t] w fun e w' => e = .returned (.bool (K.xd o r a s)) ∧ Below w.heap.size w w' := by
  have hvc := K.vc_of hv
  have K1 := Lib.hid (fun w' => drift_spec o r a (t - a) hvc.2.1 (by omega) w')
  have bA := (Below.refl w.heap.size w).alloc (Nat.le_refl _) (.cells #[.int .i64 o, .int .i64 r, .int .i64 a] 24)
  have xA := C3.new w o r a 24
  have hmul := K.mul_in (r := r) (s := t - a) hvc.2.1 (by omega)
  have ew : IntKind.i64.wrap (t - a) = t - a := IntWalk.i64_in _ (by omega)
  have ew2 : IntKind.i64.wrap (o + r * (t - a) / 1000) = K.off o r a t := by unfold K.off; exact IntWalk.i64_in _ (by omega)
  have d0 := xA.c0
  have d1 := xA.c1
  have d2 := xA.c2
  have hD2 := xA.lt
  clear xA hmul
  have hx := K.near_of hn
  have HX : Hid ((o < 0 ∧ 0 < r → K.xd o r a s = decide (0 ≤ K.off o r a t)) ∧ (0 < o ∧ r < 0 → K.xd o r a s = decide (K.off o r a t ≤ 0))) := Lib.hid (by subst ht; exact ⟨K.xd_neg, K.xd_pos⟩)
  clear hn hv hvc ht
  go_enter Try.func54, Try.ntmps54
  go_wp2_with fail
  generalize w.alloc (Obj.cells #[.int .i64 o, .int .i64 r, .int .i64 a] 24) = W at d0 d1 d2 bA hD2 ⊢
  go_region_held3 (fun w' => Below w.heap.size w w' ∧ w.heap.size < w'.heap.size ∧ w'.cell? ⟨w.heap.size, 0, none⟩ = some (.int .i64 o) ∧ w'.cell? ⟨w.heap.size, 1, none⟩ = some (.int .i64 r) ∧ w'.cell? ⟨w.heap.size, 2, none⟩ = some (.int .i64 a))
    (first | assumption | exact ⟨bA, hD2, d0, d1, d2⟩ | exact ⟨bA.drew, hD2, d0, d1, d2⟩ | exact keepC hb (by assumption))
    ((go_at_call 74; refine (K1.out _).mono ?_; rintro e w4 ⟨rfl, hb⟩))
  obtain ⟨g0, g1, g2, g3, g4⟩ := ‹Below w.heap.size w w4 ∧ _›
  have G := Lib.hid g0
  clear g0 g1 bA hD2 d0 d1 d2 hb
  clear ew ew2
  rcases hx with k | k
  · have k2 : decide (0 < o) = false := decide_eq_false (by omega)
    have HK := Lib.hid k
    clear k
    go_wp2
    go_ret
    exact ⟨ret_bool (HX.out.1 HK.out).symm, G.out⟩
  · have HK := Lib.hid k
    go_wp2
    go_ret
    exact ⟨ret_bool (HX.out.2 HK.out).symm, G.out⟩
end Go.Proofs.Ytmkeddcaeaaoaac
