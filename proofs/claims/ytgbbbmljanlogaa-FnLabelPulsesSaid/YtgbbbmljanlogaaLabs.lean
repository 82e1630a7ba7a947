/-
  Labels of pulses (chapter 14): the program's and the model's function: a new list that the caller owns.
-/
import Derived.Test.YtgbbbmljanlogaaLabel
import Derived.Test.YtgbbbmljanlogaaPulse
namespace Go.Proofs.Ytgbbbmljanlogaa
open Go.RowKit
set_option linter.unusedVariables false
set_option maxRecDepth 100000
theorem hit_cut {ps : List Int} {c : Int} (hv : U.vp ps = true) {m : Nat} (hj : m + 1 ≤ ps.length) (hlo : ∀ i, i < m + 1 → L.g ps i ≤ c) (hhi : m + 1 = ps.length ∨ c < L.g ps (m + 1)) : G.last ps c = L.g ps m ∧ (G.hit ps c ↔ c - L.g ps m ≤ 700000) := by
  have e := G.last_cut hv hj hlo hhi
  rw [if_neg (by omega), Nat.add_sub_cancel] at e
  have r := U.rng hv (i := m) (by omega)
  refine ⟨e, ?_⟩
  unfold G.hit
  rw [e]
  exact ⟨fun h => h.2, fun h => ⟨r.1, h⟩⟩
theorem hit_none {ps : List Int} {c : Int} (hv : U.vp ps = true) (hhi : 0 = ps.length ∨ c < L.g ps 0) : ¬ G.hit ps c := fun h => by
  have e := G.last_cut hv (j := 0) (c := c) (Nat.zero_le _) (fun i hi => absurd hi (by omega)) hhi
  have := h.1
  rw [e, if_pos rfl] at this
  omega
theorem last_rng {ps : List Int} (hv : U.vp ps = true) (c : Int) (k : Nat) (hk : k ≤ ps.length) : -1 ≤ G.lastTo ps c k ∧ G.lastTo ps c k ≤ 100000000 := by
  rcases G.lastTo_in ps c k with e | ⟨j, hj, e, _⟩
  · rw [e]; decide
  · rw [e]; have := U.rng hv (i := j) (by omega); omega
set_option maxHeartbeats 8000000 in
theorem LP_impl (n1 c1 n2 c2 : Nat) (a1 a2 : Option Addr) (ps : List Int) (ls : List (Int × Int)) (w : World) (h : Lst w.heap.size w a1 n1 ps) (g : Sps w.heap.size w a2 n2 ls) : Calls Try.prog 13 #[.slice a1 n1 c1, .slice a2 n2 c2] w (ToldL w (G.lp ps ls)) := by
  have hl1 := h.1
  have hl2 := g.1
  have hn1 := h.2.1
  have hn2 := g.2.1
  have k1 := vp_impl w.heap.size n1 c1 a1 ps w h
  have k2 := vl_impl n2 c2 a2 ls w g
  rcases hv : U.vp ps with _ | _
  · rw [G.lp_no1 hv]
    simp only [hv] at k1
    have K1 := Lib.hid k1
    clear k1 k2 hv hl1 hl2 h g
    go_enter Try.func13, Try.ntmps13
    go_wp2_with fail
    refine K1.out.mono ?_
    rintro e w1 ⟨rfl, rfl⟩
    go_wp2
    go_ret
    exact ToldL.nil (Below.refl _ _)
  rcases hv2 : G.vl ls with _ | _
  · rw [G.lp_no2 hv2]
    simp only [hv] at k1
    simp only [hv2] at k2
    have K1 := Lib.hid k1
    have K2 := Lib.hid k2
    clear k1 k2 hv hv2 hl1 hl2 h g
    go_enter Try.func13, Try.ntmps13
    go_wp2_with fail
    refine K1.out.mono ?_
    rintro e w1 ⟨rfl, rfl⟩
    go_wp2_with fail
    refine K2.out.mono ?_
    rintro e w2 ⟨rfl, b2⟩
    have HB := Lib.hid b2
    clear b2
    go_wp2
    go_ret
    exact ToldL.nil HB.out
  rw [G.lp_yes hv hv2]
  simp only [hv] at k1
  simp only [hv2] at k2
  have K1 := Lib.hid k1
  have K2 := Lib.hid k2
  have HV := Lib.hid hv
  have HV2 := Lib.hid hv2
  have HL1 := Lib.hid hl1
  have HL2 := Lib.hid hl2
  have H0 := Lib.hid (And.intro h g)
  clear k1 k2 hv hv2 hl1 hl2 h g
  go_enter Try.func13, Try.ntmps13
  go_wp2_with fail
  refine K1.out.mono ?_
  rintro e w1 ⟨rfl, rfl⟩
  go_wp2_with fail
  refine K2.out.mono ?_
  rintro e w2 ⟨rfl, b2⟩
  have HB := Lib.hid b2
  clear b2
  have H2 := Lib.hid (And.intro (H0.out.1.below HB.out) (And.intro (H0.out.2.below HB.out) HB.out))
  clear HB
  go_wp2_with fail
  go_loopw [5, 6, 20] (fun t c i wr => ∃ (k j : Nat) (a' : Option Addr) (c' : Nat), t = .slice a' (G.lbs ps ls k).length c' ∧ c = .int .i64 j ∧ i = .int .i64 k ∧ k ≤ n2 ∧ j ≤ n1 ∧ (k < n2 → ∀ i, i < j → L.g ps i ≤ V.lo ls k) ∧ Prs 34 w.heap.size wr a' c' (G.lbs ps ls k) ∧ Lst w.heap.size wr a1 n1 ps ∧ Sps w.heap.size wr a2 n2 ls ∧ Below w.heap.size w wr) (fun _ _ i _ => n2 - (intOf i).toNat)
  case atStart => exact ⟨0, 0, none, 0, rfl, rfl, rfl, Nat.zero_le _, Nat.zero_le _, fun _ i hi => absurd hi (by omega), Prs.none_ _ _ _, H2.out.1, H2.out.2.1, H2.out.2.2⟩
  case round =>
    obtain ⟨k, j0, a', c', rfl, rfl, rfl, hk, hj0, hlo0, N, hP, hS, bl⟩ := hrel
    by_cases hlt : k < n2
    · obtain ⟨b, off, rfl, hb, hc⟩ := hS.at_ k hlt
      have c0 := (hc k hlt).1
      have c1 := (hc k hlt).2
      have hs := bl.size
      have hln := G.lbs_len ps ls k
      have hn16 := (G.vl_of HV2.out).1
      have hr := (G.rng HV2.out (i := k) (by have := HL2.out; omega)).1
      have hup := fun (q : k + 1 < n2) => G.asc HV2.out (k + 1) k (by omega) (by have := HL2.out; omega)
      have hy := G.lbs_yes (ps := ps) (ls := ls) (k := k)
      have hn := G.lbs_no (ps := ps) (ls := ls) (k := k)
      have hlo1 := hlo0 hlt
      generalize V.lo ls k = x at *
      generalize V.hi ls k = y at *
      obtain ⟨X, hX⟩ : ∃ X, G.lbs ps ls k = X := ⟨_, rfl⟩
      rw [hX] at N hy hn hln ⊢
      have HY := Lib.hid hy
      have HN := Lib.hid hn
      have HUP := Lib.hid hup
      have HLEN := Lib.hid (show X.length + 1 ≤ 1000 by have := HL2.out; omega)
      have hA := (Below.refl w.heap.size wr).alloc hs (.cells #[.int .i64 x, .int .i64 y] 34)
      have d0 : (wr.alloc (.cells #[.int .i64 x, .int .i64 y] 34)).cell? ⟨wr.heap.size, 0, none⟩ = some (.int .i64 x) := by simp
      have d1 : (wr.alloc (.cells #[.int .i64 x, .int .i64 y] 34)).cell? ⟨wr.heap.size, 1, none⟩ = some (.int .i64 y) := by simp
      have NA := N.keep ((Below.refl wr.heap.size wr).alloc (Nat.le_refl _) (.cells #[.int .i64 x, .int .i64 y] 34))
      have hF : ∀ w3, Same (wr.alloc (.cells #[.int .i64 x, .int .i64 y] 34)) w3 → (Prs 34 w.heap.size w3 a' c' X ∧ Lst w.heap.size w3 a1 n1 ps ∧ Sps w.heap.size w3 (some ⟨b, off, none⟩) n2 ls ∧ Below w.heap.size w w3) ∧ w3.cell? ⟨wr.heap.size, 0, none⟩ = some (.int .i64 x) ∧ w3.cell? ⟨wr.heap.size, 1, none⟩ = some (.int .i64 y) := fun w3 q => by
        obtain ⟨p, rfl⟩ := q
        exact ⟨⟨NA.drewN p, (hP.below hA).drewN p, (hS.below hA).drewN p, below_drewN (bl.trans hA) p⟩, d0, d1⟩
      have HF := Lib.hid hF
      have HLO1 := Lib.hid hlo1
      clear hy hn hup hX hc N NA hP hS bl hA hlo0 hlo1 hln hF d0 d1 hn16 hb hs
      go_wp2_with fail
      generalize wr.alloc (.cells #[.int .i64 x, .int .i64 y] 34) = wA at *
      clear c0 c1
      generalize wr.heap.size = D at *
      go_loopw [6] (fun c w3 => ∃ j : Nat, c = .int .i64 j ∧ j ≤ n1 ∧ (∀ i, i < j → L.g ps i ≤ x) ∧ Same wA w3) (fun c _ => n1 - (intOf c).toNat)
      case atStart => exact ⟨j0, rfl, hj0, HLO1.out, Same.refl _⟩
      case round =>
        obtain ⟨j, rfl, hj, hlo, hsm⟩ := hrel
        have HLO := Lib.hid hlo
        have F3 := HF.out _ hsm
        have hP := F3.1.2.1
        have e0 := F3.2.1
        have e1 := F3.2.2
        have hwx := F3.1.2.2.2.size
        clear hlo F3
        by_cases hjl : j < n1
        · obtain ⟨b1, off1, rfl, hb1, hcp⟩ := hP.at_ j hjl
          have cj := hcp j hjl
          by_cases hle : L.g ps j ≤ x
          · have hle' : decide (L.g ps j ≤ x) = true := decide_eq_true hle
            have HLJ := Lib.hid hle
            generalize L.g ps j = z at cj hle'
            clear hcp hP hle
            go_wp2
            go_quiet (fail)
            go_wp2
            go_roundw
            case rel => exact ⟨j + 1, by go_num, by omega, fun i hi => by
              rcases Nat.lt_or_ge i j with q | q
              · exact HLO.out i q
              · obtain rfl : i = j := by omega
                exact HLJ.out, hsm.drewN _⟩
            case measure => simp [intOf]; omega
          · have hle' : decide (L.g ps j ≤ x) = false := decide_eq_false hle
            have HHI := Lib.hid (show j = ps.length ∨ x < L.g ps j from Or.inr (by omega))
            generalize L.g ps j = z at cj hle'
            have HCP := Lib.hid hcp
            clear hcp hle
            go_wp2
            go_quiet (fail)
            rcases Nat.eq_zero_or_pos j with hz | hz
            · subst hz
              have HX := Lib.hid (HN.out (hit_none HV.out HHI.out))
              clear cj hP
              go_wp2
              go_roundw
              case rel => exact ⟨k + 1, 0, a', c', by rw [HX.out], by go_num, by go_num, by omega, by omega, fun _ i hi => absurd hi (by omega), by rw [HX.out]; exact (HF.out _ (hsm.drewN _)).1.1, (HF.out _ (hsm.drewN _)).1.2⟩
              case measure => simp [intOf]; omega
            · obtain ⟨m, rfl⟩ : ∃ m, j = m + 1 := ⟨j - 1, by omega⟩
              have HH := Lib.hid (hit_cut HV.out (by have := HL1.out; omega) HLO.out HHI.out)
              have hrp := U.rng HV.out (i := m) (by have := HL1.out; omega)
              have cm := HCP.out m (by omega)
              have HUJ := Lib.hid (fun (q : k + 1 < n2) (i : Nat) (hi : i < m + 1) => Int.le_trans (HLO.out i hi) (Int.le_of_lt (HUP.out q)))
              have p0 : (0 : Int) ≤ (m : Int) := Int.natCast_nonneg m
              have p1 : (m : Int) < (n1 : Int) := by omega
              have t1 : -9223372036854775808 ≤ x - L.g ps m ∧ x - L.g ps m ≤ 9223372036854775807 := by omega
              have t2 : -9223372036854775808 ≤ (m : Int) ∧ (m : Int) ≤ 9223372036854775807 := by have := hP.2.1; omega
              have ez : ((m : Int) + 1 == 0) = false := by rw [beq_eq_false_iff_ne]; omega
              have t3 : -9223372036854775808 ≤ (k : Int) + 1 ∧ (k : Int) + 1 ≤ 9223372036854775807 := by omega
              have HMJ := Lib.hid (show m + 1 ≤ n1 from hj)
              clear cj hP hz hn1 hn2
              by_cases hit : x - L.g ps m ≤ 700000
              · have hit' : decide (x - L.g ps m ≤ 700000) = true := decide_eq_true hit
                have HX := Lib.hid (by have := HY.out (HH.out.2.2 hit); rw [HH.out.1] at this; exact this.symm)
                have hW := fun q => (HF.out _ (hsm.drewN q)).1.1.keep ((Below.refl _ _).alloc (Nat.le_refl _) (.cells #[.int .i64 (L.g ps m), .int .i64 y] 34))
                have HW := Lib.hid hW
                have arm : ∀ q a2 c2 w2, Prs 34 w.heap.size w2 a2 c2 (G.lbs ps ls (k + 1)) → Below w.heap.size ((wr.drewN q).alloc (.cells #[.int .i64 (L.g ps m), .int .i64 y] 34)) w2 → Prs 34 w.heap.size w2 a2 c2 (G.lbs ps ls (k + 1)) ∧ Lst w.heap.size w2 (some ⟨b1, off1, none⟩) n1 ps ∧ Sps w.heap.size w2 (some ⟨b, off, none⟩) n2 ls ∧ Below w.heap.size w w2 := fun q a2 c2 w2 N2 b2 => by
                  have bw : Below w.heap.size (wr.drewN q) w2 := ((Below.refl w.heap.size (wr.drewN q)).alloc hwx _).trans b2
                  have f := (HF.out _ (hsm.drewN q)).1.2
                  exact ⟨N2, f.1.below bw, f.2.1.below bw, f.2.2.trans bw⟩
                have HARM := Lib.hid arm
                have HE := Lib.hid (show ∀ q, w.heap.size ≤ ((wr.drewN q).alloc (.cells #[.int .i64 (L.g ps m), .int .i64 y] 34)).heap.size from fun q => by simp; omega)
                clear hW arm hit hrp hj
                have u1 := IntWalk.wrap64_in _ t1
                have u2 := IntWalk.wrap64_in _ t2
                have u3 := IntWalk.wrap64_in _ t3
                clear t1 t2 t3
                go_wp2_with (at_builtin; refine wpList_l rfl _ _ rfl w.heap.size rfl rfl (HW.out _) (Sps.new _ (L.g ps m) y 34) HLEN.out (HE.out _) (G.lbs ps ls (k + 1)) HX.out ?_)
                intro a2 c2 w2 N2 b2 _
                have FF := Lib.hid (HARM.out _ a2 c2 w2 N2 b2)
                clear N2 b2
                go_wp2
                go_roundw
                case rel => simp only [u3]; clear u1 u2 u3; exact ⟨k + 1, m + 1, a2, c2, rfl, by go_num, by go_num, by omega, HMJ.out, HUJ.out, FF.out⟩
                case measure => simp only [u3]; clear u1 u2 u3; simp [intOf]; omega
              · have hit' : decide (x - L.g ps m ≤ 700000) = false := decide_eq_false hit
                have HX := Lib.hid (HN.out (fun q => hit (HH.out.2.1 q)))
                clear hit hrp hj
                have u1 := IntWalk.wrap64_in _ t1
                have u2 := IntWalk.wrap64_in _ t2
                have u3 := IntWalk.wrap64_in _ t3
                clear t1 t2 t3
                go_wp2
                go_roundw
                case rel => simp only [u3]; clear u1 u2 u3; exact ⟨k + 1, m + 1, a', c', by rw [HX.out], by go_num, by go_num, by omega, HMJ.out, HUJ.out, by rw [HX.out]; exact (HF.out _ (hsm.drewN _)).1.1, (HF.out _ (hsm.drewN _)).1.2⟩
                case measure => simp only [u3]; clear u1 u2 u3; simp [intOf]; omega
        · have hle' : decide ((j : Int) < (n1 : Int)) = false := decide_eq_false (by omega)
          have HHI := Lib.hid (show j = ps.length ∨ x < L.g ps j from Or.inl (by have := HL1.out; omega))
          go_wp2
          go_quiet (fail)
          rcases Nat.eq_zero_or_pos j with hz | hz
          · subst hz
            have HX := Lib.hid (HN.out (hit_none HV.out HHI.out))
            clear hP
            go_wp2
            go_roundw
            case rel => exact ⟨k + 1, 0, a', c', by rw [HX.out], by go_num, by go_num, by omega, by omega, fun _ i hi => absurd hi (by omega), by rw [HX.out]; exact (HF.out _ (hsm.drewN _)).1.1, (HF.out _ (hsm.drewN _)).1.2⟩
            case measure => simp [intOf]; omega
          · obtain ⟨m, rfl⟩ : ∃ m, j = m + 1 := ⟨j - 1, by omega⟩
            obtain ⟨b1, off1, rfl, hb1, hcp⟩ := hP.at_ m (by omega)
            have HCP := Lib.hid hcp
            clear hcp
            have HH := Lib.hid (hit_cut HV.out (by have := HL1.out; omega) HLO.out HHI.out)
            have hrp := U.rng HV.out (i := m) (by have := HL1.out; omega)
            have cm := HCP.out m (by omega)
            have HUJ := Lib.hid (fun (q : k + 1 < n2) (i : Nat) (hi : i < m + 1) => Int.le_trans (HLO.out i hi) (Int.le_of_lt (HUP.out q)))
            have p0 : (0 : Int) ≤ (m : Int) := Int.natCast_nonneg m
            have p1 : (m : Int) < (n1 : Int) := by omega
            have t1 : -9223372036854775808 ≤ x - L.g ps m ∧ x - L.g ps m ≤ 9223372036854775807 := by omega
            have t2 : -9223372036854775808 ≤ (m : Int) ∧ (m : Int) ≤ 9223372036854775807 := by have := hP.2.1; omega
            have ez : ((m : Int) + 1 == 0) = false := by rw [beq_eq_false_iff_ne]; omega
            have t3 : -9223372036854775808 ≤ (k : Int) + 1 ∧ (k : Int) + 1 ≤ 9223372036854775807 := by omega
            have HMJ := Lib.hid (show m + 1 ≤ n1 from hj)
            clear hP hz hn1 hn2
            by_cases hit : x - L.g ps m ≤ 700000
            · have hit' : decide (x - L.g ps m ≤ 700000) = true := decide_eq_true hit
              have HX := Lib.hid (by have := HY.out (HH.out.2.2 hit); rw [HH.out.1] at this; exact this.symm)
              have hW := fun q => (HF.out _ (hsm.drewN q)).1.1.keep ((Below.refl _ _).alloc (Nat.le_refl _) (.cells #[.int .i64 (L.g ps m), .int .i64 y] 34))
              have HW := Lib.hid hW
              have arm : ∀ q a2 c2 w2, Prs 34 w.heap.size w2 a2 c2 (G.lbs ps ls (k + 1)) → Below w.heap.size ((wr.drewN q).alloc (.cells #[.int .i64 (L.g ps m), .int .i64 y] 34)) w2 → Prs 34 w.heap.size w2 a2 c2 (G.lbs ps ls (k + 1)) ∧ Lst w.heap.size w2 (some ⟨b1, off1, none⟩) n1 ps ∧ Sps w.heap.size w2 (some ⟨b, off, none⟩) n2 ls ∧ Below w.heap.size w w2 := fun q a2 c2 w2 N2 b2 => by
                have bw : Below w.heap.size (wr.drewN q) w2 := ((Below.refl w.heap.size (wr.drewN q)).alloc hwx _).trans b2
                have f := (HF.out _ (hsm.drewN q)).1.2
                exact ⟨N2, f.1.below bw, f.2.1.below bw, f.2.2.trans bw⟩
              have HARM := Lib.hid arm
              have HE := Lib.hid (show ∀ q, w.heap.size ≤ ((wr.drewN q).alloc (.cells #[.int .i64 (L.g ps m), .int .i64 y] 34)).heap.size from fun q => by simp; omega)
              clear hW arm hit hrp hj
              have u1 := IntWalk.wrap64_in _ t1
              have u2 := IntWalk.wrap64_in _ t2
              have u3 := IntWalk.wrap64_in _ t3
              clear t1 t2 t3
              go_wp2_with (at_builtin; refine wpList_l rfl _ _ rfl w.heap.size rfl rfl (HW.out _) (Sps.new _ (L.g ps m) y 34) HLEN.out (HE.out _) (G.lbs ps ls (k + 1)) HX.out ?_)
              intro a2 c2 w2 N2 b2 _
              have FF := Lib.hid (HARM.out _ a2 c2 w2 N2 b2)
              clear N2 b2
              go_wp2
              go_roundw
              case rel => simp only [u3]; clear u1 u2 u3; exact ⟨k + 1, m + 1, a2, c2, rfl, by go_num, by go_num, by omega, HMJ.out, HUJ.out, FF.out⟩
              case measure => simp only [u3]; clear u1 u2 u3; simp [intOf]; omega
            · have hit' : decide (x - L.g ps m ≤ 700000) = false := decide_eq_false hit
              have HX := Lib.hid (HN.out (fun q => hit (HH.out.2.1 q)))
              clear hit hrp hj
              have u1 := IntWalk.wrap64_in _ t1
              have u2 := IntWalk.wrap64_in _ t2
              have u3 := IntWalk.wrap64_in _ t3
              clear t1 t2 t3
              go_wp2
              go_roundw
              case rel => simp only [u3]; clear u1 u2 u3; exact ⟨k + 1, m + 1, a', c', by rw [HX.out], by go_num, by go_num, by omega, HMJ.out, HUJ.out, by rw [HX.out]; exact (HF.out _ (hsm.drewN _)).1.1, (HF.out _ (hsm.drewN _)).1.2⟩
              case measure => simp only [u3]; clear u1 u2 u3; simp [intOf]; omega
    · have hkn : k = ls.length := by have := HL2.out; omega
      have T := Lib.hid (show ToldL w (G.lbs ps ls ls.length) (.returned (.slice a' (G.lbs ps ls k).length c')) wr from ⟨a', c', by rw [hkn], by rw [← hkn]; exact N, bl⟩)
      obtain ⟨X, hX⟩ : ∃ X, G.lbs ps ls k = X := ⟨_, rfl⟩
      rw [hX] at T ⊢
      clear N hP hS bl hkn hX hlo0
      go_wp2
      go_ret
      exact T.out
set_option maxHeartbeats 8000000 in
theorem LP_spec (n1 c1 n2 c2 : Nat) (a1 a2 : Option Addr) (ps : List Int) (ls : List (Int × Int)) (w : World) (h : Lst w.heap.size w a1 n1 ps) (g : Sps w.heap.size w a2 n2 ls) : Calls Try.prog 15 #[.slice a1 n1 c1, .slice a2 n2 c2] w (ToldL w (G.lp ps ls)) := by
  have hl1 := h.1
  have hl2 := g.1
  have hn1 := h.2.1
  have hn2 := g.2.1
  have hE := (Below.refl w.heap.size w).alloc (Nat.le_refl _) (.cells #[] 34)
  have O0 := Prs.made 34 w
  have hE1 := Lib.hid (And.intro (h.below hE) (And.intro (g.below hE) (And.intro hE O0)))
  have k1 := fun w' (h : Lst w.heap.size w' a1 n1 ps) => vp_spec w.heap.size n1 c1 a1 ps w' h
  have k2 := fun w' (h : Sps w.heap.size w' a2 n2 ls) => vl_spec w.heap.size n2 c2 a2 ls w' h
  rcases hv : U.vp ps with _ | _
  · rw [G.lp_no1 hv]
    simp only [hv] at k1
    have K1 := Lib.hid k1
    clear k1 k2 hv hl1 hl2 h g hE O0
    go_enter Try.func15, Try.ntmps15
    go_wp2_with fail
    refine (K1.out _ hE1.out.1).mono ?_
    rintro e w1 ⟨rfl, q1⟩
    have HQ1 := Lib.hid q1
    clear q1
    go_wp2
    go_ret
    exact ToldL.nil (hE1.out.2.2.1.trans HQ1.out.below)
  rcases hv2 : G.vl ls with _ | _
  · rw [G.lp_no2 hv2]
    simp only [hv] at k1
    simp only [hv2] at k2
    have K1 := Lib.hid k1
    have K2 := Lib.hid k2
    clear k1 k2 hv hv2 hl1 hl2 h g hE O0
    go_enter Try.func15, Try.ntmps15
    go_wp2_with fail
    refine (K1.out _ hE1.out.1).mono ?_
    rintro e w1 ⟨rfl, q1⟩
    have HQ1 := Lib.hid q1
    clear q1
    go_wp2_with fail
    refine (K2.out _ (hE1.out.2.1.same HQ1.out)).mono ?_
    rintro e w2 ⟨rfl, q2⟩
    have HQ2 := Lib.hid q2
    clear q2
    go_wp2
    go_ret
    exact ToldL.nil (hE1.out.2.2.1.trans (HQ1.out.trans HQ2.out).below)
  rw [G.lp_yes hv hv2]
  simp only [hv] at k1
  simp only [hv2] at k2
  have K1 := Lib.hid k1
  have K2 := Lib.hid k2
  have HV := Lib.hid hv
  have HV2 := Lib.hid hv2
  have HL1 := Lib.hid hl1
  have HL2 := Lib.hid hl2
  have H0 := Lib.hid (And.intro h g)
  clear k1 k2 hv hv2 hl1 hl2 h g hE O0
  go_enter Try.func15, Try.ntmps15
  go_wp2_with fail
  refine (K1.out _ hE1.out.1).mono ?_
  rintro e w1 ⟨rfl, q1⟩
  have HQ1 := Lib.hid q1
  clear q1
  go_wp2_with fail
  refine (K2.out _ (hE1.out.2.1.same HQ1.out)).mono ?_
  rintro e w2 ⟨rfl, q2⟩
  have HQ2 := Lib.hid q2
  clear q2
  have H2 := Lib.hid (show Prs 34 w.heap.size w2 (some ⟨w.heap.size, 0, none⟩) 0 [] ∧ Lst w.heap.size w2 a1 n1 ps ∧ Sps w.heap.size w2 a2 n2 ls ∧ Below w.heap.size w w2 from by
    have q := HQ1.out.trans HQ2.out
    have e := hE1.out
    obtain ⟨p, rfl⟩ := q
    exact ⟨e.2.2.2.drewN p, e.1.drewN p, e.2.1.drewN p, below_drewN e.2.2.1 p⟩)
  clear hE1 HQ1 HQ2
  go_wp2_with fail
  go_loopw [5, 6] (fun t i wr => ∃ (k : Nat) (a' : Option Addr) (c' : Nat), t = .slice a' (G.lbs ps ls k).length c' ∧ i = .int .i64 k ∧ k ≤ n2 ∧ Prs 34 w.heap.size wr a' c' (G.lbs ps ls k) ∧ Lst w.heap.size wr a1 n1 ps ∧ Sps w.heap.size wr a2 n2 ls ∧ Below w.heap.size w wr) (fun _ i _ => n2 - (intOf i).toNat)
  case atStart => exact ⟨0, _, 0, rfl, rfl, Nat.zero_le _, H2.out⟩
  case round =>
    obtain ⟨k, a', c', rfl, rfl, hk, N, hP, hS, bl⟩ := hrel
    by_cases hlt : k < n2
    · have hS0 := hS
      obtain ⟨b, off, rfl, hb, hc⟩ := hS.at_ k hlt
      have c0 := (hc k hlt).1
      have c1 := (hc k hlt).2
      have hs := bl.size
      have hln := G.lbs_len ps ls k
      have hn16 := (G.vl_of HV2.out).1
      have hr := (G.rng HV2.out (i := k) (by have := HL2.out; omega)).1
      have hy := G.lbs_yes (ps := ps) (ls := ls) (k := k)
      have hn := G.lbs_no (ps := ps) (ls := ls) (k := k)
      generalize V.lo ls k = x at *
      generalize V.hi ls k = y at *
      obtain ⟨X, hX⟩ : ∃ X, G.lbs ps ls k = X := ⟨_, rfl⟩
      rw [hX] at N hy hn hln ⊢
      have HY := Lib.hid hy
      have HN := Lib.hid hn
      have HLEN := Lib.hid (show X.length + 1 ≤ 1000 by have := HL2.out; omega)
      have HF := Lib.hid (show ∀ w3, Same wr w3 → (Prs 34 w.heap.size w3 a' c' X ∧ Lst w.heap.size w3 a1 n1 ps ∧ Sps w.heap.size w3 (some ⟨b, off, none⟩) n2 ls ∧ Below w.heap.size w w3) ∧ w3.cell? ⟨b, off + k * 2, none⟩ = some (.int .i64 x) ∧ w3.cell? ⟨b, off + k * 2 + 1, none⟩ = some (.int .i64 y) from fun w3 q => by
        obtain ⟨p, rfl⟩ := q
        exact ⟨⟨N.drewN p, hP.drewN p, hS.drewN p, below_drewN bl p⟩, c0, c1⟩)
      clear hy hn hX hc N hP hS hS0 bl hln hn16 hb hs c0 c1
      go_wp2_with fail
      generalize wr = wA at *
      go_loopw [7, 8] (fun t c w3 => ∃ j : Nat, t = .int .i64 (G.lastTo ps x j) ∧ c = .int .i64 j ∧ j ≤ n1 ∧ Same wA w3) (fun _ c _ => n1 - (intOf c).toNat)
      case atStart => exact ⟨0, rfl, rfl, Nat.zero_le _, Same.refl _⟩
      case round =>
        obtain ⟨j, rfl, rfl, hj, hsm⟩ := hrel
        have F3 := HF.out _ hsm
        have hP := F3.1.2.1
        have e0 := F3.2.1
        have e1 := F3.2.2
        have hwx := F3.1.2.2.2.size
        clear F3
        have hlr := last_rng HV.out x j (by have := HL1.out; omega)
        by_cases hjl : j < n1
        · obtain ⟨b1, off1, rfl, hb1, hcp⟩ := hP.at_ j hjl
          have cj := hcp j hjl
          have hy1 := G.lastTo_yes (ps := ps) (c := x) (k := j)
          have hn1 := G.lastTo_no (ps := ps) (c := x) (k := j)
          generalize L.g ps j = z at *
          have HY1 := Lib.hid hy1
          have HN1 := Lib.hid hn1
          clear hy1 hn1 hcp hP
          by_cases hle : z ≤ x
          · have hle' : decide (z ≤ x) = true := decide_eq_true hle
            have HZ := Lib.hid (HY1.out hle)
            clear hle
            go_wp2
            go_quiet (fail)
            go_wp2
            go_roundw
            case rel => exact ⟨j + 1, by rw [HZ.out], by go_num, by omega, hsm.drewN _⟩
            case measure => simp [intOf]; omega
          · have hle' : decide (z ≤ x) = false := decide_eq_false hle
            have HZ := Lib.hid (HN1.out hle)
            clear hle
            go_wp2
            go_quiet (fail)
            go_wp2
            go_roundw
            case rel => exact ⟨j + 1, by rw [HZ.out], by go_num, by omega, hsm.drewN _⟩
            case measure => simp [intOf]; omega
        · obtain rfl : j = n1 := by omega
          have HLST := Lib.hid (show G.last ps x = G.lastTo ps x j from by unfold G.last; rw [HL1.out])
          have HH := Lib.hid (show G.hit ps x ↔ 0 ≤ G.lastTo ps x j ∧ x - G.lastTo ps x j ≤ 700000 from by unfold G.hit; rw [HLST.out])
          rw [HLST.out] at HY
          generalize G.lastTo ps x j = z at *
          have t3 : -9223372036854775808 ≤ (k : Int) + 1 ∧ (k : Int) + 1 ≤ 9223372036854775807 := by omega
          have t1 : -9223372036854775808 ≤ x - z ∧ x - z ≤ 9223372036854775807 := by omega
          clear hP
          by_cases hz : 0 ≤ z
          · by_cases hit : x - z ≤ 700000
            · have hit' : decide (x - z ≤ 700000) = true := decide_eq_true hit
              have hz' : decide (0 ≤ z) = true := decide_eq_true hz
              have HX := Lib.hid (HY.out (HH.out.2 ⟨hz, hit⟩)).symm
              have hW := (HF.out _ hsm).1.1.keep ((Below.refl _ _).alloc (Nat.le_refl _) (.cells #[.int .i64 z, .int .i64 y] 34))
              have HW := Lib.hid hW
              have arm : ∀ a2 c2 w2, Prs 34 w.heap.size w2 a2 c2 (G.lbs ps ls (k + 1)) → Below w.heap.size (wr.alloc (.cells #[.int .i64 z, .int .i64 y] 34)) w2 → Prs 34 w.heap.size w2 a2 c2 (G.lbs ps ls (k + 1)) ∧ Lst w.heap.size w2 a1 j ps ∧ Sps w.heap.size w2 (some ⟨b, off, none⟩) n2 ls ∧ Below w.heap.size w w2 := fun a2 c2 w2 N2 b2 => by
                have bw : Below w.heap.size wr w2 := ((Below.refl w.heap.size wr).alloc hwx _).trans b2
                have f := (HF.out _ hsm).1.2
                exact ⟨N2, f.1.below bw, f.2.1.below bw, f.2.2.trans bw⟩
              have HARM := Lib.hid arm
              have HE := Lib.hid (show w.heap.size ≤ (wr.alloc (.cells #[.int .i64 z, .int .i64 y] 34)).heap.size from by simp; omega)
              clear hW arm hit hz hlr hj hn1 hn2
              have u1 := IntWalk.wrap64_in _ t1
              have u3 := IntWalk.wrap64_in _ t3
              clear t1 t3
              go_wp2_with (at_builtin; refine wpList_l rfl _ _ rfl w.heap.size rfl rfl HW.out (Sps.new _ z y 34) HLEN.out HE.out (G.lbs ps ls (k + 1)) HX.out ?_)
              intro a2 c2 w2 N2 b2 _
              have FF := Lib.hid (HARM.out a2 c2 w2 N2 b2)
              clear N2 b2
              go_wp2
              go_roundw
              case rel => simp only [u3]; clear u1 u3; exact ⟨k + 1, a2, c2, rfl, by go_num, by omega, FF.out⟩
              case measure => simp only [u3]; clear u1 u3; simp [intOf]; omega
            · have hit' : decide (x - z ≤ 700000) = false := decide_eq_false hit
              have hz' : decide (0 ≤ z) = true := decide_eq_true hz
              have HX := Lib.hid (HN.out (fun q => hit (HH.out.1 q).2))
              clear hit hz hlr hj hn1 hn2
              have u1 := IntWalk.wrap64_in _ t1
              have u3 := IntWalk.wrap64_in _ t3
              clear t1 t3
              go_wp2
              go_roundw
              case rel => simp only [u3]; clear u1 u3; exact ⟨k + 1, a', c', by rw [HX.out], by go_num, by omega, by rw [HX.out]; exact (HF.out _ hsm).1.1, (HF.out _ hsm).1.2⟩
              case measure => simp only [u3]; clear u1 u3; simp [intOf]; omega
          · have hz' : decide (0 ≤ z) = false := decide_eq_false hz
            have HX := Lib.hid (HN.out (fun q => hz (HH.out.1 q).1))
            clear hz hlr hj
            go_wp2
            go_roundw
            case rel => exact ⟨k + 1, a', c', by rw [HX.out], by go_num, by omega, by rw [HX.out]; exact (HF.out _ hsm).1.1, (HF.out _ hsm).1.2⟩
            case measure => simp [intOf]; omega
    · have hkn : k = ls.length := by have := HL2.out; omega
      have T := Lib.hid (show ToldL w (G.lbs ps ls ls.length) (.returned (.slice a' (G.lbs ps ls k).length c')) wr from ⟨a', c', by rw [hkn], by rw [← hkn]; exact N, bl⟩)
      obtain ⟨X, hX⟩ : ∃ X, G.lbs ps ls k = X := ⟨_, rfl⟩
      rw [hX] at T ⊢
      clear N hP hS bl hkn hX
      go_wp2
      go_ret
      exact T.out
end Go.Proofs.Ytgbbbmljanlogaa
