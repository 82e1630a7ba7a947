/-
  Phases (chapter 8): what is valid, and the slope; the program's and the model's functions.
-/
import Derived.Test.YtlkcbdcdldndcaaClock
import Derived.Test.YtlkcbdcdldndcaaPMath
namespace Go.Proofs.Ytlkcbdcdldndcaa
open Go.RowKit
set_option linter.unusedVariables false
set_option maxRecDepth 100000
set_option maxHeartbeats 1000000 in
theorem vp_impl (B n c : Nat) (a : Option Addr) (l : List Int) (w : World) (h : Lst B w a n l) : Calls Try.prog 35 #[.slice a n c] w fun e w' => e = .returned (.bool (F.vp l)) ∧ Same w w' := by
  obtain ⟨hl, hn, _⟩ := id h
  have HL := Lib.hid hl
  clear hl
  by_cases h16 : 16 < n
  · have HF := Lib.hid (F.vp_no (l := l) (fun k => by have := HL.out; omega))
    go_enter Try.func35, Try.ntmps35
    go_wp2
    go_ret
    exact ⟨ret_bool HF.out.symm, Same.refl _⟩
  go_enter Try.func35, Try.ntmps35
  go_wp2
  go_loopw [10] (fun i wr => ∃ k : Nat, k ≤ n ∧ F.okTo l k ∧ i = .int .i64 k ∧ Same w wr) (fun i _ => n - (intOf i).toNat)
  case atStart => exact ⟨0, Nat.zero_le _, fun i hi => absurd hi (by omega), rfl, Same.refl _⟩
  case round =>
    obtain ⟨k, hk, hok, rfl, hs⟩ := hrel
    have HO := Lib.hid hok
    clear hok
    have h := h.same hs
    by_cases hlt : k < n
    · obtain ⟨b, off, rfl, hb, hc⟩ := h.at_ k hlt
      have c0 := hc k hlt
      clear hc
      rcases inR_cases (L.g l k) (-1000000) 1000000 with ⟨r0, r1⟩ | ⟨r0, r1⟩
      · have HS := Lib.hid (F.okTo_succ HO.out r1)
        clear r1
        go_wp2_with (go_at_call 40; refine (inR_impl _ _ _ _).mono ?_; rintro e w' ⟨rfl, rfl⟩)
        go_roundw
        case rel => exact ⟨k + 1, by omega, HS.out, by go_num, hs⟩
        case measure => simp [intOf]; omega
      · have HF := Lib.hid (F.vp_no (l := l) (fun q => r1 (q.2 k (by have := HL.out; omega))))
        clear r1
        go_wp2_with (go_at_call 40; refine (inR_impl _ _ _ _).mono ?_; rintro e w' ⟨rfl, rfl⟩)
        go_ret
        exact ⟨ret_bool HF.out.symm, hs⟩
    · obtain rfl : k = n := by omega
      have HF := Lib.hid (F.vp_yes (l := l) (by rw [HL.out]; exact ⟨by omega, HO.out⟩))
      go_wp2
      go_ret
      exact ⟨ret_bool HF.out.symm, hs⟩
set_option maxHeartbeats 1000000 in
theorem ai_spec (B n c : Nat) (a : Option Addr) (l : List Int) (w : World) (h : Lst B w a n l) : Calls Try.prog 48 #[.slice a n c, .int .i64 (-1000000), .int .i64 1000000] w fun e w' => e = .returned (.bool (F.ai l)) ∧ Same w w' := by
  obtain ⟨hl, hn, _⟩ := id h
  have HL := Lib.hid hl
  clear hl
  go_enter Try.func48, Try.ntmps48
  go_wp2
  go_loopw [7] (fun i wr => ∃ k : Nat, k ≤ n ∧ F.okTo l k ∧ i = .int .i64 k ∧ Same w wr) (fun i _ => n - (intOf i).toNat)
  case atStart => exact ⟨0, Nat.zero_le _, fun i hi => absurd hi (by omega), rfl, Same.refl _⟩
  case round =>
    obtain ⟨k, hk, hok, rfl, hs⟩ := hrel
    have HO := Lib.hid hok
    clear hok
    have h := h.same hs
    by_cases hlt : k < n
    · obtain ⟨b, off, rfl, hb, hc⟩ := h.at_ k hlt
      have c0 := hc k hlt
      clear hc
      rcases inR_cases (L.g l k) (-1000000) 1000000 with ⟨r0, r1⟩ | ⟨r0, r1⟩
      · have HS := Lib.hid (F.okTo_succ HO.out r1)
        clear r1
        go_wp2_with (go_at_call 43; refine (inR_spec _ _ _ _).mono ?_; rintro e w' ⟨rfl, rfl⟩)
        go_roundw
        case rel => exact ⟨k + 1, by omega, HS.out, by go_num, hs⟩
        case measure => simp [intOf]; omega
      · have HF := Lib.hid (show F.ai l = false from decide_eq_false (fun q => r1 (q k (by have := HL.out; omega))))
        clear r1
        go_wp2_with (go_at_call 43; refine (inR_spec _ _ _ _).mono ?_; rintro e w' ⟨rfl, rfl⟩)
        go_ret
        exact ⟨ret_bool HF.out.symm, hs⟩
    · obtain rfl : k = n := by omega
      have HF := Lib.hid (show F.ai l = true from decide_eq_true (by rw [HL.out]; exact HO.out))
      go_wp2
      go_ret
      exact ⟨ret_bool HF.out.symm, hs⟩
theorem vp_spec (B n c : Nat) (a : Option Addr) (l : List Int) (w : World) (h : Lst B w a n l) : Calls Try.prog 37 #[.slice a n c] w fun e w' => e = .returned (.bool (F.vp l)) ∧ Same w w' := by
  obtain ⟨hl, hn, _⟩ := id h
  by_cases h16 : n ≤ 16
  · have hv : F.vp l = F.ai l := by unfold F.vp F.ai; congr 1; simp; intro; omega
    rw [hv]
    clear hv
    go_enter Try.func37, Try.ntmps37
    go_wp2_with fail
    refine (ai_spec _ _ _ _ _ _ h).mono ?_
    rintro e w1 ⟨rfl, q1⟩
    rcases hb : F.ai l with _ | _
    all_goals
      go_wp2
      go_ret
      exact ⟨ret_bool hb.symm, q1⟩
  · have HF := Lib.hid (F.vp_no (l := l) (fun k => by omega))
    have hd : decide ((n : Int) ≤ 16) = false := decide_eq_false (by omega)
    go_enter Try.func37, Try.ntmps37
    go_wp2
    go_ret
    exact ⟨ret_bool HF.out.symm, Same.refl _⟩
set_option maxHeartbeats 2000000 in
theorem SL_impl (B n c : Nat) (a : Option Addr) (l : List Int) (w : World) (h : Lst B w a n l) : Calls Try.prog 17 #[.slice a n c] w fun e w' => e = .returned (.tuple #[.int .i64 (F.sn l), .bool (F.sok l)]) ∧ Same w w' := by
  obtain ⟨hl, hn, _⟩ := id h
  rcases hv : F.vp l with _ | _
  · have hk : F.sok l = false := F.sok_no (fun q => by rw [hv] at q; cases q.1)
    have HK := Lib.hid hk
    have k1 := fun w' h => vp_impl B n c a l w' h
    simp only [hv] at k1
    have K1 := Lib.hid k1
    clear k1 hv hk hl
    by_cases h2 : n < 2
    · have h2' : (n : Int) < 2 := by omega
      go_enter Try.func17, Try.ntmps17
      go_wp2_with (go_at_call 35; refine (K1.out _ h).mono ?_; rintro e w1 ⟨rfl, q1⟩)
      go_ret2
      exact ⟨by rw [HK.out, F.sn_no HK.out]; first | done | rfl, by first | exact q1 | exact Same.refl _⟩
    · have h2' : decide ((n : Int) < 2) = false := decide_eq_false (by omega)
      go_enter Try.func17, Try.ntmps17
      go_wp2_with (go_at_call 35; refine (K1.out _ h).mono ?_; rintro e w1 ⟨rfl, q1⟩)
      go_ret2
      exact ⟨by rw [HK.out, F.sn_no HK.out]; first | done | rfl, by first | exact q1 | exact Same.refl _⟩
  · have hvp := F.vp_of hv
    have HV := Lib.hid hv
    have k1 := fun w' h => vp_impl B n c a l w' h
    simp only [hv] at k1
    have K1 := Lib.hid k1
    clear k1 hv
    by_cases h2 : n < 2
    · have HK := Lib.hid (F.sok_no (l := l) (fun q => by omega))
      have h2' : (n : Int) < 2 := by omega
      clear hl
      go_enter Try.func17, Try.ntmps17
      go_wp2_with (go_at_call 35; refine (K1.out _ h).mono ?_; rintro e w1 ⟨rfl, q1⟩)
      go_ret2
      exact ⟨by rw [HK.out, F.sn_no HK.out]; first | done | rfl, by first | exact q1 | exact Same.refl _⟩
    · have HK := Lib.hid (F.sok_yes (l := l) ⟨HV.out, by omega⟩)
      have h2' : decide ((n : Int) < 2) = false := decide_eq_false (by omega)
      have g0 := hvp.2 0 (by omega)
      have g1 := hvp.2 (n - 1) (by omega)
      have hn16 : n ≤ 16 := by omega
      have HL := Lib.hid (show F.sl l = (L.g l (n - 1) - L.g l 0) / ((n : Int) - 1) by unfold F.sl; rw [hl])
      obtain ⟨m, rfl⟩ : ∃ m, n = m + 1 := ⟨n - 1, by omega⟩
      have hm1 : 1 ≤ m := by omega
      clear hvp hl h2
      obtain ⟨b, off, rfl, hb, hcl⟩ := h.at_ 0 (by omega)
      have HC := Lib.hid hcl
      clear hcl
      have K2 := Lib.hid (fun w' => fdiv_impl (L.g l m - L.g l 0) (m : Int) (by omega) (by simp at g1; omega) w')
      go_enter Try.func17, Try.ntmps17
      go_wp2_with (go_at_call 35; refine (K1.out _ h).mono ?_; rintro e w1 ⟨rfl, q1⟩)
      have HQ := Lib.hid q1
      have x0 : w1.cell? ⟨b, off, none⟩ = some (.int .i64 (L.g l 0)) := by obtain ⟨p, rfl⟩ := q1; simpa using HC.out 0 (by omega)
      have xm : w1.cell? ⟨b, off + m, none⟩ = some (.int .i64 (L.g l m)) := by obtain ⟨p, rfl⟩ := q1; exact HC.out m (by omega)
      clear q1
      have e1 : IntKind.i64.wrap (L.g l m - L.g l 0) = L.g l m - L.g l 0 := IntWalk.i64_in _ (by simp at g1; omega)
      have e2 : IntKind.i64.wrap ((m : Int) + 1 - 1) = (m : Int) := by rw [show (m : Int) + 1 - 1 = m by omega]; exact IntWalk.i64_in _ (by omega)
      go_quiet ((go_at_call 36; exact qsL K2.out))
      clear e1 e2
      go_wp2
      go_ret2
      exact ⟨by rw [HK.out, F.sn_yes HK.out, HL.out]; first | done | (push_cast; rw [show (m : Int) + 1 - 1 = m by omega]; rfl), HQ.out.drewN _⟩
set_option maxHeartbeats 2000000 in
theorem SL_spec (B n c : Nat) (a : Option Addr) (l : List Int) (w : World) (h : Lst B w a n l) : Calls Try.prog 18 #[.slice a n c] w fun e w' => e = .returned (.tuple #[.int .i64 (F.sn l), .bool (F.sok l)]) ∧ Same w w' := by
  obtain ⟨hl, hn, _⟩ := id h
  rcases hv : F.vp l with _ | _
  · have hk : F.sok l = false := F.sok_no (fun q => by rw [hv] at q; cases q.1)
    have HK := Lib.hid hk
    have k1 := fun w' h => vp_spec B n c a l w' h
    simp only [hv] at k1
    have K1 := Lib.hid k1
    clear k1 hv hk hl
    by_cases h2 : n < 2
    · have h2' : (n : Int) < 2 := by omega
      go_enter Try.func18, Try.ntmps18
      go_wp2_with (go_at_call 37; refine (K1.out _ h).mono ?_; rintro e w1 ⟨rfl, q1⟩)
      go_ret2
      exact ⟨by rw [HK.out, F.sn_no HK.out]; first | done | rfl, by first | exact q1 | exact Same.refl _⟩
    · have h2' : decide ((n : Int) < 2) = false := decide_eq_false (by omega)
      go_enter Try.func18, Try.ntmps18
      go_wp2_with (go_at_call 37; refine (K1.out _ h).mono ?_; rintro e w1 ⟨rfl, q1⟩)
      go_ret2
      exact ⟨by rw [HK.out, F.sn_no HK.out]; first | done | rfl, by first | exact q1 | exact Same.refl _⟩
  · have hvp := F.vp_of hv
    have HV := Lib.hid hv
    have k1 := fun w' h => vp_spec B n c a l w' h
    simp only [hv] at k1
    have K1 := Lib.hid k1
    clear k1 hv
    by_cases h2 : n < 2
    · have HK := Lib.hid (F.sok_no (l := l) (fun q => by omega))
      have h2' : (n : Int) < 2 := by omega
      clear hl
      go_enter Try.func18, Try.ntmps18
      go_wp2_with (go_at_call 37; refine (K1.out _ h).mono ?_; rintro e w1 ⟨rfl, q1⟩)
      go_ret2
      exact ⟨by rw [HK.out, F.sn_no HK.out]; first | done | rfl, by first | exact q1 | exact Same.refl _⟩
    · have HK := Lib.hid (F.sok_yes (l := l) ⟨HV.out, by omega⟩)
      have h2' : decide ((n : Int) < 2) = false := decide_eq_false (by omega)
      have g0 := hvp.2 0 (by omega)
      have g1 := hvp.2 (n - 1) (by omega)
      have hn16 : n ≤ 16 := by omega
      have HL := Lib.hid (show F.sl l = (L.g l (n - 1) - L.g l 0) / ((n : Int) - 1) by unfold F.sl; rw [hl])
      obtain ⟨m, rfl⟩ : ∃ m, n = m + 1 := ⟨n - 1, by omega⟩
      have hm1 : 1 ≤ m := by omega
      clear hvp hl h2
      obtain ⟨b, off, rfl, hb, hcl⟩ := h.at_ 0 (by omega)
      have HC := Lib.hid hcl
      clear hcl
      have K2 := Lib.hid (fun w' => fdiv_spec (L.g l m - L.g l 0) (m : Int) (by omega) (by simp at g1; omega) w')
      go_enter Try.func18, Try.ntmps18
      go_wp2_with (go_at_call 37; refine (K1.out _ h).mono ?_; rintro e w1 ⟨rfl, q1⟩)
      have HQ := Lib.hid q1
      have x0 : w1.cell? ⟨b, off, none⟩ = some (.int .i64 (L.g l 0)) := by obtain ⟨p, rfl⟩ := q1; simpa using HC.out 0 (by omega)
      have xm : w1.cell? ⟨b, off + m, none⟩ = some (.int .i64 (L.g l m)) := by obtain ⟨p, rfl⟩ := q1; exact HC.out m (by omega)
      clear q1
      have e1 : IntKind.i64.wrap (L.g l m - L.g l 0) = L.g l m - L.g l 0 := IntWalk.i64_in _ (by simp at g1; omega)
      have e2 : IntKind.i64.wrap ((m : Int) + 1 - 1) = (m : Int) := by rw [show (m : Int) + 1 - 1 = m by omega]; exact IntWalk.i64_in _ (by omega)
      go_quiet ((go_at_call 38; exact qsL K2.out))
      clear e1 e2
      go_wp2
      go_ret2
      exact ⟨by rw [HK.out, F.sn_yes HK.out, HL.out]; first | done | (push_cast; rw [show (m : Int) + 1 - 1 = m by omega]; rfl), HQ.out.drewN _⟩
end Go.Proofs.Ytlkcbdcdldndcaa
