/-
  Buckets (chapter 15): what is valid, how many tokens; the program's and the model's functions.
-/
import Derived.Test.YtpfdjmffgbbmdaaGreatDoorOwnBk
import Derived.Test.YtpfdjmffgbbmdaaGreatDoorP1
import Derived.BigQuiet
import Derived.Deep.QuietTactic
namespace Go.Proofs.YtpfdjmffgbbmdaaGreatDoor
open Go.RowKit
set_option linter.unusedVariables false
set_option maxRecDepth 100000
theorem Sms.keepB {w w' : World} {a : Option Addr} {n : Nat} {l : List Q.Sm} (h : Sms w.heap.size w a n l) (hb : Below w.heap.size w w') : Sms w'.heap.size w' a n l := (h.below hb).more hb.size
theorem vt_spec (x : Int) (w : World) : Calls Tryz.prog 38 #[.int .i64 x] w fun e w' => e = .returned (.bool (inR x 0 3786479999)) ∧ w = w' := by
  go_enter Tryz.func38, Tryz.ntmps38
  go_wp2_with (go_at_call 39; refine (inR_spec _ _ _ _).mono ?_; rintro e w' ⟨rfl, rfl⟩)
  go_ret
  exact ⟨rfl, rfl⟩
set_option maxHeartbeats 4000000 in
theorem vb_impl (n c : Nat) (a : Option Addr) (l : List Q.Sm) (w : World) (h : Sms w.heap.size w a n l) : Calls Tryz.prog 122 #[.slice a n c] w fun e w' => e = .returned (.bool (B.bv l)) ∧ Below w.heap.size w w' := by
  obtain ⟨hl, hn, _⟩ := id h
  by_cases h8 : 8 < n
  · have h8' : (8 : Int) < (n : Int) := by omega
    have e : B.bv l = false := B.bv_long (by omega)
    rw [e]
    clear h hl e
    go_enter Tryz.func122, Tryz.ntmps122
    go_wp2
    go_ret
    exact ⟨rfl, Below.refl _ _⟩
  have h8' : ¬ (8 : Int) < (n : Int) := by omega
  have HL := Lib.hid hl
  clear hl
  go_enter Tryz.func122, Tryz.ntmps122
  go_wp2
  go_loopw [10] (fun i wr => ∃ k : Nat, k ≤ n ∧ B.okTo l k ∧ i = .int .i64 k ∧ Sms w.heap.size wr a n l ∧ Below w.heap.size w wr) (fun i _ => n - (intOf i).toNat)
  case atStart => exact ⟨0, Nat.zero_le _, fun i hi => absurd hi (by omega), rfl, h, Below.refl _ _⟩
  case round =>
    obtain ⟨k, hk, hok, rfl, hS, bl⟩ := hrel
    have HO := Lib.hid hok
    clear hok
    by_cases hlt : k < n
    · obtain ⟨b, off, rfl, hb, hc⟩ := hS.at_ k hlt
      obtain ⟨c0, c1, c2⟩ := hc k hlt
      have hs := bl.size
      have q1 := (Below.refl w.heap.size wr).alloc hs (.cells #[.int .i64 (Q.of l k), .int .i64 (Q.de l k), .int .i64 (Q.tm l k)] 116)
      have HE := Lib.hid (fun q => And.intro (hS.below (below_drewN q1 q)) (bl.trans (below_drewN q1 q)))
      have HE0 := Lib.hid (And.intro (hS.below q1) (bl.trans q1))
      clear q1 bl hS
      rcases inR_cases (Q.of l k) 0 99 with ⟨r0, r1⟩ | ⟨r0, r1⟩
      · rcases inR_cases (Q.de l k) 0 5 with ⟨s0, s1⟩ | ⟨s0, s1⟩
        · rcases inR_cases (Q.tm l k) 0 3786479999 with ⟨t0, t1⟩ | ⟨t0, t1⟩
          · rcases Nat.eq_zero_or_pos k with hz | hz
            · subst hz
              have d0 : wr.cell? ⟨b, off, none⟩ = some (.int .i64 (Q.of l 0)) := by simpa using c0
              have d1 : wr.cell? ⟨b, off + 1, none⟩ = some (.int .i64 (Q.de l 0)) := by simpa using c1
              have d2 : wr.cell? ⟨b, off + 2, none⟩ = some (.int .i64 (Q.tm l 0)) := by simpa using c2
              have HK := Lib.hid (B.okTo_succ HO.out ⟨⟨r1, s1, t1⟩, fun h => by omega⟩)
              clear hc c0 c1 c2 r1 s1 t1
              go_wp2_with (go_at_call 33; refine (inR_impl _ _ _ _).mono ?_; rintro e w' ⟨rfl, rfl⟩)
              go_quiet (fail)
              go_wp2
              go_roundw
              case rel => exact ⟨1, by omega, HK.out, by go_num, HE.out _⟩
              case measure => simp [intOf]; omega
            · obtain ⟨m, rfl⟩ : ∃ m, k = m + 1 := ⟨k - 1, by omega⟩
              have cm := (hc m (by omega)).1
              have e1 : IntKind.i64.wrap (m : Int) = (m : Int) := IntWalk.i64_in _ (by omega)
              have p0 : (0 : Int) ≤ (m : Int) := by omega
              have p1 : (m : Int) < (n : Int) := by omega
              have cm' : (wr.alloc (.cells #[.int .i64 (Q.of l (m + 1)), .int .i64 (Q.de l (m + 1)), .int .i64 (Q.tm l (m + 1))] 116)).cell? ⟨b, off + m * 3, none⟩ = some (.int .i64 (Q.of l m)) := (((Below.refl wr.heap.size wr).alloc (Nat.le_refl _) _).cell (p := ⟨b, off + m * 3, none⟩) (show b < wr.heap.size by omega)).trans cm
              clear hc
              by_cases hd : Q.of l m < Q.of l (m + 1)
              · have hd' : decide (Q.of l (m + 1) ≤ Q.of l m) = false := by simp; omega
                have HK := Lib.hid (B.okTo_succ HO.out ⟨⟨r1, s1, t1⟩, fun _ => hd⟩)
                clear r1 s1 t1
                go_wp2_with (go_at_call 33; refine (inR_impl _ _ _ _).mono ?_; rintro e w' ⟨rfl, rfl⟩)
                go_quiet (fail)
                go_wp2
                go_roundw
                case rel => exact ⟨m + 1 + 1, by omega, HK.out, by go_num, HE.out _⟩
                case measure => simp [intOf]; omega
              · have hd' : decide (Q.of l (m + 1) ≤ Q.of l m) = true := by simp; omega
                have HK := Lib.hid (B.bv_bad (l := l) (m + 1) (by have := HL.out; omega) (fun h => by have := h.2 (by omega); simp only [Nat.add_sub_cancel] at this; omega))
                clear r1 s1 t1
                go_wp2_with (go_at_call 33; refine (inR_impl _ _ _ _).mono ?_; rintro e w' ⟨rfl, rfl⟩)
                go_quiet (fail)
                go_wp2
                go_ret
                exact ⟨ret_bool HK.out.symm, (HE.out _).2⟩
          · have HK := Lib.hid (B.bv_bad (l := l) k (by have := HL.out; omega) (fun h => t1 h.1.2.2))
            clear hc r1 s1 t1
            go_wp2_with (go_at_call 33; refine (inR_impl _ _ _ _).mono ?_; rintro e w' ⟨rfl, rfl⟩)
            go_ret
            exact ⟨ret_bool HK.out.symm, HE0.out.2⟩
        · have HK := Lib.hid (B.bv_bad (l := l) k (by have := HL.out; omega) (fun h => s1 h.1.2.1))
          clear hc r1 s1
          go_wp2_with (go_at_call 33; refine (inR_impl _ _ _ _).mono ?_; rintro e w' ⟨rfl, rfl⟩)
          go_ret
          exact ⟨ret_bool HK.out.symm, HE0.out.2⟩
      · have HK := Lib.hid (B.bv_bad (l := l) k (by have := HL.out; omega) (fun h => r1 h.1.1))
        clear hc r1
        go_wp2_with (go_at_call 33; refine (inR_impl _ _ _ _).mono ?_; rintro e w' ⟨rfl, rfl⟩)
        go_ret
        exact ⟨ret_bool HK.out.symm, HE0.out.2⟩
    · have HB := Lib.hid bl
      clear hS bl
      go_wp2
      go_ret
      exact ⟨ret_bool (B.bv_yes (by have := HL.out; omega) (fun i hi => HO.out i (by have := HL.out; omega))).symm, HB.out⟩
set_option maxHeartbeats 4000000 in
theorem vb_spec (B0 n c : Nat) (a : Option Addr) (l : List Q.Sm) (w : World) (h : Sms B0 w a n l) : Calls Tryz.prog 106 #[.slice a n c] w fun e w' => e = .returned (.bool (B.bv l)) ∧ Same w w' := by
  obtain ⟨hl, hn, _⟩ := id h
  have HL := Lib.hid hl
  clear hl
  go_enter Tryz.func106, Tryz.ntmps106
  go_wp2
  go_loopw [3] (fun i wr => ∃ k : Nat, k ≤ n ∧ B.okTo l k ∧ i = .int .i64 k ∧ Same w wr) (fun i _ => n - (intOf i).toNat)
  case atStart => exact ⟨0, Nat.zero_le _, fun i hi => absurd hi (by omega), rfl, Same.refl _⟩
  case round =>
    obtain ⟨k, hk, hok, rfl, hs⟩ := hrel
    have HO := Lib.hid hok
    clear hok
    have h := h.same hs
    by_cases hlt : k < n
    · obtain ⟨b, off, rfl, hb, hc⟩ := h.at_ k hlt
      obtain ⟨c0, c1, c2⟩ := hc k hlt
      rcases inR_cases (Q.of l k) 0 99 with ⟨r0, r1⟩ | ⟨r0, r1⟩
      · rcases inR_cases (Q.de l k) 0 5 with ⟨s0, s1⟩ | ⟨s0, s1⟩
        · rcases inR_cases (Q.tm l k) 0 3786479999 with ⟨t0, t1⟩ | ⟨t0, t1⟩
          · rcases Nat.eq_zero_or_pos k with hz | hz
            · subst hz
              have d0 : wr.cell? ⟨b, off, none⟩ = some (.int .i64 (Q.of l 0)) := by simpa using c0
              have d1 : wr.cell? ⟨b, off + 1, none⟩ = some (.int .i64 (Q.de l 0)) := by simpa using c1
              have d2 : wr.cell? ⟨b, off + 2, none⟩ = some (.int .i64 (Q.tm l 0)) := by simpa using c2
              have HK := Lib.hid (B.okTo_succ HO.out ⟨⟨r1, s1, t1⟩, fun h => by omega⟩)
              clear hc c0 c1 c2 r1 s1 t1
              go_wp2
              go_quiet ((first | (go_at_call 39; exact qsL (inR_spec _ _ _)) | (go_at_call 38; exact qsL (vt_spec _))))
              go_wp2
              go_roundw
              case rel => exact ⟨1, by omega, HK.out, by go_num, hs.drewN _⟩
              case measure => simp [intOf]; omega
            · obtain ⟨m, rfl⟩ : ∃ m, k = m + 1 := ⟨k - 1, by omega⟩
              have cm := (hc m (by omega)).1
              clear hc
              by_cases hd : Q.of l m < Q.of l (m + 1)
              · have hd' : decide (Q.of l (m + 1) ≤ Q.of l m) = false := by simp; omega
                have HK := Lib.hid (B.okTo_succ HO.out ⟨⟨r1, s1, t1⟩, fun _ => hd⟩)
                clear r1 s1 t1
                go_wp2
                go_quiet ((first | (go_at_call 39; exact qsL (inR_spec _ _ _)) | (go_at_call 38; exact qsL (vt_spec _))))
                go_wp2
                go_roundw
                case rel => exact ⟨m + 1 + 1, by omega, HK.out, by go_num, hs.drewN _⟩
                case measure => simp [intOf]; omega
              · have hd' : decide (Q.of l (m + 1) ≤ Q.of l m) = true := by simp; omega
                have HK := Lib.hid (B.bv_bad (l := l) (m + 1) (by have := HL.out; omega) (fun h => by have := h.2 (by omega); simp only [Nat.add_sub_cancel] at this; omega))
                clear r1 s1 t1
                go_wp2
                go_quiet ((first | (go_at_call 39; exact qsL (inR_spec _ _ _)) | (go_at_call 38; exact qsL (vt_spec _))))
                go_wp2
                go_ret
                exact ⟨ret_bool HK.out.symm, hs.drewN _⟩
          · have HK := Lib.hid (B.bv_bad (l := l) k (by have := HL.out; omega) (fun h => t1 h.1.2.2))
            clear hc r1 s1 t1
            go_wp2
            go_quiet ((first | (go_at_call 39; exact qsL (inR_spec _ _ _)) | (go_at_call 38; exact qsL (vt_spec _))))
            go_wp2
            go_ret
            exact ⟨ret_bool HK.out.symm, hs.drewN _⟩
        · have HK := Lib.hid (B.bv_bad (l := l) k (by have := HL.out; omega) (fun h => s1 h.1.2.1))
          clear hc r1 s1
          go_wp2
          go_quiet ((first | (go_at_call 39; exact qsL (inR_spec _ _ _)) | (go_at_call 38; exact qsL (vt_spec _))))
          go_wp2
          go_ret
          exact ⟨ret_bool HK.out.symm, hs.drewN _⟩
      · have HK := Lib.hid (B.bv_bad (l := l) k (by have := HL.out; omega) (fun h => r1 h.1.1))
        clear hc r1
        go_wp2
        go_quiet ((first | (go_at_call 39; exact qsL (inR_spec _ _ _)) | (go_at_call 38; exact qsL (vt_spec _))))
        go_wp2
        go_ret
        exact ⟨ret_bool HK.out.symm, hs.drewN _⟩
    · by_cases h8 : 8 < n
      · have h8' : decide ((n : Int) ≤ 8) = false := by simp; omega
        go_wp2
        go_ret
        exact ⟨ret_bool (B.bv_long (by have := HL.out; omega)).symm, hs⟩
      · have h8' : (n : Int) ≤ 8 := by omega
        go_wp2
        go_ret
        exact ⟨ret_bool (B.bv_yes (by have := HL.out; omega) (fun i hi => HO.out i (by have := HL.out; omega))).symm, hs⟩
set_option maxHeartbeats 1000000 in
theorem tk_impl (c x y t : Int) (hx : 0 ≤ x ∧ x ≤ 5) (hy : 0 ≤ y ∧ y ≤ 3786479999) (ht : -3000000000 ≤ t ∧ t ≤ 5000000000) (w : World) : Calls Tryz.prog 125 #[.agg #[.int .i64 c, .int .i64 x, .int .i64 y], .int .i64 t] w fun e w' => e = .returned (.int .i64 (B.tk (c, x, y) t)) ∧ Below w.heap.size w w' := by
  have hb := Lib.hid ((Below.refl w.heap.size w).alloc (Nat.le_refl _) (Obj.cells #[.int .i64 c, .int .i64 x, .int .i64 y] 116))
  by_cases h0 : 0 < t - y
  · have hd : (t - y).tdiv 8 = (t - y) / 8 := Int.tdiv_eq_ediv_of_nonneg (by omega)
    by_cases h1 : x + (t - y) / 8 < 5
    · have HR := Lib.hid (show B.tk (c, x, y) t = x + (t - y) / 8 by unfold B.tk; simp only; omega)
      have m1 : max 0 (t - y) = t - y := by omega
      have m2 : min (x + (t - y) / 8) 5 = x + (t - y) / 8 := by omega
      have m3 : min 5 (x + (t - y) / 8) = x + (t - y) / 8 := by omega
      have n1 : ¬ t - y < 0 := by omega
      have n2 : ¬ 5 < x + (t - y) / 8 := by omega
      have n3 : ¬ 5 ≤ x + (t - y) / 8 := by omega
      have n4 : ¬ t - y ≤ 0 := by omega
      have b1 : -9223372036854775808 ≤ t - y ∧ t - y ≤ 9223372036854775807 := by omega
      have b2 : -9223372036854775808 ≤ x + (t - y) / 8 ∧ x + (t - y) / 8 ≤ 9223372036854775807 := by omega
      have b3 : -9223372036854775808 ≤ (t - y) / 8 ∧ (t - y) / 8 ≤ 9223372036854775807 := by omega
      have u1 := IntWalk.wrap64_in _ b1
      have u2 := IntWalk.wrap64_in _ b2
      have u3 := IntWalk.wrap64_in _ b3
      clear b1 b2 b3 hx hy ht
      go_enter Tryz.func125, Tryz.ntmps125
      go_wp2
      all_goals clear u1 u2 u3
      all_goals (go_ret; exact ⟨by rw [HR.out]; first | done | rfl | (simp; omega), hb.out⟩)
    · have HR := Lib.hid (show B.tk (c, x, y) t = 5 by unfold B.tk; simp only; omega)
      have m1 : max 0 (t - y) = t - y := by omega
      have n1 : ¬ t - y < 0 := by omega
      have n2 : 5 ≤ x + (t - y) / 8 := by omega
      have m2 : min (x + (t - y) / 8) 5 = 5 := by omega
      have m3 : min 5 (x + (t - y) / 8) = 5 := by omega
      have n4 : ¬ t - y ≤ 0 := by omega
      have b1 : -9223372036854775808 ≤ t - y ∧ t - y ≤ 9223372036854775807 := by omega
      have b2 : -9223372036854775808 ≤ x + (t - y) / 8 ∧ x + (t - y) / 8 ≤ 9223372036854775807 := by omega
      have b3 : -9223372036854775808 ≤ (t - y) / 8 ∧ (t - y) / 8 ≤ 9223372036854775807 := by omega
      have u1 := IntWalk.wrap64_in _ b1
      have u2 := IntWalk.wrap64_in _ b2
      have u3 := IntWalk.wrap64_in _ b3
      clear b1 b2 b3 hx hy ht
      go_enter Tryz.func125, Tryz.ntmps125
      go_wp2
      all_goals clear u1 u2 u3
      all_goals (go_ret; exact ⟨by rw [HR.out]; first | done | rfl | (simp; omega), hb.out⟩)
  · have HR := Lib.hid (show B.tk (c, x, y) t = x by unfold B.tk; simp only; omega)
    have m1 : max 0 (t - y) = 0 := by omega
    have n1 : t - y ≤ 0 := by omega
    have m2 : min x 5 = x := by omega
    have m3 : min 5 x = x := by omega
    have n2 : ¬ 5 < x := by omega
    have n3 : x ≤ 5 := by omega
    have b1 : -9223372036854775808 ≤ t - y ∧ t - y ≤ 9223372036854775807 := by omega
    have b2 : -9223372036854775808 ≤ x ∧ x ≤ 9223372036854775807 := by omega
    have u1 := IntWalk.wrap64_in _ b1
    have u2 := IntWalk.wrap64_in _ b2
    clear b1 b2 hx hy ht
    go_enter Tryz.func125, Tryz.ntmps125
    go_wp2
    all_goals clear u1 u2
    all_goals (go_ret; exact ⟨by rw [HR.out]; first | done | rfl | (simp; omega), hb.out⟩)
set_option maxHeartbeats 1000000 in
theorem tk_spec (c x y t : Int) (hx : 0 ≤ x ∧ x ≤ 5) (hy : 0 ≤ y ∧ y ≤ 3786479999) (ht : -3000000000 ≤ t ∧ t ≤ 5000000000) (w : World) : Calls Tryz.prog 127 #[.agg #[.int .i64 c, .int .i64 x, .int .i64 y], .int .i64 t] w fun e w' => e = .returned (.int .i64 (B.tk (c, x, y) t)) ∧ Below w.heap.size w w' := by
  have hb := Lib.hid ((Below.refl w.heap.size w).alloc (Nat.le_refl _) (Obj.cells #[.int .i64 c, .int .i64 x, .int .i64 y] 116))
  by_cases h0 : 0 < t - y
  · have hd : (t - y).tdiv 8 = (t - y) / 8 := Int.tdiv_eq_ediv_of_nonneg (by omega)
    by_cases h1 : x + (t - y) / 8 < 5
    · have HR := Lib.hid (show B.tk (c, x, y) t = x + (t - y) / 8 by unfold B.tk; simp only; omega)
      have m1 : max 0 (t - y) = t - y := by omega
      have m2 : min (x + (t - y) / 8) 5 = x + (t - y) / 8 := by omega
      have m3 : min 5 (x + (t - y) / 8) = x + (t - y) / 8 := by omega
      have n1 : ¬ t - y < 0 := by omega
      have n2 : ¬ 5 < x + (t - y) / 8 := by omega
      have n3 : ¬ 5 ≤ x + (t - y) / 8 := by omega
      have n4 : ¬ t - y ≤ 0 := by omega
      have b1 : -9223372036854775808 ≤ t - y ∧ t - y ≤ 9223372036854775807 := by omega
      have b2 : -9223372036854775808 ≤ x + (t - y) / 8 ∧ x + (t - y) / 8 ≤ 9223372036854775807 := by omega
      have b3 : -9223372036854775808 ≤ (t - y) / 8 ∧ (t - y) / 8 ≤ 9223372036854775807 := by omega
      have u1 := IntWalk.wrap64_in _ b1
      have u2 := IntWalk.wrap64_in _ b2
      have u3 := IntWalk.wrap64_in _ b3
      clear b1 b2 b3 hx hy ht
      go_enter Tryz.func127, Tryz.ntmps127
      go_wp2
      all_goals clear u1 u2 u3
      all_goals (go_ret; exact ⟨by rw [HR.out]; first | done | rfl | (simp; omega), hb.out⟩)
    · have HR := Lib.hid (show B.tk (c, x, y) t = 5 by unfold B.tk; simp only; omega)
      have m1 : max 0 (t - y) = t - y := by omega
      have n1 : ¬ t - y < 0 := by omega
      have n2 : 5 ≤ x + (t - y) / 8 := by omega
      have m2 : min (x + (t - y) / 8) 5 = 5 := by omega
      have m3 : min 5 (x + (t - y) / 8) = 5 := by omega
      have n4 : ¬ t - y ≤ 0 := by omega
      have b1 : -9223372036854775808 ≤ t - y ∧ t - y ≤ 9223372036854775807 := by omega
      have b2 : -9223372036854775808 ≤ x + (t - y) / 8 ∧ x + (t - y) / 8 ≤ 9223372036854775807 := by omega
      have b3 : -9223372036854775808 ≤ (t - y) / 8 ∧ (t - y) / 8 ≤ 9223372036854775807 := by omega
      have u1 := IntWalk.wrap64_in _ b1
      have u2 := IntWalk.wrap64_in _ b2
      have u3 := IntWalk.wrap64_in _ b3
      clear b1 b2 b3 hx hy ht
      go_enter Tryz.func127, Tryz.ntmps127
      go_wp2
      all_goals clear u1 u2 u3
      all_goals (go_ret; exact ⟨by rw [HR.out]; first | done | rfl | (simp; omega), hb.out⟩)
  · have HR := Lib.hid (show B.tk (c, x, y) t = x by unfold B.tk; simp only; omega)
    have m1 : max 0 (t - y) = 0 := by omega
    have n1 : t - y ≤ 0 := by omega
    have m2 : min x 5 = x := by omega
    have m3 : min 5 x = x := by omega
    have n2 : ¬ 5 < x := by omega
    have n3 : x ≤ 5 := by omega
    have b1 : -9223372036854775808 ≤ t - y ∧ t - y ≤ 9223372036854775807 := by omega
    have b2 : -9223372036854775808 ≤ x ∧ x ≤ 9223372036854775807 := by omega
    have u1 := IntWalk.wrap64_in _ b1
    have u2 := IntWalk.wrap64_in _ b2
    clear b1 b2 hx hy ht
    go_enter Tryz.func127, Tryz.ntmps127
    go_wp2
    all_goals clear u1 u2
    all_goals (go_ret; exact ⟨by rw [HR.out]; first | done | rfl | (simp; omega), hb.out⟩)
end Go.Proofs.YtpfdjmffgbbmdaaGreatDoor
