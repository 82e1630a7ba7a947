/-
  Labels (chapter 14): what is valid, whose times ascend, what a counter has gained; the program's and the model's functions.
-/
import Derived.Test.YtgbbbmljanlogaaOwnL
import Derived.Test.YtgbbbmljanlogaaGMath
import Derived.Test.YtgbbbmljanlogaaLst
import Derived.BigQuiet
import Derived.Deep.QuietTactic
import Derived.Deep.RegionHeld3
namespace Go.Proofs.Ytgbbbmljanlogaa
open Go.RowKit
set_option linter.unusedVariables false
set_option maxRecDepth 100000
theorem Sps.keepB {w w' : World} {a : Option Addr} {n : Nat} {l : List (Int × Int)} (h : Sps w.heap.size w a n l) (hb : Below w.heap.size w w') : Sps w'.heap.size w' a n l := (h.below hb).more hb.size
theorem vt_spec (x : Int) (w : World) : Calls Try.prog 45 #[.int .i64 x] w fun e w' => e = .returned (.bool (inR x 0 3786479999)) ∧ w = w' := by
  go_enter Try.func45, Try.ntmps45
  go_wp2_with (go_at_call 44; refine (inR_spec _ _ _ _).mono ?_; rintro e w' ⟨rfl, rfl⟩)
  go_ret
  exact ⟨rfl, rfl⟩
set_option maxHeartbeats 4000000 in
theorem vl_impl (n c : Nat) (a : Option Addr) (l : List (Int × Int)) (w : World) (h : Sps w.heap.size w a n l) : Calls Try.prog 35 #[.slice a n c] w fun e w' => e = .returned (.bool (G.vl l)) ∧ Below w.heap.size w w' := by
  obtain ⟨hl, hn, _⟩ := id h
  by_cases h8 : 16 < n
  · have h8' : (16 : Int) < (n : Int) := by omega
    have e : G.vl l = false := G.vl_long (by omega)
    rw [e]
    clear h hl e
    go_enter Try.func35, Try.ntmps35
    go_wp2
    go_ret
    exact ⟨rfl, Below.refl _ _⟩
  have h8' : ¬ (16 : Int) < (n : Int) := by omega
  have HL := Lib.hid hl
  clear hl
  go_enter Try.func35, Try.ntmps35
  go_wp2
  go_loopw [10] (fun i wr => ∃ k : Nat, k ≤ n ∧ G.okTo l k ∧ i = .int .i64 k ∧ Sps w.heap.size wr a n l ∧ Below w.heap.size w wr) (fun i _ => n - (intOf i).toNat)
  case atStart => exact ⟨0, Nat.zero_le _, fun i hi => absurd hi (by omega), rfl, h, Below.refl _ _⟩
  case round =>
    obtain ⟨k, hk, hok, rfl, hS, bl⟩ := hrel
    have HO := Lib.hid hok
    clear hok
    by_cases hlt : k < n
    · obtain ⟨b, off, rfl, hb, hc⟩ := hS.at_ k hlt
      have c0 := (hc k hlt).1
      have c1 := (hc k hlt).2
      have hs := bl.size
      have q1 := (Below.refl w.heap.size wr).alloc hs (.cells #[.int .i64 (V.lo l k), .int .i64 (V.hi l k)] 34)
      have HE := Lib.hid (fun q => And.intro (hS.below (below_drewN q1 q)) (bl.trans (below_drewN q1 q)))
      have HE0 := Lib.hid (And.intro (hS.below q1) (bl.trans q1))
      clear q1 bl hS
      rcases inR_cases (V.lo l k) 0 100000000 with ⟨r0, r1⟩ | ⟨r0, r1⟩
      · rcases inR_cases (V.hi l k) 0 3786479999 with ⟨t0, t1⟩ | ⟨t0, t1⟩
        · rcases Nat.eq_zero_or_pos k with hz | hz
          · subst hz
            have d0 : wr.cell? ⟨b, off, none⟩ = some (.int .i64 (V.lo l 0)) := by simpa using c0
            have d1 : wr.cell? ⟨b, off + 1, none⟩ = some (.int .i64 (V.hi l 0)) := by simpa using c1
            have HK := Lib.hid (G.okTo_succ HO.out ⟨⟨r1, t1⟩, fun h => by omega⟩)
            clear hc c0 c1 r1 t1
            go_wp2_with (go_at_call 43; refine (inR_impl _ _ _ _).mono ?_; rintro e w' ⟨rfl, rfl⟩)
            go_quiet (fail)
            go_wp2
            go_roundw
            case rel => exact ⟨1, by omega, HK.out, by go_num, HE.out _⟩
            case measure => simp [intOf]; omega
          · obtain ⟨m, rfl⟩ : ∃ m, k = m + 1 := ⟨k - 1, by omega⟩
            have cm := (hc m (by omega)).1
            have e1 : IntKind.i64.wrap (m : Int) = (m : Int) := IntWalk.i64_in _ (by omega)
            have p0 : (0 : Int) ≤ (m : Int) := by omega
            have p1 : (m : Int) < (n : Int) := by omega
            have cm' : (wr.alloc (.cells #[.int .i64 (V.lo l (m + 1)), .int .i64 (V.hi l (m + 1))] 34)).cell? ⟨b, off + m * 2, none⟩ = some (.int .i64 (V.lo l m)) := (((Below.refl wr.heap.size wr).alloc (Nat.le_refl _) _).cell (p := ⟨b, off + m * 2, none⟩) (show b < wr.heap.size by omega)).trans cm
            clear hc
            by_cases hd : V.lo l m < V.lo l (m + 1)
            · have hd' : decide (V.lo l (m + 1) ≤ V.lo l m) = false := by simp; omega
              have HK := Lib.hid (G.okTo_succ HO.out ⟨⟨r1, t1⟩, fun _ => hd⟩)
              clear r1 t1
              go_wp2_with (go_at_call 43; refine (inR_impl _ _ _ _).mono ?_; rintro e w' ⟨rfl, rfl⟩)
              go_quiet (fail)
              go_wp2
              go_roundw
              case rel => exact ⟨m + 1 + 1, by omega, HK.out, by go_num, HE.out _⟩
              case measure => simp [intOf]; omega
            · have hd' : decide (V.lo l (m + 1) ≤ V.lo l m) = true := by simp; omega
              have HK := Lib.hid (G.vl_bad (l := l) (m + 1) (by have := HL.out; omega) (fun h => by have := h.2 (by omega); simp only [Nat.add_sub_cancel] at this; omega))
              clear r1 t1
              go_wp2_with (go_at_call 43; refine (inR_impl _ _ _ _).mono ?_; rintro e w' ⟨rfl, rfl⟩)
              go_quiet (fail)
              go_wp2
              go_ret
              exact ⟨ret_bool HK.out.symm, (HE.out _).2⟩
        · have HK := Lib.hid (G.vl_bad (l := l) k (by have := HL.out; omega) (fun h => t1 h.1.2))
          clear hc r1 t1
          go_wp2_with (go_at_call 43; refine (inR_impl _ _ _ _).mono ?_; rintro e w' ⟨rfl, rfl⟩)
          go_ret
          exact ⟨ret_bool HK.out.symm, HE0.out.2⟩
      · have HK := Lib.hid (G.vl_bad (l := l) k (by have := HL.out; omega) (fun h => r1 h.1.1))
        clear hc r1
        go_wp2_with (go_at_call 43; refine (inR_impl _ _ _ _).mono ?_; rintro e w' ⟨rfl, rfl⟩)
        go_ret
        exact ⟨ret_bool HK.out.symm, HE0.out.2⟩
    · have HB := Lib.hid bl
      clear hS bl
      go_wp2
      go_ret
      exact ⟨ret_bool (G.vl_yes (by have := HL.out; omega) (fun i hi => HO.out i (by have := HL.out; omega))).symm, HB.out⟩
set_option maxHeartbeats 4000000 in
theorem vl_spec (B n c : Nat) (a : Option Addr) (l : List (Int × Int)) (w : World) (h : Sps B w a n l) : Calls Try.prog 36 #[.slice a n c] w fun e w' => e = .returned (.bool (G.vl l)) ∧ Same w w' := by
  obtain ⟨hl, hn, _⟩ := id h
  have HL := Lib.hid hl
  clear hl
  go_enter Try.func36, Try.ntmps36
  go_wp2
  go_loopw [3] (fun i wr => ∃ k : Nat, k ≤ n ∧ G.okTo l k ∧ i = .int .i64 k ∧ Same w wr) (fun i _ => n - (intOf i).toNat)
  case atStart => exact ⟨0, Nat.zero_le _, fun i hi => absurd hi (by omega), rfl, Same.refl _⟩
  case round =>
    obtain ⟨k, hk, hok, rfl, hs⟩ := hrel
    have HO := Lib.hid hok
    clear hok
    have h := h.same hs
    by_cases hlt : k < n
    · obtain ⟨b, off, rfl, hb, hc⟩ := h.at_ k hlt
      have c0 := (hc k hlt).1
      have c1 := (hc k hlt).2
      rcases inR_cases (V.lo l k) 0 100000000 with ⟨r0, r1⟩ | ⟨r0, r1⟩
      · rcases inR_cases (V.hi l k) 0 3786479999 with ⟨t0, t1⟩ | ⟨t0, t1⟩
        · rcases Nat.eq_zero_or_pos k with hz | hz
          · subst hz
            have d0 : wr.cell? ⟨b, off, none⟩ = some (.int .i64 (V.lo l 0)) := by simpa using c0
            have d1 : wr.cell? ⟨b, off + 1, none⟩ = some (.int .i64 (V.hi l 0)) := by simpa using c1
            have HK := Lib.hid (G.okTo_succ HO.out ⟨⟨r1, t1⟩, fun h => by omega⟩)
            clear hc c0 c1 r1 t1
            go_wp2
            go_quiet ((first | (go_at_call 44; exact qsL (inR_spec _ _ _)) | (go_at_call 45; exact qsL (vt_spec _))))
            go_wp2
            go_roundw
            case rel => exact ⟨1, by omega, HK.out, by go_num, hs.drewN _⟩
            case measure => simp [intOf]; omega
          · obtain ⟨m, rfl⟩ : ∃ m, k = m + 1 := ⟨k - 1, by omega⟩
            have cm := (hc m (by omega)).1
            clear hc
            by_cases hd : V.lo l m < V.lo l (m + 1)
            · have hd' : decide (V.lo l (m + 1) ≤ V.lo l m) = false := by simp; omega
              have HK := Lib.hid (G.okTo_succ HO.out ⟨⟨r1, t1⟩, fun _ => hd⟩)
              clear r1 t1
              go_wp2
              go_quiet ((first | (go_at_call 44; exact qsL (inR_spec _ _ _)) | (go_at_call 45; exact qsL (vt_spec _))))
              go_wp2
              go_roundw
              case rel => exact ⟨m + 1 + 1, by omega, HK.out, by go_num, hs.drewN _⟩
              case measure => simp [intOf]; omega
            · have hd' : decide (V.lo l (m + 1) ≤ V.lo l m) = true := by simp; omega
              have HK := Lib.hid (G.vl_bad (l := l) (m + 1) (by have := HL.out; omega) (fun h => by have := h.2 (by omega); simp only [Nat.add_sub_cancel] at this; omega))
              clear r1 t1
              go_wp2
              go_quiet ((first | (go_at_call 44; exact qsL (inR_spec _ _ _)) | (go_at_call 45; exact qsL (vt_spec _))))
              go_wp2
              go_ret
              exact ⟨ret_bool HK.out.symm, hs.drewN _⟩
        · have HK := Lib.hid (G.vl_bad (l := l) k (by have := HL.out; omega) (fun h => t1 h.1.2))
          clear hc r1 t1
          go_wp2
          go_quiet ((first | (go_at_call 44; exact qsL (inR_spec _ _ _)) | (go_at_call 45; exact qsL (vt_spec _))))
          go_wp2
          go_ret
          exact ⟨ret_bool HK.out.symm, hs.drewN _⟩
      · have HK := Lib.hid (G.vl_bad (l := l) k (by have := HL.out; omega) (fun h => r1 h.1.1))
        clear hc r1
        go_wp2
        go_quiet ((first | (go_at_call 44; exact qsL (inR_spec _ _ _)) | (go_at_call 45; exact qsL (vt_spec _))))
        go_wp2
        go_ret
        exact ⟨ret_bool HK.out.symm, hs.drewN _⟩
    · by_cases h8 : 16 < n
      · have h8' : decide ((n : Int) ≤ 16) = false := by simp; omega
        go_wp2
        go_ret
        exact ⟨ret_bool (G.vl_long (by have := HL.out; omega)).symm, hs⟩
      · have h8' : (n : Int) ≤ 16 := by omega
        go_wp2
        go_ret
        exact ⟨ret_bool (G.vl_yes (by have := HL.out; omega) (fun i hi => HO.out i (by have := HL.out; omega))).symm, hs⟩
set_option maxHeartbeats 2000000 in
theorem ta_impl (B n c : Nat) (a : Option Addr) (l : List (Int × Int)) (w : World) (h : Sps B w a n l) : Calls Try.prog 37 #[.slice a n c] w fun e w' => e = .returned (.bool (G.ta l)) ∧ Same w w' := by
  obtain ⟨hl, hn, _⟩ := id h
  have HL := Lib.hid hl
  clear hl
  go_enter Try.func37, Try.ntmps37
  go_wp2
  go_loopw [3] (fun i wr => ∃ k : Nat, k ≤ n + 1 ∧ 1 ≤ k ∧ G.taTo l k ∧ i = .int .i64 k ∧ Same w wr) (fun i _ => n + 1 - (intOf i).toNat)
  case atStart => exact ⟨1, by omega, by omega, fun i hi h0 => by omega, rfl, Same.refl _⟩
  case round =>
    obtain ⟨k, hk, hk1, hok, rfl, hs⟩ := hrel
    have HO := Lib.hid hok
    clear hok
    have h := h.same hs
    by_cases hlt : k < n
    · obtain ⟨b, off, rfl, hb, hc⟩ := h.at_ k hlt
      obtain ⟨m, rfl⟩ : ∃ m, k = m + 1 := ⟨k - 1, by omega⟩
      have c1 := (hc (m + 1) hlt).2
      have cm := (hc m (by omega)).2
      clear hc
      by_cases hd : V.hi l m < V.hi l (m + 1)
      · have hd' : decide (V.hi l (m + 1) ≤ V.hi l m) = false := by simp; omega
        have HK := Lib.hid (G.taTo_succ HO.out (fun _ => hd))
        go_wp2
        go_quiet (fail)
        go_wp2
        go_roundw
        case rel => exact ⟨m + 1 + 1, by omega, by omega, HK.out, by go_num, hs.drewN _⟩
        case measure => simp [intOf]; omega
      · have hd' : decide (V.hi l (m + 1) ≤ V.hi l m) = true := by simp; omega
        have HK := Lib.hid (G.ta_no (l := l) (m + 1) (by have := HL.out; omega) (by omega) (fun h => by simp only [Nat.add_sub_cancel] at h; omega))
        go_wp2
        go_quiet (fail)
        go_wp2
        go_ret
        exact ⟨ret_bool HK.out.symm, hs.drewN _⟩
    · have hlt' : decide ((k : Int) < (n : Int)) = false := decide_eq_false (by omega)
      go_wp2
      go_ret
      exact ⟨ret_bool (G.ta_yes (fun i hi h0 => HO.out i (by have := HL.out; omega) h0)).symm, hs⟩
end Go.Proofs.Ytgbbbmljanlogaa
