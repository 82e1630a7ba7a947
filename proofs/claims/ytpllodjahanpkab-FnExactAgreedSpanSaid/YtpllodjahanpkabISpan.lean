/-
  What chapter 5 says of spans in memory: the program's functions that only look at them.
-/
import Derived.Test.YtpllodjahanpkabSpan
namespace Go.Proofs.Ytpllodjahanpkab
open Go.RowKit
set_option linter.unusedVariables false
set_option maxHeartbeats 1000000 in
theorem vs_impl (B n c : Nat) (a : Option Addr) (l : List (Int × Int)) (w : World) (h : Sps B w a n l) (hB : B ≤ w.heap.size) : Calls Try.prog 25 #[.slice a n c] w fun e w' => e = .returned (.bool (V.vs l)) ∧ Below w.heap.size w w' := by
  obtain ⟨hl, hn, _⟩ := id h
  have HL := Lib.hid hl
  clear hl
  go_enter Try.func25, Try.ntmps25
  rcases inR_cases (n : Int) 1 7 with ⟨s0, s1⟩ | ⟨s0, s1⟩
  · go_wp2_with (go_at_call 48; refine (inR_impl _ _ _ _).mono ?_; rintro e w' ⟨rfl, rfl⟩)
    go_loopw [11] (fun i wr => ∃ k : Nat, k ≤ n ∧ V.okTo l k ∧ i = .int .i64 k ∧ Below w.heap.size w wr) (fun i _ => n - (intOf i).toNat)
    case atStart => exact ⟨0, Nat.zero_le _, fun i hi => absurd hi (by omega), rfl, Below.refl _ _⟩
    case round =>
      obtain ⟨k, hk, hok, rfl, hs⟩ := hrel
      have HO := Lib.hid hok
      clear hok
      have h := (h.more hB).below hs
      have hsz := hs.size
      by_cases hlt : k < n
      · obtain ⟨b, off, rfl, hb, hc⟩ := h.at_ k hlt
        have c0 := (hc k hlt).1
        have c1 := (hc k hlt).2
        have hb2 := hs.alloc hsz (Obj.cells #[.int .i64 (V.lo l k), .int .i64 (V.hi l k)] 27)
        clear hc
        rcases inR_cases (V.lo l k) (-1000000) 1000000 with ⟨r0, r1⟩ | ⟨r0, r1⟩
        · rcases inR_cases (V.hi l k) (V.lo l k) 1000000 with ⟨t0, t1⟩ | ⟨t0, t1⟩
          · have HK := Lib.hid (V.okTo_succ HO.out ⟨r1, t1⟩)
            clear r1 t1
            go_wp2_with (go_at_call 48; refine (inR_impl _ _ _ _).mono ?_; rintro e w' ⟨rfl, rfl⟩)
            go_roundw
            case rel => exact ⟨k + 1, by omega, HK.out, by go_num, hb2⟩
            case measure => simp [intOf]; omega
          · have HK := Lib.hid (V.vs_bad k (by have := HL.out; omega) (fun h => t1 h.2))
            clear r1 t1
            go_wp2_with (go_at_call 48; refine (inR_impl _ _ _ _).mono ?_; rintro e w' ⟨rfl, rfl⟩)
            go_ret
            exact ⟨ret_bool HK.out.symm, hb2⟩
        · have HK := Lib.hid (V.vs_bad k (by have := HL.out; omega) (fun h => r1 h.1))
          clear r1
          go_wp2_with (go_at_call 48; refine (inR_impl _ _ _ _).mono ?_; rintro e w' ⟨rfl, rfl⟩)
          go_ret
          exact ⟨ret_bool HK.out.symm, hb2⟩
      · obtain rfl : k = n := by omega
        go_wp2
        go_ret
        exact ⟨ret_bool (V.vs_yes (by have := HL.out; omega) (by have := HL.out; omega) (by rw [HL.out]; exact HO.out)).symm, hs⟩
  · go_wp2_with (go_at_call 48; refine (inR_impl _ _ _ _).mono ?_; rintro e w' ⟨rfl, rfl⟩)
    go_ret
    exact ⟨ret_bool (V.vs_long (by have := HL.out; omega)).symm, Below.refl _ _⟩
theorem has_impl (x y t : Int) (w : World) : Calls Try.prog 50 #[.agg #[.int .i64 x, .int .i64 y], .int .i64 t] w fun e w' => e = .returned (.bool (inR t x y)) ∧ Below w.heap.size w w' := by
  have hb := Lib.hid ((Below.refl w.heap.size w).alloc (Nat.le_refl _) (Obj.cells #[.int .i64 x, .int .i64 y] 27))
  go_enter Try.func50, Try.ntmps50
  go_wp2_with (go_at_call 48; refine (inR_impl _ _ _ _).mono ?_; rintro e w' ⟨rfl, rfl⟩)
  go_ret
  exact ⟨rfl, hb.out⟩
theorem vtn_in {l : List (Int × Int)} {t : Int} {k : Nat} (h : V.lo l k ≤ t ∧ t ≤ V.hi l k) : V.votesTo l t (k + 1) = V.votesTo l t k + 1 := by
  show V.votesTo l t k + (if V.has l t k then 1 else 0) = _
  rw [if_pos (show V.has l t k from h)]
theorem vtn_out {l : List (Int × Int)} {t : Int} {k : Nat} (h : ¬ (V.lo l k ≤ t ∧ t ≤ V.hi l k)) : V.votesTo l t (k + 1) = V.votesTo l t k := by
  show V.votesTo l t k + (if V.has l t k then 1 else 0) = _
  rw [if_neg (show ¬ V.has l t k from h)]; rfl
set_option maxHeartbeats 1000000 in
theorem VF_impl (B n c : Nat) (a : Option Addr) (l : List (Int × Int)) (t : Int) (w : World) (h : Sps B w a n l) (hB : B ≤ w.heap.size) : Calls Try.prog 28 #[.slice a n c, .int .i64 t] w fun e w' => e = .returned (.int .i64 (V.vf l t)) ∧ Below w.heap.size w w' := by
  obtain ⟨hl, hn, _⟩ := id h
  have HL := Lib.hid hl
  clear hl
  go_enter Try.func28, Try.ntmps28
  cases hv : V.vs l
  · go_wp2_with (go_at_call 25; refine (vs_impl _ _ _ _ l _ h hB).mono ?_; rw [hv]; rintro e w1 ⟨rfl, b1⟩)
    go_ret
    exact ⟨ret_int (V.vf_no hv).symm, b1⟩
  · go_wp2_with (go_at_call 25; refine (vs_impl _ _ _ _ l _ h hB).mono ?_; rw [hv]; rintro e w1 ⟨rfl, b1⟩)
    have hs1 := b1.size
    have HS1 := Lib.hid ((h.more hB).below b1)
    clear h
    go_loopw [5, 13] (fun x i wr => ∃ k : Nat, k ≤ n ∧ i = .int .i64 k ∧ x = .int .i64 (V.votesTo l t k) ∧ Sps w.heap.size wr a n l ∧ Below w.heap.size w wr) (fun _ i _ => n - (intOf i).toNat)
    case atStart => exact ⟨0, Nat.zero_le _, rfl, rfl, HS1.out, b1⟩
    case round =>
      obtain ⟨k, hk, rfl, rfl, h, hs⟩ := hrel
      have hsz := hs.size
      clear hs1
      by_cases hlt : k < n
      · obtain ⟨b, off, rfl, hb, hc⟩ := h.at_ k hlt
        have c0 := (hc k hlt).1
        have c1 := (hc k hlt).2
        have hle := V.votesTo_le l t k
        have q2 := (Below.refl w.heap.size wr).alloc hsz (Obj.cells #[.int .i64 (V.lo l k), .int .i64 (V.hi l k)] 27)
        have HQ := Lib.hid (And.intro q2 (And.intro h hs))
        clear hc q2 h hs b1
        rcases inR_cases t (V.lo l k) (V.hi l k) with ⟨r0, r1⟩ | ⟨r0, r1⟩
        · have HE := Lib.hid (vtn_in r1)
          clear r1
          go_wp2_with (go_at_call 50; refine (has_impl _ _ _ _).mono ?_; rintro e w' ⟨rfl, b2⟩)
          go_roundw
          case rel =>
            have q3 := HQ.out.1.trans (b2.mono (by simp; omega))
            exact ⟨k + 1, by omega, by go_num, by rw [HE.out]; go_num, HQ.out.2.1.below q3, HQ.out.2.2.trans q3⟩
          case measure => simp [intOf]; omega
        · have HE := Lib.hid (vtn_out r1)
          clear r1
          go_wp2_with (go_at_call 50; refine (has_impl _ _ _ _).mono ?_; rintro e w' ⟨rfl, b2⟩)
          go_roundw
          case rel =>
            have q3 := HQ.out.1.trans (b2.mono (by simp; omega))
            exact ⟨k + 1, by omega, by go_num, by rw [HE.out], HQ.out.2.1.below q3, HQ.out.2.2.trans q3⟩
          case measure => simp [intOf]; omega
      · obtain rfl : k = n := by omega
        go_wp2
        go_ret
        exact ⟨ret_int (by rw [V.vf_yes hv]; unfold V.votes; rw [HL.out]), hs⟩
end Go.Proofs.Ytpllodjahanpkab
