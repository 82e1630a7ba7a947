/-
  What chapter 5 says of spans in memory: the program's functions that only look at them.
-/
import Derived.Test.YtlehpfcealohoaaSpan
namespace Go.Proofs.Ytlehpfcealohoaa
open Go.RowKit
set_option linter.unusedVariables false
set_option maxHeartbeats 1000000 in
theorem vs_impl (B n c : Nat) (a : Option Addr) (l : List (Int × Int)) (w : World) (h : Sps B w a n l) (hB : B ≤ w.heap.size) : Calls Try.prog 24 #[.slice a n c] w fun e w' => e = .returned (.bool (V.vs l)) ∧ Below w.heap.size w w' := by
  obtain ⟨hl, hn, _⟩ := id h
  have HL := Lib.hid hl
  clear hl
  go_enter Try.func24, Try.ntmps24
  rcases inR_cases (n : Int) 1 7 with ⟨s0, s1⟩ | ⟨s0, s1⟩
  · go_wp2_with (go_at_call 35; refine (inR_impl _ _ _ _).mono ?_; rintro e w' ⟨rfl, rfl⟩)
    go_loopw [11] (fun i wr => ∃ k : Nat, k ≤ n ∧ V.okTo l k ∧ i = .int .i64 k ∧ Below w.heap.size w wr) (fun i _ => n - (intOf i).toNat)
    case atStart => exact ⟨0, Nat.zero_le _, fun i hi => absurd hi (by omega), rfl, Below.refl _ _⟩
    case round =>
      obtain ⟨k, hk, hok, rfl, hs⟩ := hrel
      have HO := Lib.hid hok
      clear hok
      have h := (h.more hB).below hs
      have hsz := hs.size
      by_cases hlt : k < n
      · obtain ⟨b, off, rfl, hb, hc⟩ := h.at_ k hlt
        have c0 := (hc k hlt).1
        have c1 := (hc k hlt).2
        have hb2 := hs.alloc hsz (Obj.cells #[.int .i64 (V.lo l k), .int .i64 (V.hi l k)] 26)
        clear hc
        rcases inR_cases (V.lo l k) (-1000000) 1000000 with ⟨r0, r1⟩ | ⟨r0, r1⟩
        · rcases inR_cases (V.hi l k) (V.lo l k) 1000000 with ⟨t0, t1⟩ | ⟨t0, t1⟩
          · have HK := Lib.hid (V.okTo_succ HO.out ⟨r1, t1⟩)
            clear r1 t1
            go_wp2_with (go_at_call 35; refine (inR_impl _ _ _ _).mono ?_; rintro e w' ⟨rfl, rfl⟩)
            go_roundw
            case rel => exact ⟨k + 1, by omega, HK.out, by go_num, hb2⟩
            case measure => simp [intOf]; omega
          · have HK := Lib.hid (V.vs_bad k (by have := HL.out; omega) (fun h => t1 h.2))
            clear r1 t1
            go_wp2_with (go_at_call 35; refine (inR_impl _ _ _ _).mono ?_; rintro e w' ⟨rfl, rfl⟩)
            go_ret
            exact ⟨ret_bool HK.out.symm, hb2⟩
        · have HK := Lib.hid (V.vs_bad k (by have := HL.out; omega) (fun h => r1 h.1))
          clear r1
          go_wp2_with (go_at_call 35; refine (inR_impl _ _ _ _).mono ?_; rintro e w' ⟨rfl, rfl⟩)
          go_ret
          exact ⟨ret_bool HK.out.symm, hb2⟩
      · obtain rfl : k = n := by omega
        go_wp2
        go_ret
        exact ⟨ret_bool (V.vs_yes (by have := HL.out; omega) (by have := HL.out; omega) (by rw [HL.out]; exact HO.out)).symm, hs⟩
  · go_wp2_with (go_at_call 35; refine (inR_impl _ _ _ _).mono ?_; rintro e w' ⟨rfl, rfl⟩)
    go_ret
    exact ⟨ret_bool (V.vs_long (by have := HL.out; omega)).symm, Below.refl _ _⟩
theorem has_impl (x y t : Int) (w : World) : Calls Try.prog 29 #[.agg #[.int .i64 x, .int .i64 y], .int .i64 t] w fun e w' => e = .returned (.bool (inR t x y)) ∧ Below w.heap.size w w' := by
  have hb := Lib.hid ((Below.refl w.heap.size w).alloc (Nat.le_refl _) (Obj.cells #[.int .i64 x, .int .i64 y] 26))
  go_enter Try.func29, Try.ntmps29
  go_wp2_with (go_at_call 35; refine (inR_impl _ _ _ _).mono ?_; rintro e w' ⟨rfl, rfl⟩)
  go_ret
  exact ⟨rfl, hb.out⟩
end Go.Proofs.Ytlehpfcealohoaa
