/-
  What chapter 6 says of samples in memory: the program's functions that only look at them.
-/
import Derived.Test.YtpllodjahanpkabSample
import Derived.IntWalk
namespace Go.Proofs.Ytpllodjahanpkab
open Go.RowKit
set_option linter.unusedVariables false
set_option maxHeartbeats 4000000 in
theorem vq_impl (B n c : Nat) (a : Option Addr) (l : List Q.Sm) (w : World) (h : Sms B w a n l) (hB : B ≤ w.heap.size) : Calls Try.prog 39 #[.slice a n c] w fun e w' => e = .returned (.bool (Q.vq l)) ∧ Below w.heap.size w w' := by
  obtain ⟨hl, hn, _⟩ := id h
  have HL := Lib.hid hl
  clear hl
  go_enter Try.func39, Try.ntmps39
  rcases inR_cases (n : Int) 1 8 with ⟨s0, s1⟩ | ⟨s0, s1⟩
  · go_wp2_with (go_at_call 48; refine (inR_impl _ _ _ _).mono ?_; rintro e w' ⟨rfl, rfl⟩)
    go_loopw [11] (fun i wr => ∃ k : Nat, k ≤ n ∧ Q.okTo l k ∧ i = .int .i64 k ∧ Below w.heap.size w wr) (fun i _ => n - (intOf i).toNat)
    case atStart => exact ⟨0, Nat.zero_le _, fun i hi => absurd hi (by omega), rfl, Below.refl _ _⟩
    case round =>
      obtain ⟨k, hk, hok, rfl, hs⟩ := hrel
      have HO := Lib.hid hok
      clear hok
      have h := (h.more hB).below hs
      have hsz := hs.size
      by_cases hlt : k < n
      · obtain ⟨b, off, rfl, hb, hc⟩ := h.at_ k hlt
        obtain ⟨c0, c1, c2⟩ := hc k hlt
        have HC := Lib.hid hc
        have hbr : b < wr.heap.size := by omega
        have hb2 := hs.alloc hsz (Obj.cells #[.int .i64 (Q.of l k), .int .i64 (Q.de l k), .int .i64 (Q.tm l k)] 65)
        have HB2 := Lib.hid hb2
        clear hc hb2 hs h
        rcases inR_cases (Q.of l k) (-1000000) 1000000 with ⟨r0, r1⟩ | ⟨r0, r1⟩
        · rcases inR_cases (Q.de l k) 0 1000000 with ⟨t0, t1⟩ | ⟨t0, t1⟩
          · rcases inR_cases (Q.tm l k) 0 3786479999 with ⟨u0, u1⟩ | ⟨u0, u1⟩
            · rcases Nat.eq_zero_or_pos k with hz | hz
              · subst hz
                have e0 : wr.cell? ⟨b, off, none⟩ = some (.int .i64 (Q.of l 0)) := by simpa using c0
                have e1 : wr.cell? ⟨b, off + 1, none⟩ = some (.int .i64 (Q.de l 0)) := by simpa using c1
                have e2 : wr.cell? ⟨b, off + 2, none⟩ = some (.int .i64 (Q.tm l 0)) := by simpa using c2
                have HS := Lib.hid (Q.okTo_succ HO.out ⟨⟨r1, t1, u1⟩, fun h => absurd h (by omega)⟩)
                clear r1 t1 u1 c0 c1 c2
                go_wp2_with (go_at_call 48; refine (inR_impl _ _ _ _).mono ?_; rintro e w' ⟨rfl, rfl⟩)
                go_quiet (fail)
                go_wp2
                go_roundw
                case rel => exact ⟨1, by omega, HS.out, by go_num, below_drewN HB2.out _⟩
                case measure => simp [intOf]; omega
              · obtain ⟨m, rfl⟩ : ∃ m, k = m + 1 := ⟨k - 1, by omega⟩
                have cm := (HC.out m (by omega)).2.2
                by_cases hd : Q.tm l m < Q.tm l (m + 1)
                · have hd' : decide (Q.tm l (m + 1) ≤ Q.tm l m) = false := decide_eq_false (by omega)
                  have HS := Lib.hid (Q.okTo_succ HO.out ⟨⟨r1, t1, u1⟩, fun _ => hd⟩)
                  clear r1 t1 u1 hd
                  go_wp2_with (go_at_call 48; refine (inR_impl _ _ _ _).mono ?_; rintro e w' ⟨rfl, rfl⟩)
                  go_quiet (fail)
                  go_wp2
                  go_roundw
                  case rel => exact ⟨m + 1 + 1, by omega, HS.out, by go_num, below_drewN HB2.out _⟩
                  case measure => simp [intOf]; omega
                · have hd' : Q.tm l (m + 1) ≤ Q.tm l m := by omega
                  have HF := Lib.hid (Q.vq_bad (m + 1) (by have := HL.out; omega) (fun h => hd (h.2 (by omega))))
                  clear r1 t1 u1 hd
                  go_wp2_with (go_at_call 48; refine (inR_impl _ _ _ _).mono ?_; rintro e w' ⟨rfl, rfl⟩)
                  go_quiet (fail)
                  go_wp2
                  go_ret
                  exact ⟨ret_bool HF.out.symm, below_drewN HB2.out _⟩
            · have HF := Lib.hid (Q.vq_bad k (by have := HL.out; omega) (fun h => u1 h.1.2.2))
              clear r1 t1 u1
              go_wp2_with (go_at_call 48; refine (inR_impl _ _ _ _).mono ?_; rintro e w' ⟨rfl, rfl⟩)
              go_ret
              exact ⟨ret_bool HF.out.symm, HB2.out⟩
          · have HF := Lib.hid (Q.vq_bad k (by have := HL.out; omega) (fun h => t1 h.1.2.1))
            clear r1 t1
            go_wp2_with (go_at_call 48; refine (inR_impl _ _ _ _).mono ?_; rintro e w' ⟨rfl, rfl⟩)
            go_ret
            exact ⟨ret_bool HF.out.symm, HB2.out⟩
        · have HF := Lib.hid (Q.vq_bad k (by have := HL.out; omega) (fun h => r1 h.1.1))
          clear r1
          go_wp2_with (go_at_call 48; refine (inR_impl _ _ _ _).mono ?_; rintro e w' ⟨rfl, rfl⟩)
          go_ret
          exact ⟨ret_bool HF.out.symm, HB2.out⟩
      · obtain rfl : k = n := by omega
        go_wp2
        go_ret
        exact ⟨ret_bool (Q.vq_yes (by have := HL.out; omega) (by have := HL.out; omega) (by rw [HL.out]; exact HO.out)).symm, hs⟩
  · go_wp2_with (go_at_call 48; refine (inR_impl _ _ _ _).mono ?_; rintro e w' ⟨rfl, rfl⟩)
    go_ret
    exact ⟨ret_bool (Q.vq_long (by have := HL.out; omega)).symm, Below.refl _ _⟩
end Go.Proofs.Ytpllodjahanpkab
