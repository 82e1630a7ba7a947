/-
  Samples in memory, and what chapter 6 says of them: the model's functions.
-/
import Derived.Test.YtpllodjahanpkabLst
import Derived.Test.YtpllodjahanpkabQMath
import Derived.Deep.RegionHeld3
namespace Go.Proofs.Ytpllodjahanpkab
open Go.RowKit
set_option linter.unusedVariables false
/-- Where the cells of samples lie. -/
def SmCells (w : World) (b off n : Nat) (l : List Q.Sm) : Prop := ∀ i, i < n → w.cell? ⟨b, off + i * 3, none⟩ = some (.int .i64 (Q.of l i)) ∧ w.cell? ⟨b, off + i * 3 + 1, none⟩ = some (.int .i64 (Q.de l i)) ∧ w.cell? ⟨b, off + i * 3 + 2, none⟩ = some (.int .i64 (Q.tm l i))
/-- A list of samples in memory, in blocks below B. -/
def Sms (B : Nat) (w : World) (a : Option Addr) (n : Nat) (l : List Q.Sm) : Prop :=
  l.length = n ∧ n ≤ 1048576 ∧ (n = 0 ∨ ∃ b off, a = some ⟨b, off, none⟩ ∧ b < B ∧ SmCells w b off n l)
theorem Sms.drewN {B : Nat} {w : World} {a : Option Addr} {n : Nat} {l : List Q.Sm} (h : Sms B w a n l) (k : Nat) : Sms B (w.drewN k) a n l := h
theorem Sms.drew {B : Nat} {w : World} {a : Option Addr} {n : Nat} {l : List Q.Sm} (h : Sms B w a n l) : Sms B w.drew a n l := h
theorem Sms.same {B : Nat} {w w' : World} {a : Option Addr} {n : Nat} {l : List Q.Sm} (h : Sms B w a n l) (q : Same w w') : Sms B w' a n l := by obtain ⟨p, rfl⟩ := q; exact h
theorem Sms.below {B : Nat} {w w' : World} {a : Option Addr} {n : Nat} {l : List Q.Sm} (h : Sms B w a n l) (hb : Below B w w') : Sms B w' a n l :=
  ⟨h.1, h.2.1, h.2.2.imp_right fun ⟨b, off, e, hlt, hc⟩ => ⟨b, off, e, hlt, fun i hi => ⟨(hb.cell (p := ⟨b, off + i * 3, none⟩) hlt).trans (hc i hi).1, (hb.cell (p := ⟨b, off + i * 3 + 1, none⟩) hlt).trans (hc i hi).2.1, (hb.cell (p := ⟨b, off + i * 3 + 2, none⟩) hlt).trans (hc i hi).2.2⟩⟩⟩
theorem Sms.more {B B' : Nat} {w : World} {a : Option Addr} {n : Nat} {l : List Q.Sm} (h : Sms B w a n l) (hb : B ≤ B') : Sms B' w a n l :=
  ⟨h.1, h.2.1, h.2.2.imp_right fun ⟨b, off, e, hlt, hc⟩ => ⟨b, off, e, by omega, hc⟩⟩
theorem Sms.at_ {B : Nat} {w : World} {a : Option Addr} {n : Nat} {l : List Q.Sm} (h : Sms B w a n l) (i : Nat) (hi : i < n) : ∃ b off, a = some ⟨b, off, none⟩ ∧ b < B ∧ SmCells w b off n l := by
  rcases h.2.2 with h0 | h0
  · omega
  · exact h0
set_option maxHeartbeats 4000000 in
theorem vq_spec (B n c : Nat) (a : Option Addr) (l : List Q.Sm) (w : World) (h : Sms B w a n l) : Calls Try.prog 52 #[.slice a n c] w fun e w' => e = .returned (.bool (Q.vq l)) ∧ Same w w' := by
  obtain ⟨hl, hn, _⟩ := id h
  have HL := Lib.hid hl
  clear hl
  go_enter Try.func52, Try.ntmps52
  go_wp2
  go_loopw [3] (fun i wr => ∃ k : Nat, k ≤ n ∧ Q.okTo l k ∧ i = .int .i64 k ∧ Same w wr) (fun i _ => n - (intOf i).toNat)
  case atStart => exact ⟨0, Nat.zero_le _, fun i hi => absurd hi (by omega), rfl, Same.refl _⟩
  case round =>
    obtain ⟨k, hk, hok, rfl, hs⟩ := hrel
    have HO := Lib.hid hok
    clear hok
    have h := h.same hs
    by_cases hlt : k < n
    · obtain ⟨b, off, rfl, hb, hc⟩ := h.at_ k hlt
      obtain ⟨c0, c1, c2⟩ := hc k hlt
      have HC := Lib.hid hc
      clear hc
      rcases inR_cases (Q.of l k) (-1000000) 1000000 with ⟨r0, r1⟩ | ⟨r0, r1⟩
      · rcases inR_cases (Q.de l k) 0 1000000 with ⟨s0, s1⟩ | ⟨s0, s1⟩
        · rcases inR_cases (Q.tm l k) 0 3786479999 with ⟨t0, t1⟩ | ⟨t0, t1⟩
          · rcases Nat.eq_zero_or_pos k with hz | hz
            · subst hz
              have e0 : wr.cell? ⟨b, off, none⟩ = some (.int .i64 (Q.of l 0)) := by simpa using c0
              have e1 : wr.cell? ⟨b, off + 1, none⟩ = some (.int .i64 (Q.de l 0)) := by simpa using c1
              have e2 : wr.cell? ⟨b, off + 2, none⟩ = some (.int .i64 (Q.tm l 0)) := by simpa using c2
              clear c0 c1 c2
              have HS := Lib.hid (Q.okTo_succ HO.out ⟨⟨r1, s1, t1⟩, fun h => absurd h (by omega)⟩)
              clear r1 s1 t1
              go_wp2
              go_quiet ((go_at_call 51; exact qsL (inR_spec _ _ _)))
              go_wp2
              go_roundw
              case rel => exact ⟨1, by omega, HS.out, by go_num, hs.drewN _⟩
              case measure => simp [intOf]; omega
            · obtain ⟨m, rfl⟩ : ∃ m, k = m + 1 := ⟨k - 1, by omega⟩
              have cm := (HC.out m (by omega)).2.2
              by_cases hd : Q.tm l m < Q.tm l (m + 1)
              · have hd' : decide (Q.tm l (m + 1) ≤ Q.tm l m) = false := decide_eq_false (by omega)
                have HS := Lib.hid (Q.okTo_succ HO.out ⟨⟨r1, s1, t1⟩, fun _ => hd⟩)
                clear r1 s1 t1 hd
                go_wp2
                go_quiet ((go_at_call 51; exact qsL (inR_spec _ _ _)))
                go_wp2
                go_roundw
                case rel => exact ⟨m + 1 + 1, by omega, HS.out, by go_num, hs.drewN _⟩
                case measure => simp [intOf]; omega
              · have hd' : Q.tm l (m + 1) ≤ Q.tm l m := by omega
                have HF := Lib.hid (Q.vq_bad (m + 1) (by have := HL.out; omega) (fun h => hd (h.2 (by omega))))
                clear r1 s1 t1 hd
                go_wp2
                go_quiet ((go_at_call 51; exact qsL (inR_spec _ _ _)))
                go_wp2
                go_ret
                exact ⟨ret_bool HF.out.symm, hs.drewN _⟩
          · have HF := Lib.hid (Q.vq_bad k (by have := HL.out; omega) (fun h => t1 h.1.2.2))
            clear r1 s1 t1
            go_wp2
            go_quiet ((go_at_call 51; exact qsL (inR_spec _ _ _)))
            go_wp2
            go_ret
            exact ⟨ret_bool HF.out.symm, hs.drewN _⟩
        · have HF := Lib.hid (Q.vq_bad k (by have := HL.out; omega) (fun h => s1 h.1.2.1))
          clear r1 s1
          go_wp2
          go_quiet ((go_at_call 51; exact qsL (inR_spec _ _ _)))
          go_wp2
          go_ret
          exact ⟨ret_bool HF.out.symm, hs.drewN _⟩
      · have HF := Lib.hid (Q.vq_bad k (by have := HL.out; omega) (fun h => r1 h.1.1))
        clear r1
        go_wp2
        go_quiet ((go_at_call 51; exact qsL (inR_spec _ _ _)))
        go_wp2
        go_ret
        exact ⟨ret_bool HF.out.symm, hs.drewN _⟩
    · obtain rfl : k = n := by omega
      rcases inR_cases (k : Int) 1 8 with ⟨s0, s1⟩ | ⟨s0, s1⟩
      · go_wp2_with (go_at_call 51; refine (inR_spec _ _ _ _).mono ?_; rintro e w' ⟨rfl, rfl⟩)
        go_ret
        exact ⟨ret_bool (Q.vq_yes (by have := HL.out; omega) (by have := HL.out; omega) (by rw [HL.out]; exact HO.out)).symm, hs⟩
      · go_wp2_with (go_at_call 51; refine (inR_spec _ _ _ _).mono ?_; rintro e w' ⟨rfl, rfl⟩)
        go_ret
        exact ⟨ret_bool (Q.vq_long (by have := HL.out; omega)).symm, hs⟩
theorem VQ_spec (B n c : Nat) (a : Option Addr) (l : List Q.Sm) (w : World) (h : Sms B w a n l) : Calls Try.prog 37 #[.slice a n c] w fun e w' => e = .returned (.bool (Q.vq l)) ∧ Same w w' := by
  go_enter Try.func37, Try.ntmps37
  go_wp2_with (go_at_call 52; refine (vq_spec _ _ _ _ l _ h).mono ?_; rintro e w1 ⟨rfl, b1⟩)
  go_ret
  exact ⟨rfl, b1⟩
end Go.Proofs.Ytpllodjahanpkab
