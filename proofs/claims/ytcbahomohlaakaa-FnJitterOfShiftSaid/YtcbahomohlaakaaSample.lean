/-
  Samples in memory, and what chapter 6 says of them: the model's functions.
-/
import Derived.Test.YtcbahomohlaakaaLst
import Derived.Test.YtcbahomohlaakaaQMath
import Derived.Deep.RegionHeld3
namespace Go.Proofs.Ytcbahomohlaakaa
open Go.RowKit
set_option linter.unusedVariables false
/-- Where the cells of samples lie. -/
def SmCells (w : World) (b off n : Nat) (l : List Q.Sm) : Prop := ∀ i, i < n → w.cell? ⟨b, off + i * 3, none⟩ = some (.int .i64 (Q.of l i)) ∧ w.cell? ⟨b, off + i * 3 + 1, none⟩ = some (.int .i64 (Q.de l i)) ∧ w.cell? ⟨b, off + i * 3 + 2, none⟩ = some (.int .i64 (Q.tm l i))
/-- A list of samples in memory, in blocks below B. -/
def Sms (B : Nat) (w : World) (a : Option Addr) (n : Nat) (l : List Q.Sm) : Prop :=
  l.length = n ∧ n ≤ 1048576 ∧ (n = 0 ∨ ∃ b off, a = some ⟨b, off, none⟩ ∧ b < B ∧ SmCells w b off n l)
theorem Sms.drewN {B : Nat} {w : World} {a : Option Addr} {n : Nat} {l : List Q.Sm} (h : Sms B w a n l) (k : Nat) : Sms B (w.drewN k) a n l := h
theorem Sms.drew {B : Nat} {w : World} {a : Option Addr} {n : Nat} {l : List Q.Sm} (h : Sms B w a n l) : Sms B w.drew a n l := h
theorem Sms.same {B : Nat} {w w' : World} {a : Option Addr} {n : Nat} {l : List Q.Sm} (h : Sms B w a n l) (q : Same w w') : Sms B w' a n l := by obtain ⟨p, rfl⟩ := q; exact h
theorem Sms.below {B : Nat} {w w' : World} {a : Option Addr} {n : Nat} {l : List Q.Sm} (h : Sms B w a n l) (hb : Below B w w') : Sms B w' a n l :=
  ⟨h.1, h.2.1, h.2.2.imp_right fun ⟨b, off, e, hlt, hc⟩ => ⟨b, off, e, hlt, fun i hi => ⟨(hb.cell (p := ⟨b, off + i * 3, none⟩) hlt).trans (hc i hi).1, (hb.cell (p := ⟨b, off + i * 3 + 1, none⟩) hlt).trans (hc i hi).2.1, (hb.cell (p := ⟨b, off + i * 3 + 2, none⟩) hlt).trans (hc i hi).2.2⟩⟩⟩
theorem Sms.more {B B' : Nat} {w : World} {a : Option Addr} {n : Nat} {l : List Q.Sm} (h : Sms B w a n l) (hb : B ≤ B') : Sms B' w a n l :=
  ⟨h.1, h.2.1, h.2.2.imp_right fun ⟨b, off, e, hlt, hc⟩ => ⟨b, off, e, by omega, hc⟩⟩
theorem Sms.at_ {B : Nat} {w : World} {a : Option Addr} {n : Nat} {l : List Q.Sm} (h : Sms B w a n l) (i : Nat) (hi : i < n) : ∃ b off, a = some ⟨b, off, none⟩ ∧ b < B ∧ SmCells w b off n l := by
  rcases h.2.2 with h0 | h0
  · omega
  · exact h0
set_option maxHeartbeats 4000000 in
theorem vq_spec (B n c : Nat) (a : Option Addr) (l : List Q.Sm) (w : World) (h : Sms B w a n l) : Calls Try.prog 36 #[.slice a n c] w fun e w' => e = .returned (.bool (Q.vq l)) ∧ Same w w' := by
  obtain ⟨hl, hn, _⟩ := id h
  have HL := Lib.hid hl
  clear hl
  go_enter Try.func36, Try.ntmps36
  go_wp2
  go_loopw [3] (fun i wr => ∃ k : Nat, k ≤ n ∧ Q.okTo l k ∧ i = .int .i64 k ∧ Same w wr) (fun i _ => n - (intOf i).toNat)
  case atStart => exact ⟨0, Nat.zero_le _, fun i hi => absurd hi (by omega), rfl, Same.refl _⟩
  case round =>
    obtain ⟨k, hk, hok, rfl, hs⟩ := hrel
    have HO := Lib.hid hok
    clear hok
    have h := h.same hs
    by_cases hlt : k < n
    · obtain ⟨b, off, rfl, hb, hc⟩ := h.at_ k hlt
      obtain ⟨c0, c1, c2⟩ := hc k hlt
      have HC := Lib.hid hc
      clear hc
      rcases inR_cases (Q.of l k) (-1000000) 1000000 with ⟨r0, r1⟩ | ⟨r0, r1⟩
      · rcases inR_cases (Q.de l k) 0 1000000 with ⟨s0, s1⟩ | ⟨s0, s1⟩
        · rcases inR_cases (Q.tm l k) 0 3786479999 with ⟨t0, t1⟩ | ⟨t0, t1⟩
          · rcases Nat.eq_zero_or_pos k with hz | hz
            · subst hz
              have e0 : wr.cell? ⟨b, off, none⟩ = some (.int .i64 (Q.of l 0)) := by simpa using c0
              have e1 : wr.cell? ⟨b, off + 1, none⟩ = some (.int .i64 (Q.de l 0)) := by simpa using c1
              have e2 : wr.cell? ⟨b, off + 2, none⟩ = some (.int .i64 (Q.tm l 0)) := by simpa using c2
              clear c0 c1 c2
              have HS := Lib.hid (Q.okTo_succ HO.out ⟨⟨r1, s1, t1⟩, fun h => absurd h (by omega)⟩)
              clear r1 s1 t1
              go_wp2
              go_quiet ((go_at_call 47; exact qsL (inR_spec _ _ _)))
              go_wp2
              go_roundw
              case rel => exact ⟨1, by omega, HS.out, by go_num, hs.drewN _⟩
              case measure => simp [intOf]; omega
            · obtain ⟨m, rfl⟩ : ∃ m, k = m + 1 := ⟨k - 1, by omega⟩
              have cm := (HC.out m (by omega)).2.2
              by_cases hd : Q.tm l m < Q.tm l (m + 1)
              · have hd' : decide (Q.tm l (m + 1) ≤ Q.tm l m) = false := decide_eq_false (by omega)
                have HS := Lib.hid (Q.okTo_succ HO.out ⟨⟨r1, s1, t1⟩, fun _ => hd⟩)
                clear r1 s1 t1 hd
                go_wp2
                go_quiet ((go_at_call 47; exact qsL (inR_spec _ _ _)))
                go_wp2
                go_roundw
                case rel => exact ⟨m + 1 + 1, by omega, HS.out, by go_num, hs.drewN _⟩
                case measure => simp [intOf]; omega
              · have hd' : Q.tm l (m + 1) ≤ Q.tm l m := by omega
                have HF := Lib.hid (Q.vq_bad (m + 1) (by have := HL.out; omega) (fun h => hd (h.2 (by omega))))
                clear r1 s1 t1 hd
                go_wp2
                go_quiet ((go_at_call 47; exact qsL (inR_spec _ _ _)))
                go_wp2
                go_ret
                exact ⟨ret_bool HF.out.symm, hs.drewN _⟩
          · have HF := Lib.hid (Q.vq_bad k (by have := HL.out; omega) (fun h => t1 h.1.2.2))
            clear r1 s1 t1
            go_wp2
            go_quiet ((go_at_call 47; exact qsL (inR_spec _ _ _)))
            go_wp2
            go_ret
            exact ⟨ret_bool HF.out.symm, hs.drewN _⟩
        · have HF := Lib.hid (Q.vq_bad k (by have := HL.out; omega) (fun h => s1 h.1.2.1))
          clear r1 s1
          go_wp2
          go_quiet ((go_at_call 47; exact qsL (inR_spec _ _ _)))
          go_wp2
          go_ret
          exact ⟨ret_bool HF.out.symm, hs.drewN _⟩
      · have HF := Lib.hid (Q.vq_bad k (by have := HL.out; omega) (fun h => r1 h.1.1))
        clear r1
        go_wp2
        go_quiet ((go_at_call 47; exact qsL (inR_spec _ _ _)))
        go_wp2
        go_ret
        exact ⟨ret_bool HF.out.symm, hs.drewN _⟩
    · obtain rfl : k = n := by omega
      rcases inR_cases (k : Int) 1 8 with ⟨s0, s1⟩ | ⟨s0, s1⟩
      · go_wp2_with (go_at_call 47; refine (inR_spec _ _ _ _).mono ?_; rintro e w' ⟨rfl, rfl⟩)
        go_ret
        exact ⟨ret_bool (Q.vq_yes (by have := HL.out; omega) (by have := HL.out; omega) (by rw [HL.out]; exact HO.out)).symm, hs⟩
      · go_wp2_with (go_at_call 47; refine (inR_spec _ _ _ _).mono ?_; rintro e w' ⟨rfl, rfl⟩)
        go_ret
        exact ⟨ret_bool (Q.vq_long (by have := HL.out; omega)).symm, hs⟩
set_option maxHeartbeats 1000000 in
theorem best_spec (B n c : Nat) (a : Option Addr) (l : List Q.Sm) (w : World) (h : Sms B w a n l) : Calls Try.prog 37 #[.slice a n c] w fun e w' => e = .returned (.int .i64 (Q.best l)) ∧ Same w w' := by
  obtain ⟨hl, hn, _⟩ := id h
  have HL := Lib.hid hl
  clear hl
  go_enter Try.func37, Try.ntmps37
  go_wp2
  go_loopw [3, 4] (fun x i wr => ∃ m : Nat, (m + 1 ≤ n ∨ m = 0) ∧ i = .int .i64 ((m : Int) + 1) ∧ x = .int .i64 (Q.bestTo l m) ∧ Same w wr) (fun _ i _ => n - (intOf i).toNat)
  case atStart => exact ⟨0, .inr rfl, rfl, rfl, Same.refl _⟩
  case round =>
    obtain ⟨m, hm, rfl, rfl, hs⟩ := hrel
    have h := h.same hs
    by_cases hlt : m + 1 < n
    · obtain ⟨b, off, rfl, hb, hc⟩ := h.at_ 0 (by omega)
      have hj := (Q.bestTo_is l m).le
      have c1 := (hc (m + 1) hlt).2.1
      have d1 := (hc (Q.bestTo l m) (by omega)).2.1
      have hlt' : (m : Int) + 1 < (n : Int) := by omega
      clear hc
      by_cases hd : Q.de l (m + 1) ≤ Q.de l (Q.bestTo l m)
      · have HE := Lib.hid (show Q.bestTo l (m + 1) = m + 1 from if_pos hd)
        generalize Q.bestTo l m = j at *
        go_wp2
        go_quiet (fail)
        go_wp2
        go_roundw
        case rel => exact ⟨m + 1, by omega, by go_num, by rw [HE.out]; go_num, hs.drewN _⟩
        case measure => simp [intOf]; omega
      · have HE := Lib.hid (show Q.bestTo l (m + 1) = Q.bestTo l m from if_neg hd)
        have hd' : decide (Q.de l (m + 1) ≤ Q.de l (Q.bestTo l m)) = false := decide_eq_false hd
        generalize Q.bestTo l m = j at *
        go_wp2
        go_quiet (fail)
        go_wp2
        go_roundw
        case rel => exact ⟨m + 1, by omega, by go_num, by rw [HE.out], hs.drewN _⟩
        case measure => simp [intOf]; omega
    · have hlt' : ¬ (m : Int) + 1 < (n : Int) := by omega
      go_wp2
      go_ret
      exact ⟨ret_int (by unfold Q.best; rw [HL.out]; congr 2; omega), hs⟩
theorem size_spec (x : Int) (hx : -1000000000 ≤ x ∧ x ≤ 1000000000) (w : World) : Calls Try.prog 41 #[.int .i64 x] w fun e w' => e = .returned (.int .i64 (Q.abs x)) ∧ w = w' := by
  rcases Int.lt_or_le x 0 with h | h
  · have h2 : x < -x := by omega
    rw [show Q.abs x = -x from if_pos h]
    go_enter Try.func41, Try.ntmps41
    go_wp2
    go_ret
    exact ⟨rfl, rfl⟩
  · have h2 : ¬ x < -x := by omega
    rw [show Q.abs x = x from if_neg (by omega)]
    go_enter Try.func41, Try.ntmps41
    go_wp2
    go_ret
    exact ⟨rfl, rfl⟩
set_option maxHeartbeats 1000000 in
theorem BS_spec (B n c : Nat) (a : Option Addr) (l : List Q.Sm) (w : World) (h : Sms B w a n l) (hB : B ≤ w.heap.size) : Calls Try.prog 14 #[.slice a n c] w fun e w' => e = .returned (.tuple #[.agg #[.int .i64 (Q.bo l), .int .i64 (Q.bd l), .int .i64 (Q.bt l)], .bool (Q.vq l)]) ∧ Below w.heap.size w w' := by
  have hb0 := (Below.refl w.heap.size w).alloc (Nat.le_refl _) (Obj.cells #[.int .i64 0, .int .i64 0, .int .i64 0] 26)
  have h1 := (h.more hB).below hb0
  have HB := Lib.hid hb0
  have HS1 := Lib.hid h1
  have hl := h.1
  clear hb0 h1 h
  go_enter Try.func14, Try.ntmps14
  cases hv : Q.vq l
  · rw [(Q.b_no hv).1, (Q.b_no hv).2.1, (Q.b_no hv).2.2]
    go_wp2_with (go_at_call 36; refine (vq_spec _ _ _ _ l _ HS1.out).mono ?_; rw [hv]; rintro e w1 ⟨rfl, p, rfl⟩)
    exact bodyPost_ret (v := .tuple #[.agg #[.int .i64 0, .int .i64 0, .int .i64 0], .bool false]) (by simp [results, Try.results14, go_sem]) rfl ⟨rfl, (((below_drewN HB.out p).setCell (Nat.le_refl _) _).setCell (Nat.le_refl _) _).setCell (Nat.le_refl _) _⟩
  · have hq := (Q.vq_of hv).1
    have hbl := Q.best_lt (l := l) (by omega)
    obtain ⟨b, off, rfl, hb, hc⟩ := HS1.out.at_ 0 (by omega)
    obtain ⟨c0, c1, c2⟩ := hc (Q.best l) (by omega)
    clear hc
    rw [(Q.b_yes hv).1, (Q.b_yes hv).2.1, (Q.b_yes hv).2.2]
    have HBS := Lib.hid (fun (p : Nat) => best_spec w.heap.size n c _ l _ (HS1.out.drewN p))
    generalize Q.best l = j at *
    go_wp2_with (first | (go_at_call 36; refine (vq_spec _ _ _ _ l _ HS1.out).mono ?_; rw [hv]; rintro e w1 ⟨rfl, p, rfl⟩) | (go_at_call 37; refine (HBS.out p).mono ?_; rintro e w2 ⟨rfl, q, rfl⟩))
    exact bodyPost_ret (v := .tuple #[.agg #[.int .i64 (Q.of l j), .int .i64 (Q.de l j), .int .i64 (Q.tm l j)], .bool true]) (by simp [results, Try.results14, go_sem]) rfl ⟨rfl, (((below_drewN HB.out (p + q)).setCell (Nat.le_refl _) _).setCell (Nat.le_refl _) _).setCell (Nat.le_refl _) _⟩
set_option maxHeartbeats 1000000 in
theorem JF_spec (B n c : Nat) (a : Option Addr) (l : List Q.Sm) (w : World) (h : Sms B w a n l) : Calls Try.prog 18 #[.slice a n c] w fun e w' => e = .returned (.int .i64 (Q.jf l)) ∧ Same w w' := by
  have hl := h.1
  go_enter Try.func18, Try.ntmps18
  cases hv : Q.vq l
  · rw [Q.jf_no hv]
    go_wp2_with (go_at_call 36; refine (vq_spec _ _ _ _ l _ h).mono ?_; rw [hv]; rintro e w1 ⟨rfl, p, rfl⟩)
    go_ret
    exact ⟨rfl, p, rfl⟩
  · have hq := (Q.vq_of hv).1
    have hok := (Q.vq_of hv).2
    have hbl := Q.best_lt (l := l) (by omega)
    have hbb := (hok _ hbl).1.1
    have hbd := fun k (hk : k < n) => (hok k (by omega)).1.1
    have hsum := fun k (hk : k ≤ n) => Q.sumTo_bd (l := l) (b := Q.of l (Q.best l)) hbb k (fun i hi => hbd i (by omega))
    have HBD := Lib.hid hbd
    have HSUM := Lib.hid hsum
    have HL := Lib.hid hl
    have hn8 : 1 ≤ n ∧ n ≤ 8 := by omega
    have hbn : Q.best l < n := by omega
    obtain ⟨b, off, rfl, hb, hc⟩ := h.at_ 0 (by omega)
    have c0 := (hc (Q.best l) (by omega)).1
    rw [Q.jf_yes hv]
    unfold Q.jit
    rw [hl]
    have HBS := Lib.hid (fun (p : Nat) => best_spec B n c _ l _ (h.drewN p))
    have HC := Lib.hid hc
    clear hc hok hbd hsum hl
    generalize Q.best l = j at *
    go_wp2_with (first | (go_at_call 36; refine (vq_spec _ _ _ _ l _ h).mono ?_; rw [hv]; rintro e w1 ⟨rfl, p, rfl⟩) | (go_at_call 37; refine (HBS.out p).mono ?_; rintro e w2 ⟨rfl, q, rfl⟩))
    go_loopw [3, 5] (fun x i wr => ∃ k : Nat, k ≤ n ∧ i = .int .i64 k ∧ x = .int .i64 (Q.sumTo l (Q.of l j) k) ∧ Same w wr) (fun _ i _ => n - (intOf i).toNat)
    case atStart => exact ⟨0, Nat.zero_le _, rfl, rfl, (Same.refl w).drewN _⟩
    case round =>
      obtain ⟨k, hk, rfl, rfl, hs⟩ := hrel
      have hsk := HSUM.out k hk
      have hsm := h.same hs
      by_cases hlt : k < n
      · have ck := (HC.out k hlt).1
        have cx : wr.cell? ⟨b, off + k * 3, none⟩ = some (.int .i64 (Q.of l k)) := by obtain ⟨q9, rfl⟩ := hs; exact ck
        have hbk := HBD.out k hlt
        have hs1 := HSUM.out (k + 1) (by omega)
        have e1 : Q.sumTo l (Q.of l j) (k + 1) = Q.sumTo l (Q.of l j) k + Q.abs (Q.of l k - Q.of l j) := rfl
        rw [e1] at hs1
        have HE := Lib.hid e1
        have habs := Q.abs_nn (Q.of l k - Q.of l j)
        clear ck e1
        go_wp2_with (go_at_call 41; refine (size_spec _ (by omega) _).mono ?_; rintro e w3 ⟨rfl, rfl⟩)
        go_roundw
        case rel => exact ⟨k + 1, by omega, by go_num, by rw [HE.out], hs⟩
        case measure => simp [intOf]; omega
      · obtain rfl : k = n := by omega
        have hne : ((k : Int) == 0) = false := by rw [beq_eq_false_iff_ne]; omega
        go_wp2
        go_ret
        exact ⟨rfl, hs⟩
end Go.Proofs.Ytcbahomohlaakaa
