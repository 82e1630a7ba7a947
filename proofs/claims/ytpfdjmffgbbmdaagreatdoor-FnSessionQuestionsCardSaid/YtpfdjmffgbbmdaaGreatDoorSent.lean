/-
  What the functions of sentences return, for every text: checksums, frames, and what is read out of a frame; the program's and the model's answer is the same.
-/
import Derived.Test.YtpfdjmffgbbmdaaGreatDoorCal
import Derived.Test.YtpfdjmffgbbmdaaGreatDoorP1
import Derived.RegionTactic
import Derived.Laws.BitsAllLaws
import Derived.Laws.IdiomStrings
import Derived.Laws.Concat
namespace Go.Proofs.YtpfdjmffgbbmdaaGreatDoor
open Go.RowKit
set_option linter.unusedVariables false
theorem ret_str {a b : ByteArray} (h : a = b) : Ending.returned (.string a) = .returned (.string b) := by rw [h]
theorem i64_xor (a b : Nat) (ha : a < 4611686018427387904) (hb : b < 4611686018427387904) : bits .xor .i64 (a : Int) (b : Int) = ((a ^^^ b : Nat) : Int) := by
  have hx : a ^^^ b < 2 ^ 62 := Nat.xor_lt_two_pow (by omega) (by omega)
  have h1 : (BitVec.ofInt 64 (a : Int)).toNat = a := by
    rw [BitVec.ofInt_natCast, BitVec.toNat_ofNat]; exact Nat.mod_eq_of_lt (by omega)
  have h2 : (BitVec.ofInt 64 (b : Int)).toNat = b := by
    rw [BitVec.ofInt_natCast, BitVec.toNat_ofNat]; exact Nat.mod_eq_of_lt (by omega)
  show IntKind.i64.wrap ((BitVec.ofInt 64 (a : Int) ^^^ BitVec.ofInt 64 (b : Int)).toNat : Int) = _
  rw [BitVec.toNat_xor, h1, h2, IntWalk.i64_in _ (by omega)]
def okb (n : Nat) : Bool := decide (S.okN n)
theorem okb_yes {n : Nat} (h : S.okN n) : okb n = true := decide_eq_true h
theorem okb_no {n : Nat} (h : ¬ S.okN n) : okb n = false := decide_eq_false h
theorem isText_impl (n : Nat) (hn : n < 256) (w : World) : Calls Tryz.prog 90 #[.int .u8 n] w fun e w' => e = .returned (.bool (okb n)) ∧ w = w' := by
  by_cases h0 : 32 ≤ n
  · have g0 : (32 : Int) ≤ (n : Int) := by omega
    by_cases h1 : n ≤ 126
    · have g1 : (n : Int) ≤ 126 := by omega
      by_cases h2 : n = 36
      · rw [okb_no (by unfold S.okN; omega)]
        subst h2
        go_enter Tryz.func90, Tryz.ntmps90
        go_wp2
        go_ret
        exact ⟨rfl, rfl⟩
      · have g2 : ((n : Int) == 36) = false := by rw [beq_eq_false_iff_ne]; omega
        have g2' : ((n : Int) != 36) = true := by rw [bne_iff_ne]; omega
        by_cases h3 : n = 42
        · rw [okb_no (by unfold S.okN; omega)]
          subst h3
          go_enter Tryz.func90, Tryz.ntmps90
          go_wp2
          go_ret
          exact ⟨rfl, rfl⟩
        · have g3 : ((n : Int) == 42) = false := by rw [beq_eq_false_iff_ne]; omega
          have g3' : ((n : Int) != 42) = true := by rw [bne_iff_ne]; omega
          rw [okb_yes (by unfold S.okN; omega)]
          clear h0 h1 h2 h3
          go_enter Tryz.func90, Tryz.ntmps90
          go_wp2
          go_ret
          exact ⟨rfl, rfl⟩
    · have g1 : decide ((n : Int) ≤ 126) = false := by simp; omega
      rw [okb_no (by unfold S.okN; omega)]
      go_enter Tryz.func90, Tryz.ntmps90
      go_wp2
      go_ret
      exact ⟨rfl, rfl⟩
  · have g0 : decide ((32 : Int) ≤ (n : Int)) = false := by simp; omega
    rw [okb_no (by unfold S.okN; omega)]
    go_enter Tryz.func90, Tryz.ntmps90
    go_wp2
    go_ret
    exact ⟨rfl, rfl⟩
set_option maxHeartbeats 1000000 in
theorem csum_impl (s : ByteArray) (hs : s.size ≤ maxLen) (w : World) : Calls Tryz.prog 58 #[.string s] w fun e w' => e = .returned (.int .i64 (S.csum s)) ∧ w = w' := by
  unfold maxLen at hs
  rcases inR_cases (s.size : Int) 1 40 with ⟨r0, r1⟩ | ⟨r0, r1⟩
  · go_enter Tryz.func58, Tryz.ntmps58
    go_wp2_with (first | (go_at_call 33; refine (inR_impl _ _ _ _).mono ?_; rintro e w' ⟨rfl, rfl⟩))
    go_loop [3, 4] (fun x i => ∃ k : Nat, k ≤ s.size ∧ S.okTo s k ∧ i = .int .i64 k ∧ x = .int .u8 (S.xorTo s k)) (fun _ i => s.size - (intOf i).toNat)
    case atStart => exact ⟨0, Nat.zero_le _, fun i hi => absurd hi (by omega), rfl, rfl⟩
    case round =>
      obtain ⟨k, hk, hok, rfl, rfl⟩ := hrel
      have HO := Lib.hid hok
      clear hok
      by_cases hlt : k < s.size
      · have hat := S.at_get s k
        have hb := S.at_lt s k
        have hx := S.xorTo_lt s k
        have hxor : bits .xor .u8 (S.xorTo s k : Int) (S.at_ s k : Int) = (S.xorTo s (k + 1) : Int) := u8_xor_nat _ _ hx hb
        by_cases h : S.okN (S.at_ s k)
        · have ho := okb_yes h
          have HK := Lib.hid h
          clear h
          go_wp2_with (go_at_call 90; refine (isText_impl _ hb _).mono ?_; rintro e w' ⟨rfl, rfl⟩)
          go_round
          case rel => exact ⟨k + 1, by omega, S.okTo_succ HO.out HK.out, by go_num, rfl⟩
          case measure => simp [intOf]; omega
        · have ho := okb_no h
          have HK := Lib.hid h
          clear h
          go_wp2_with (go_at_call 90; refine (isText_impl _ hb _).mono ?_; rintro e w' ⟨rfl, rfl⟩)
          go_ret
          exact ⟨ret_int (S.csum_no (S.body_bad k hlt HK.out)).symm, rfl⟩
      · obtain rfl : k = s.size := by omega
        have hx := S.xorTo_lt s s.size
        have hx' : (S.xorTo s s.size : Int) ≤ 255 := by omega
        go_wp2
        go_ret
        exact ⟨ret_int (by rw [S.csum_yes (S.body_yes (by omega) (by omega) HO.out)]; rfl), rfl⟩
  · go_enter Tryz.func58, Tryz.ntmps58
    go_wp2_with (first | (go_at_call 33; refine (inR_impl _ _ _ _).mono ?_; rintro e w' ⟨rfl, rfl⟩))
    go_ret
    exact ⟨ret_int (S.csum_no (S.body_long (by omega))).symm, rfl⟩
def hexS : ByteArray := { data := #[48, 49, 50, 51, 52, 53, 54, 55, 56, 57, 65, 66, 67, 68, 69, 70] }
theorem hex_at : ∀ n, (h : n < 16) → (hexS[n]'(by show n < 16; exact h)) = S.hexd n := by decide
theorem run_hex {P : Program} (t : TypeId) (ht : P.underlying t = some .string) (n : Nat) (hn : n < 16) (z : Int) (hz : z = n) (w : World) :
    (Instr.index t (.string { data := #[48, 49, 50, 51, 52, 53, 54, 55, 56, 57, 65, 66, 67, 68, 69, 70] }) (.int .i64 z)).run P w = .ok (.int .u8 ((S.hexd n).toNat : Int)) w := by
  subst hz
  rw [run_index_string w t _ .i64 _ ht, dif_pos ⟨by omega, show ((n : Int)) < ((16 : Nat) : Int) by omega⟩]
  have := hex_at n hn
  simp only [Int.toNat_natCast]
  rw [← this]; rfl
theorem run_two {P : Program} (src dst e : TypeId) (hs : P.underlying src = some (.slice e)) (he : P.underlying e = some (.int .u8)) (hd : P.underlying dst = some .string) (D : Nat) (x y : UInt8) (W : World)
    (h0 : W.cell? ⟨D, 0, none⟩ = some (.int .u8 (x.toNat : Int))) (h1 : W.cell? ⟨D, 1, none⟩ = some (.int .u8 (y.toNat : Int))) :
    (convert src dst (.slice (some ⟨D, 0, none⟩) 2 2)).run P W = .ok (.string (S.mk [x, y])) W :=
  run_convert_bytes_back W src dst e ⟨D, 0, none⟩ 2 [x, y] hs he hd (fun j hj => by
    match j, hj with
    | 0, _ => exact h0
    | 1, _ => exact h1)
theorem fr_is (s : ByteArray) (x y : UInt8) : (({ data := #[36] } : ByteArray) ++ s ++ { data := #[42] }) ++ S.mk [x, y] = S.mk (36 :: (S.lst s ++ [42, x, y])) := by
  apply S.ext
  rw [S.lst_append, S.lst_append, S.lst_append, S.lst_mk, S.lst_mk]
  have h1 : S.lst { data := #[36] } = [36] := rfl
  have h2 : S.lst { data := #[42] } = [42] := rfl
  rw [h1, h2]; simp
theorem frameB_impl (s : ByteArray) (hs : s.size ≤ maxLen) (w : World) : Calls Tryz.prog 32 #[.string s] w fun e w' => e = .returned (.string (S.frame s)) ∧ Below w.heap.size w w' := by
  have C := csum_impl s hs w
  rcases hb : S.body s with _ | _
  · rw [S.csum_no hb] at C
    rw [S.frame_no hb]
    have HC := Lib.hid C
    clear C
    go_enter Tryz.func32, Tryz.ntmps32
    go_wp2_with (go_at_call 58; refine HC.out.mono ?_; rintro e w' ⟨rfl, rfl⟩)
    go_ret
    exact ⟨rfl, Below.refl _ _⟩
  · rw [S.csum_yes hb] at C
    rw [S.frame_yes hb]
    have hx := S.xs_ok hb
    have hz := (S.body_of hb).1
    have HC := Lib.hid C
    clear C hb
    generalize hX : S.xs s = x at *
    have HX := Lib.hid hX
    clear hX
    go_enter Tryz.func32, Tryz.ntmps32
    go_wp2_with (go_at_call 58; refine HC.out.mono ?_; rintro e w' ⟨rfl, rfl⟩)
    have i1 := fun W => run_hex (P := Tryz.prog) 9 Tryz.underlying9 (x / 16) (by omega) ((x : Int) / 16) (by omega) W
    have i2 := fun W => run_hex (P := Tryz.prog) 9 Tryz.underlying9 (x % 16) (by omega) ((x : Int) % 16) (by omega) W
    have n1 : ¬ (9223372036854775807 : Int) < 1 + (s.size : Int) := by omega
    have i3 := run_two (P := Tryz.prog) 22 9 5 Tryz.underlying22 Tryz.underlying5 Tryz.underlying9 w.heap.size (S.hexd (x / 16)) (S.hexd (x % 16)) (w.alloc (.cells #[.int .u8 ((S.hexd (x / 16)).toNat : Int), .int .u8 ((S.hexd (x % 16)).toNat : Int)] 5)).drew (by simp) (by simp)
    have n2 : (S.mk [S.hexd (x / 16), S.hexd (x % 16)]).size = 2 := S.size_mk _
    go_region
    go_wp2
    go_ret
    exact ⟨ret_str (by rw [fr_is]; unfold S.fr; rw [HX.out]), ((Below.refl _ _).alloc (Nat.le_refl _) _).drew⟩
set_option maxHeartbeats 1000000 in
theorem body_spec (s : ByteArray) (hs : s.size ≤ maxLen) (w : World) : Calls Tryz.prog 64 #[.string s] w fun e w' => e = .returned (.bool (S.body s)) ∧ w = w' := by
  unfold maxLen at hs
  go_enter Tryz.func64, Tryz.ntmps64
  go_wp2
  go_loop [3] (fun i => ∃ k : Nat, k ≤ s.size ∧ S.okTo s k ∧ i = .int .i64 k) (fun i => s.size - (intOf i).toNat)
  case atStart => exact ⟨0, Nat.zero_le _, fun i hi => absurd hi (by omega), rfl⟩
  case round =>
    obtain ⟨k, hk, hok, rfl⟩ := hrel
    have HO := Lib.hid hok
    clear hok
    by_cases hlt : k < s.size
    · have hat := S.at_get s k
      have hb := S.at_lt s k
      rcases inR_cases (S.at_ s k : Int) 32 126 with ⟨r0, r1⟩ | ⟨r0, r1⟩
      · by_cases h2 : S.at_ s k = 36
        · have g2 : ((S.at_ s k : Int) == 36) = true := by rw [beq_iff_eq]; omega
          have H2 := Lib.hid h2
          clear h2
          go_wp2_with (first | (go_at_call 39; refine (inR_spec _ _ _ _).mono ?_; rintro e w' ⟨rfl, rfl⟩))
          go_ret
          exact ⟨ret_bool (S.body_bad k hlt (fun h => h.2.2.1 H2.out)).symm, rfl⟩
        · have g2 : ((S.at_ s k : Int) == 36) = false := by rw [beq_eq_false_iff_ne]; omega
          by_cases h3 : S.at_ s k = 42
          · have g3 : ((S.at_ s k : Int) == 42) = true := by rw [beq_iff_eq]; omega
            have H3 := Lib.hid h3
            clear h2 h3
            go_wp2_with (first | (go_at_call 39; refine (inR_spec _ _ _ _).mono ?_; rintro e w' ⟨rfl, rfl⟩))
            go_ret
            exact ⟨ret_bool (S.body_bad k hlt (fun h => h.2.2.2 H3.out)).symm, rfl⟩
          · have g3 : ((S.at_ s k : Int) == 42) = false := by rw [beq_eq_false_iff_ne]; omega
            have HK := Lib.hid (show S.okN (S.at_ s k) from ⟨by omega, by omega, h2, h3⟩)
            clear h2 h3
            go_wp2_with (first | (go_at_call 39; refine (inR_spec _ _ _ _).mono ?_; rintro e w' ⟨rfl, rfl⟩))
            go_round
            case rel => exact ⟨k + 1, by omega, S.okTo_succ HO.out HK.out, by go_num⟩
            case measure => simp [intOf]; omega
      · go_wp2_with (first | (go_at_call 39; refine (inR_spec _ _ _ _).mono ?_; rintro e w' ⟨rfl, rfl⟩))
        go_ret
        exact ⟨ret_bool (S.body_bad k hlt (fun h => r1 ⟨by have := h.1; omega, by have := h.2.1; omega⟩)).symm, rfl⟩
    · obtain rfl : k = s.size := by omega
      rcases inR_cases (s.size : Int) 1 40 with ⟨r0, r1⟩ | ⟨r0, r1⟩
      · go_wp2_with (first | (go_at_call 39; refine (inR_spec _ _ _ _).mono ?_; rintro e w' ⟨rfl, rfl⟩))
        go_ret
        exact ⟨ret_bool (S.body_yes (by omega) (by omega) HO.out).symm, rfl⟩
      · go_wp2_with (first | (go_at_call 39; refine (inR_spec _ _ _ _).mono ?_; rintro e w' ⟨rfl, rfl⟩))
        go_ret
        exact ⟨ret_bool (S.body_long (by omega)).symm, rfl⟩
theorem xs_spec (s : ByteArray) (hs : s.size ≤ maxLen) (w : World) : Calls Tryz.prog 65 #[.string s] w fun e w' => e = .returned (.int .i64 (S.xs s)) ∧ w = w' := by
  unfold maxLen at hs
  go_enter Tryz.func65, Tryz.ntmps65
  go_wp2
  go_loop [3, 4] (fun x i => ∃ k : Nat, k ≤ s.size ∧ i = .int .i64 k ∧ x = .int .i64 (S.xorTo s k)) (fun _ i => s.size - (intOf i).toNat)
  case atStart => exact ⟨0, Nat.zero_le _, rfl, rfl⟩
  case round =>
    obtain ⟨k, hk, rfl, rfl⟩ := hrel
    by_cases hlt : k < s.size
    · have hat := S.at_get s k
      have hb := S.at_lt s k
      have hx := S.xorTo_lt s k
      have hxor : bits .xor .i64 (S.xorTo s k : Int) (S.at_ s k : Int) = (S.xorTo s (k + 1) : Int) := i64_xor _ _ (by omega) (by omega)
      go_wp2
      go_round
      case rel => exact ⟨k + 1, by omega, by go_num, rfl⟩
      case measure => simp [intOf]; omega
    · obtain rfl : k = s.size := by omega
      go_wp2
      go_ret
      exact ⟨rfl, rfl⟩
theorem hex_spec (n : Nat) (hn : n < 16) (z : Int) (hz : z = n) (w : World) : Calls Tryz.prog 66 #[.int .i64 z] w fun e w' => e = .returned (.string (S.mk [S.hexd n])) ∧ w = w' := by
  subst hz
  have hsl : ∀ W : World, (Instr.slice 9 (.string { data := #[48, 49, 50, 51, 52, 53, 54, 55, 56, 57, 65, 66, 67, 68, 69, 70] }) (some (.int .i64 (n : Int))) (some (.int .i64 ((n : Int) + 1))) none).run Tryz.prog W = .ok (.string (S.mk [S.hexd n])) W := fun W => by
    have h := run_slice_string (P := Tryz.prog) W 9 hexS .i64 .i64 (n : Int) ((n : Int) + 1) Tryz.underlying9 (by omega) (by omega) (show ((n : Int) + 1) ≤ ((16 : Nat) : Int) by omega)
    have h' : ∀ m, m < 16 → (hexS.extract m (m + 1)) = S.mk [S.hexd m] := by decide
    rw [show ((n : Int)).toNat = n from rfl, show ((n : Int) + 1).toNat = n + 1 from by omega, h' n hn] at h
    exact h
  go_enter Tryz.func66, Tryz.ntmps66
  go_wp2
  go_ret
  exact ⟨rfl, rfl⟩
theorem frameB_spec (s : ByteArray) (hs : s.size ≤ maxLen) (w : World) : Calls Tryz.prog 36 #[.string s] w fun e w' => e = .returned (.string (S.frame s)) ∧ w = w' := by
  rcases hb : S.body s with _ | _
  · rw [S.frame_no hb]
    go_enter Tryz.func36, Tryz.ntmps36
    go_wp2_with (go_at_call 64; refine (body_spec _ hs _).mono ?_; rintro e w' ⟨rfl, rfl⟩)
    go_ret
    exact ⟨rfl, rfl⟩
  · rw [S.frame_yes hb]
    have hx := S.xs_ok hb
    have hz := (S.body_of hb).1
    have C := xs_spec s hs w
    generalize hX : S.xs s = x at *
    have HX := Lib.hid hX
    have HC := Lib.hid C
    have n1 : ¬ (9223372036854775807 : Int) < 1 + (s.size : Int) := by omega
    have n2 : (S.mk [S.hexd (x / 16)]).size = 1 := S.size_mk _
    have n3 : (S.mk [S.hexd (x % 16)]).size = 1 := S.size_mk _
    clear hX C
    go_enter Tryz.func36, Tryz.ntmps36
    go_wp2_with (first | (go_at_call 64; refine (body_spec _ hs _).mono ?_; rintro e w' ⟨rfl, rfl⟩) | (go_at_call 65; refine HC.out.mono ?_; rintro e w' ⟨rfl, rfl⟩) | (go_at_call 66; (with_reducible refine (hex_spec (x / 16) (by omega) ((x : Int) / 16) (by omega) _).mono ?_); rintro e w' ⟨rfl, rfl⟩) | (go_at_call 66; (with_reducible refine (hex_spec (x % 16) (by omega) ((x : Int) % 16) (by omega) _).mono ?_); rintro e w' ⟨rfl, rfl⟩))
    go_ret
    exact ⟨ret_str (by
      apply S.ext
      unfold S.fr
      rw [HX.out]
      simp only [S.lst_append, S.lst_mk]
      have h1 : S.lst { data := #[36] } = [36] := rfl
      have h2 : S.lst { data := #[42] } = [42] := rfl
      rw [h1, h2]; simp), rfl⟩
end Go.Proofs.YtpfdjmffgbbmdaaGreatDoor
