/-
  The number that a word is, by the program and by the model.
-/
import Derived.Test.YtpfdjmffgbbmdaaGreatDoorParseF
import Derived.Test.YtpfdjmffgbbmdaaGreatDoorText
import Derived.Test.YtpfdjmffgbbmdaaGreatDoorReadF
import Derived.Test.YtpfdjmffgbbmdaaGreatDoorP1
namespace Go.Proofs.YtpfdjmffgbbmdaaGreatDoor
open Go.RowKit
set_option linter.unusedVariables false
set_option maxRecDepth 100000
theorem wn_impl (l : List UInt8) (hl : l.length ≤ 1048576) (w : World) (hT : Tb w) : Calls Tryz.prog 47 #[.string (S.mk l)] w fun e w' => e = .returned (.int .i64 (X.wn l)) ∧ Below w.heap.size w w' := by
  have hn := X.num_bd 10 0 l
  have K := fun w' b (h : Sc w' b l) (hB : w.heap.size ≤ b) => number_any w.heap.size b 10 l w' h hB (by omega) hl
  have hw : X.wn l = if Lib.decDigits (X.num 10 0 l).1 = l then ((X.num 10 0 l).1 : Int) else -1 := rfl
  obtain ⟨n, hnn⟩ : ∃ n, (X.num 10 0 l).1 = n := ⟨_, rfl⟩
  rw [hnn] at hn hw K
  have hn' : n ≤ 1000000000000 := by omega
  have S0 : Sc (w.alloc (.cells #[.string (S.mk l)] 99)) w.heap.size l := Sc.new _ _ _
  have g0 : Below w.heap.size w (w.alloc (.cells #[.string (S.mk l)] 99)) := (Below.refl _ _).alloc (Nat.le_refl _) _
  have HK := Lib.hid K
  have HT := Lib.hid hT
  clear K hT hnn hn
  by_cases h : Lib.decDigits n = l
  · have g : ((S.mk (Lib.decDigits n)).toList == (S.mk l).toList) = true := beq_str _ _ (by rw [h])
    rw [if_pos h] at hw
    have HW := Lib.hid hw
    clear hw h
    go_enter Tryz.func47, Tryz.ntmps47
    go_wp2_with fail
    refine (HK.out _ _ S0 (Nat.le_refl _)).mono ?_
    rintro e w1 ⟨rfl, _, hb⟩
    have g1 := g0.trans hb
    clear hb g0 S0
    go_wp2_with fail
    refine (itoa_any n hn' _ (HT.out.b g1)).mono ?_
    rintro e w2 ⟨rfl, hb⟩
    have g2 := g1.trans (hb.mono g1.size)
    clear hb g1
    generalize S.mk (Lib.decDigits n) = x at *
    generalize S.mk l = y at *
    go_wp2
    go_ret
    exact ⟨by rw [HW.out]; rfl, g2⟩
  · have g : ((S.mk (Lib.decDigits n)).toList == (S.mk l).toList) = false := bne_str _ _ (fun e => h (by rw [← S.lst_mk (Lib.decDigits n), e, S.lst_mk]))
    rw [if_neg h] at hw
    have HW := Lib.hid hw
    clear hw h
    go_enter Tryz.func47, Tryz.ntmps47
    go_wp2_with fail
    refine (HK.out _ _ S0 (Nat.le_refl _)).mono ?_
    rintro e w1 ⟨rfl, _, hb⟩
    have g1 := g0.trans hb
    clear hb g0 S0
    go_wp2_with fail
    refine (itoa_any n hn' _ (HT.out.b g1)).mono ?_
    rintro e w2 ⟨rfl, hb⟩
    have g2 := g1.trans (hb.mono g1.size)
    clear hb g1
    generalize S.mk (Lib.decDigits n) = x at *
    generalize S.mk l = y at *
    go_wp2
    go_ret
    exact ⟨by rw [HW.out]; rfl, g2⟩
theorem pi_spec (l : List UInt8) (hl : l.length ≤ 1048576) (w : World) : Calls Tryz.prog 51 #[.string (S.mk l)] w fun e w' => e = .returned (.int .i64 (X.wn l)) ∧ Below w.heap.size w w' := by
  have hw := X.wn_rd l
  have hb := X.rd_bd 10 l
  have K := fun w' => rd_spec 10 (by omega) l hl w'
  generalize X.rd 10 l = r at *
  have HK := Lib.hid K
  clear K
  by_cases h0 : r < 0
  · rw [if_neg (by omega)] at hw
    have HW := Lib.hid hw
    clear hw hb
    go_enter Tryz.func51, Tryz.ntmps51
    go_wp2_with (go_at_call 84; refine (HK.out _).mono ?_; rintro e w1 ⟨rfl, rfl⟩)
    go_ret
    exact ⟨by rw [HW.out]; rfl, Below.refl _ _⟩
  · obtain ⟨n, rfl⟩ := Int.eq_ofNat_of_zero_le (show 0 ≤ r by omega)
    have hn : n ≤ 1000000000000 := by omega
    have D := fun w' => dec_spec n hn w'
    rw [show ((n : Nat) : Int).toNat = n by omega] at hw
    have h0' : ¬ ((n : Int) < 0) := by omega
    by_cases h : Lib.decDigits n = l
    · rw [if_pos ⟨by omega, h⟩] at hw
      rw [h] at D
      have HW := Lib.hid hw
      have HD := Lib.hid D
      clear hw hb h0 D h
      go_enter Tryz.func51, Tryz.ntmps51
      go_wp2_with fail
      refine (HK.out _).mono ?_
      rintro e w1 ⟨rfl, rfl⟩
      go_wp2_with fail
      refine (HD.out _).mono ?_
      rintro e w2 ⟨t, rfl, _, ht, b2⟩
      have g : (t.toList == (S.mk l).toList) = true := beq_str _ _ ht.out
      go_wp2
      go_ret
      exact ⟨by rw [HW.out]; rfl, b2⟩
    · rw [if_neg (fun q => h q.2)] at hw
      have HW := Lib.hid hw
      have HD := Lib.hid D
      have HH : Hid (S.mk (Lib.decDigits n) ≠ S.mk l) := Lib.hid (fun e => h (by rw [← S.lst_mk (Lib.decDigits n), e, S.lst_mk]))
      clear hw hb h0 D h
      go_enter Tryz.func51, Tryz.ntmps51
      go_wp2_with fail
      refine (HK.out _).mono ?_
      rintro e w1 ⟨rfl, rfl⟩
      go_wp2_with fail
      refine (HD.out _).mono ?_
      rintro e w2 ⟨t, rfl, _, ht, b2⟩
      have g : (t.toList == (S.mk l).toList) = false := bne_str _ _ (by rw [ht.out]; exact HH.out)
      go_wp2
      go_ret
      exact ⟨by rw [HW.out]; rfl, b2⟩
end Go.Proofs.YtpfdjmffgbbmdaaGreatDoor
