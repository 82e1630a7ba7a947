/-
  The scanner of texts: what it leaves out and what numbers it reads.
-/
import Derived.Test.YtpfdjmffgbbmdaaGreatDoorCal
import Derived.Test.YtpfdjmffgbbmdaaGreatDoorP1
import Derived.Test.YtpfdjmffgbbmdaaGreatDoorRead
import Derived.Test.YtpfdjmffgbbmdaaGreatDoorShelf
import Derived.Laws.Slices
import Derived.Laws.DeepStrings4
import Derived.Laws.Strings3
namespace Go.Proofs.YtpfdjmffgbbmdaaGreatDoor
open Go.RowKit
set_option linter.unusedVariables false
set_option maxRecDepth 100000
/-- A scanner in memory: what is left of its text. -/
structure Sc (w : World) (b : Nat) (l : List UInt8) : Prop where
  c : w.cell? ⟨b, 0, none⟩ = some (.string (S.mk l))
  f : w.frozen? ⟨b, 0, none⟩ = false
  lt : b < w.heap.size
theorem Sc.b {w w' : World} {b : Nat} {l : List UInt8} (h : Sc w b l) (hb : Below w.heap.size w w') : Sc w' b l :=
  ⟨(hb.cell (p := ⟨b, 0, none⟩) h.lt).trans h.c, (hb.frozen (p := ⟨b, 0, none⟩) h.lt).trans h.f, Nat.lt_of_lt_of_le h.lt hb.size⟩
theorem Sc.set {w : World} {b : Nat} {l l' : List UInt8} (h : Sc w b l) : Sc (w.setCell ⟨b, 0, none⟩ (.string (S.mk l'))) b l' :=
  ⟨World.cell?_setCell_same _ _ _ h.c, by simpa using h.f, by simpa using h.lt⟩
theorem skip_any (B b : Nat) (l p : List UInt8) (w : World) (h : Sc w b l) (hB : B ≤ b) : Calls Tryz.prog 115 #[.pointer (some ⟨b, 0, none⟩), .string (S.mk p)] w fun e w' => e = .returned (.tuple #[]) ∧ Sc w' b (Lib.trimPrefix l p) ∧ Below B w w' := by
  have c := h.c
  have f := h.f
  have K := Lib.hid (fun w' => Tryz.strings_TrimPrefix (S.mk l) (S.mk p) w')
  have HS := Lib.hid (h.set (l' := Lib.trimPrefix l p))
  have HB := Lib.hid ((Below.refl B w).setCell (p := ⟨b, 0, none⟩) hB (.string (S.mk (Lib.trimPrefix l p))))
  have hq : (⟨(Lib.trimPrefix (S.mk l).data.toList (S.mk p).data.toList).toArray⟩ : ByteArray) = S.mk (Lib.trimPrefix l p) := by
    have e1 : (S.mk l).data.toList = l := S.lst_mk l
    have e2 : (S.mk p).data.toList = p := S.lst_mk p
    rw [e1, e2]; rfl
  have HQ := Lib.hid hq
  clear hq h
  go_enter Tryz.func115, Tryz.ntmps115
  go_wp2_with fail
  refine (K.out _).mono ?_
  rintro e w1 ⟨rfl, rfl⟩
  rw [HQ.out]
  go_wp2
  go_end0
  exact ⟨rfl, HS.out, HB.out⟩
theorem isd_impl (c : Nat) (hc : c < 256) (w : World) : Calls Tryz.prog 100 #[.int .u8 c] w fun e w' => e = .returned (.bool (decide (48 ≤ c ∧ c ≤ 57))) ∧ w = w' := by
  by_cases h0 : 48 ≤ c
  · by_cases h1 : c ≤ 57
    · have e : decide (48 ≤ c ∧ c ≤ 57) = true := decide_eq_true ⟨h0, h1⟩
      rw [e]
      clear e
      go_enter Tryz.func100, Tryz.ntmps100
      go_wp2
      go_ret
      exact ⟨ret_bool (by first | rfl | (simp; done) | (simp; omega)), rfl⟩
    · have e : decide (48 ≤ c ∧ c ≤ 57) = false := decide_eq_false (fun h => h1 h.2)
      have g1 : decide ((c : Int) ≤ 57) = false := decide_eq_false (by omega)
      rw [e]
      clear e h1
      go_enter Tryz.func100, Tryz.ntmps100
      go_wp2
      go_ret
      exact ⟨ret_bool (by first | rfl | (simp; done) | (simp; omega)), rfl⟩
  · have e : decide (48 ≤ c ∧ c ≤ 57) = false := decide_eq_false (fun h => h0 h.1)
    have g1 : decide ((48 : Int) ≤ c) = false := decide_eq_false (by omega)
    rw [e]
    clear e h0
    go_enter Tryz.func100, Tryz.ntmps100
    go_wp2
    go_ret
    exact ⟨ret_bool (by first | rfl | (simp; done) | (simp; omega)), rfl⟩
set_option maxHeartbeats 2000000 in
theorem number_any (B b k : Nat) (l : List UInt8) (w : World) (h : Sc w b l) (hB : B ≤ b) (hk : k ≤ 10) (hl : l.length ≤ 1048576) : Calls Tryz.prog 80 #[.pointer (some ⟨b, 0, none⟩), .int .i64 (k : Int)] w fun e w' => e = .returned (.int .i64 ((X.num k 0 l).1 : Int)) ∧ Sc w' b (X.num k 0 l).2 ∧ Below B w w' := by
  have hpw : 10 ^ k ≤ 10 ^ 10 := Nat.pow_le_pow_right (by omega) hk
  have hpw2 : (10 : Nat) ^ 10 = 10000000000 := by decide
  go_enter Tryz.func80, Tryz.ntmps80
  go_wp2
  go_loopw [1, 5] (fun d x wr => ∃ (j n : Nat) (t : List UInt8), d = .int .i64 (j : Int) ∧ x = .int .i64 (n : Int) ∧ X.num k 0 l = X.num j n t ∧ (n + 1) * 10 ^ j ≤ 10 ^ k ∧ t.length ≤ 1048576 ∧ Sc wr b t ∧ Below B w wr) (fun d _ _ => (intOf d).toNat)
  case atStart => exact ⟨k, 0, l, rfl, rfl, rfl, by omega, hl, h, Below.refl _ _⟩
  case round =>
    obtain ⟨j, n, t, rfl, rfl, he, hn, ht, hS, hb⟩ := hrel
    have hnb : n + 1 ≤ 10 ^ k := Nat.le_trans (by have := Nat.one_le_pow j 10 (by omega); exact Nat.le_mul_of_pos_right _ (by omega)) hn
    have HHE := Lib.hid he
    have HHN := Lib.hid hn
    have HHB := Lib.hid hb
    have HSC := Lib.hid hS
    have hn10 : n ≤ 10000000000 := by omega
    have hj : j ≤ 10 ∨ 10 < j := by omega
    clear he hn hb hnb hpw hpw2
    rcases j with _ | j
    · clear hS
      go_wp2
      go_ret
      have e : X.num k 0 l = (n, t) := HHE.out
      rw [e]
      exact ⟨rfl, HSC.out, HHB.out⟩
    · have hj1 : j + 1 ≤ 10 := by
        rcases Nat.lt_or_ge 10 (j + 1) with h9 | h9
        · exfalso
          have h8 := HHN.out
          have h7 : 10 ^ 11 ≤ 10 ^ (j + 1) := Nat.pow_le_pow_right (by omega) (by omega)
          have h6 : 10 ^ k ≤ 10 ^ 10 := Nat.pow_le_pow_right (by omega) hk
          have h5 : 10 ^ (j + 1) ≤ (n + 1) * 10 ^ (j + 1) := Nat.le_mul_of_pos_left _ (by omega)
          have h4 : (10 : Nat) ^ 10 < 10 ^ 11 := by decide
          omega
        · exact h9
      have c := hS.c
      have f := hS.f
      clear hS hj
      rcases t with _ | ⟨x, t'⟩
      · have g0 : ((S.mk ([] : List UInt8)).toList == []) = true := by rw [Go.ByteArray.toList_eq]; rfl
        have g1 : ((S.mk ([] : List UInt8)).toList == ({ data := #[] } : ByteArray).toList) = true := beq_str _ _ rfl
        have HQ := Lib.hid (X.num_nil (j + 1) n)
        generalize S.mk ([] : List UInt8) = T at *
        go_wp2
        go_ret
        have e : X.num k 0 l = (n, []) := HHE.out.trans HQ.out
        rw [e]
        exact ⟨rfl, HSC.out, HHB.out⟩
      · have hsz : (S.mk (x :: t')).size = t'.length + 1 := by rw [S.size_mk]; rfl
        have g0 : ((S.mk (x :: t')).toList == []) = false := by rw [Go.ByteArray.toList_eq]; rfl
        have g1 : ((S.mk (x :: t')).toList == ({ data := #[] } : ByteArray).toList) = false := bne_str _ _ (fun e => by rw [e] at hsz; simp [ByteArray.size] at hsz)
        have hat : ∀ h, ((S.mk (x :: t'))[0]'h).toNat = x.toNat := fun h => by rw [S.at_get]; rw [S.at_mk]; rfl
        have hxb := UInt8.toNat_lt x
        have hxs : (S.mk (x :: t')).extract 1 (t'.length + 1) = S.mk t' := by
          apply S.ext
          rw [S.lst_extract, S.lst_mk, S.lst_mk]
          show t'.take (t'.length + 1 - 1) = t'
          rw [Nat.add_sub_cancel, List.take_length]
        have HSET := Lib.hid (HSC.out.set (l' := t'))
        have hset := (Below.refl B wr).setCell (p := ⟨b, 0, none⟩) hB (.string (S.mk t'))
        have HB2 := Lib.hid (HHB.out.trans hset)
        have HT1 := Lib.hid (show t'.length ≤ 1048576 by simp at ht; omega)
        have ht1 : t'.length ≤ 1048576 := HT1.out
        have hi := fun w' => isd_impl x.toNat (by omega) w'
        have hD : X.isD x = decide (48 ≤ x.toNat ∧ x.toNat ≤ 57) := rfl
        rcases hd : X.isD x with _ | _
        · have HQ := Lib.hid (X.num_no (k := j) (n := n) (l := t') hd)
          rw [← hD, hd] at hi
          have HI := Lib.hid hi
          generalize S.mk (x :: t') = T at *
          generalize x.toNat = q at *
          clear hi hD hd hset ht HSET
          go_wp2_with (go_at_call 100; refine (HI.out _).mono ?_; rintro e w' ⟨rfl, rfl⟩)
          go_ret
          have e : X.num k 0 l = (n, x :: t') := HHE.out.trans HQ.out
          rw [e]
          exact ⟨rfl, HSC.out, HHB.out⟩
        · have hr := X.isD_of hd
          have HQ := Lib.hid (X.num_yes (k := j) (n := n) (l := t') hd)
          have hmul : (10 * n + (x.toNat - 48) + 1) * 10 ^ j ≤ 10 ^ k := by
            refine Nat.le_trans ?_ HHN.out
            rw [Nat.pow_succ, Nat.mul_comm (10 ^ j) 10, ← Nat.mul_assoc]
            exact Nat.mul_le_mul_right _ (by omega)
          have HM := Lib.hid hmul
          rw [← hD, hd] at hi
          have HI := Lib.hid hi
          generalize S.mk (x :: t') = T at *
          generalize hq : x.toNat = q at *
          have HXS := Lib.hid hxs
          have e1 := IntWalk.u8_in ((q : Int) - 48) (by omega)
          clear hi hD hd hset ht hmul hq HSET
          go_wp2_with (go_at_call 100; refine (HI.out _).mono ?_; rintro e w' ⟨rfl, rfl⟩)
          go_roundw
          case rel => exact ⟨j, 10 * n + (q - 48), t', by go_num, by go_num, by rw [HHE.out, HQ.out], HM.out, HT1.out, by first | exact HSC.out.set | (rw [HXS.out]; exact HSC.out.set), by first | exact HB2.out | (rw [HXS.out]; exact HB2.out)⟩
          case measure => simp [intOf]
end Go.Proofs.YtpfdjmffgbbmdaaGreatDoor
