/-
  Marks on labels from any number on; marks on labels that still stand; what the law of labelled pulses keeps from call to call.
-/
import Derived.Test.YtgbbbmljanlogaaMarkLb
import Derived.Test.YtgbbbmljanlogaaLabs
namespace Go.Proofs.Ytgbbbmljanlogaa
open Go.RowKit Go.ChangeShapes Go.WideShapes Go.Deep
set_option linter.unusedVariables false
set_option maxRecDepth 100000
theorem sps_oth {w w' : World} {E B n : Nat} {a : Option Addr} {l : List (Int × Int)} (h : Sps B w a n l) (ho : ∀ b o, b ≠ E → w'.cell? ⟨b, o, none⟩ = w.cell? ⟨b, o, none⟩) (hne : ∀ x, a = some x → x.block ≠ E) : Sps B w' a n l :=
  ⟨h.1, h.2.1, h.2.2.imp_right fun ⟨b, off, e, hb, hc⟩ => ⟨b, off, e, hb, fun i hi => by
    have hn : b ≠ E := hne ⟨b, off, none⟩ e
    rw [ho b _ hn, ho b _ hn]; exact hc i hi⟩⟩
theorem mkV_oth {w w' : World} {E B n c : Nat} {a : Option Addr} (h : MkV w B a n c) (hs : w'.heap.size = w.heap.size) (ho : ∀ b o, b ≠ E → w'.cell? ⟨b, o, none⟩ = w.cell? ⟨b, o, none⟩) (hf : ∀ b o, w'.frozen? ⟨b, o, none⟩ = w.frozen? ⟨b, o, none⟩) (hB : E < B) : MkV w' B a n c := by
  rcases h with h | ⟨g, e, h1, h2, h3⟩
  · exact .inl h
  · exact .inr ⟨g, e, h1, by rw [hs]; exact h2, fun i hi => ⟨by obtain ⟨x, hx⟩ := (h3 i hi).1; exact ⟨x, (ho g i (by omega)).trans hx⟩, (hf g i).trans (h3 i hi).2⟩⟩
/-- Something was written into the first k cells of a block. -/
structure Wo (w w' : World) (E k : Nat) : Prop where
  size : w'.heap.size = w.heap.size
  oth : ∀ b o, (b ≠ E ∨ k ≤ o) → w'.cell? ⟨b, o, none⟩ = w.cell? ⟨b, o, none⟩
  fro : ∀ b o, w'.frozen? ⟨b, o, none⟩ = w.frozen? ⟨b, o, none⟩
  bel : ∀ B, B ≤ E → Below B w w'
theorem Wo.refl (w : World) (E : Nat) : Wo w w E 0 := ⟨rfl, fun _ _ _ => rfl, fun _ _ => rfl, fun _ _ => Below.refl _ _⟩
theorem Wo.step {w w' : World} {E k : Nat} (h : Wo w w' E k) (v : Value) : Wo w (w'.setCell ⟨E, k, none⟩ v) E (k + 1) := by
  refine ⟨by simpa using h.size, fun b o hb => ?_, fun b o => by simpa using h.fro b o, fun B hB => (h.bel B hB).setCell (p := ⟨E, k, none⟩) hB _⟩
  rw [World.cell?_setCell_other _ _ _ _ (fun e => by injection e with e1 e2 _; omega)]
  exact h.oth b o (by omega)
set_option maxHeartbeats 4000000 in
theorem markVs (E n cap : Nat) (s : Int) (w : World) (hn : n ≤ 1048576) (hs0 : 0 ≤ s) (hs : s ≤ 1048577) (hc : ∀ i, i < n * 2 → (∃ x, w.cell? ⟨E, i, none⟩ = some (.int .i64 x)) ∧ w.frozen? ⟨E, i, none⟩ = false) :
    Calls Try.prog 26 #[.slice (some ⟨E, 0, none⟩) n cap, .int .i64 s] w fun e w' => (∃ z : Int, e = .returned (.int .i64 z) ∧ 0 ≤ z) ∧ Wo w w' E (n * 2) := by
  have HC := Lib.hid hc
  clear hc
  go_enter Try.func26, Try.ntmps26
  go_wp2
  go_loopw [1, 5] (fun x y wr => ∃ (k t : Nat) (z : Int), k ≤ n ∧ t = k * 2 ∧ x = .int .i64 z ∧ 0 ≤ z ∧ z ≤ 1048577 + t ∧ y = .int .i64 k ∧ Wo w wr E t) (fun _ y _ => n - (intOf y).toNat)
  case atStart => exact ⟨0, 0, s, Nat.zero_le _, rfl, rfl, hs0, by omega, rfl, Wo.refl _ _⟩
  case round =>
    obtain ⟨k, t, z, hk, ht, rfl, hz0, hz, rfl, hW⟩ := hrel
    by_cases hlt : k < n
    · obtain ⟨⟨x0, hx0⟩, hf0⟩ := HC.out t (by omega)
      obtain ⟨⟨x1, hx1⟩, hf1⟩ := HC.out (t + 1) (by omega)
      have a0 := (hW.oth E t (by omega)).trans hx0
      have f0 := (hW.fro E t).trans hf0
      have f1 := (hW.fro E (t + 1)).trans hf1
      have b1 := (hW.oth E (t + 1) (by omega)).trans hx1
      have s1 := (hW.step (.int .i64 z)).step (.int .i64 (z + 1))
      have e0 : k * 2 = t := ht.symm
      have HS := Lib.hid s1
      have HT := Lib.hid ht
      have htb : t ≤ 2097152 := by omega
      clear hW s1 hx0 hx1 hf0 hf1 ht
      go_wp2
      go_roundw
      case rel => exact ⟨k + 1, t + 1 + 1, z + 1 + 1, by omega, by have := HT.out; omega, by go_num, by omega, by omega, by go_num, HS.out⟩
      case measure => simp [intOf]; omega
    · obtain rfl : k = n := by omega
      have HW := Lib.hid (ht ▸ hW)
      clear hW ht
      go_wp2
      go_ret
      exact ⟨⟨z, rfl, hz0⟩, HW.out⟩
set_option maxHeartbeats 4000000 in
theorem heldV (B n cap : Nat) (a : Option Addr) (w : World) (h : Lst B w a (n * 2) (ups (n * 2))) (hn : n ≤ 1000) :
    Calls Try.prog 27 #[.slice a n cap, .int .i64 1] w fun e w' => e = .returned (.int .i64 ((n : Int) * 2 + 1)) ∧ Same w w' := by
  have H := Lib.hid h
  clear h
  go_enter Try.func27, Try.ntmps27
  go_wp2
  go_loopw [1, 5] (fun x y wr => ∃ (k t : Nat), k ≤ n ∧ t = k * 2 ∧ x = .int .i64 ((t : Int) + 1) ∧ y = .int .i64 k ∧ Same w wr) (fun _ y _ => n - (intOf y).toNat)
  case atStart => exact ⟨0, 0, Nat.zero_le _, rfl, by go_num, rfl, Same.refl _⟩
  case round =>
    obtain ⟨k, t, hk, ht, rfl, rfl, hs⟩ := hrel
    by_cases hlt : k < n
    · obtain ⟨b, off, rfl, hb, hc⟩ := (H.out.same hs).at_ 0 (by omega)
      have c0 := hc t (by omega)
      have c1 := hc (t + 1) (by omega)
      rw [ups_g (by omega)] at c0 c1
      rw [show ((t + 1 : Nat) : Int) + 1 = (t : Int) + 1 + 1 by omega] at c1
      have e0 : k * 2 = t := ht.symm
      have e1 : off + (t + 1) = off + t + 1 := by omega
      rw [e1] at c1
      have HT := Lib.hid ht
      have htb : t ≤ 2097152 := by omega
      clear hc ht e1
      go_wp2
      go_roundw
      case rel => exact ⟨k + 1, t + 1 + 1, by omega, by have := HT.out; omega, by go_num, by go_num, hs⟩
      case measure => simp [intOf]; omega
    · obtain rfl : k = n := by omega
      have HR := Lib.hid (show (t : Int) + 1 = (k : Int) * 2 + 1 by omega)
      clear ht
      go_wp2
      go_ret
      exact ⟨by rw [← HR.out]; rfl, hs⟩
end Go.Proofs.Ytgbbbmljanlogaa
