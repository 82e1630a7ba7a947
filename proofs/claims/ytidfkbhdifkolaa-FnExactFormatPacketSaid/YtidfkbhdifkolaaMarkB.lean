/-
  How the laws mark bytes and look again at them.
-/
import Derived.Test.YtidfkbhdifkolaaBytes
namespace Go.Proofs.Ytidfkbhdifkolaa
open Go.RowKit
set_option linter.unusedVariables false
set_option maxRecDepth 100000
/-- From w to w' the first k bytes of block E have been marked. -/
structure Wa (w w' : World) (E k : Nat) : Prop where
  size : w'.heap.size = w.heap.size
  put : ∀ i, i < k → w'.cell? ⟨E, i, none⟩ = some (.int .u8 ((i : Int) + 1))
  oth : ∀ b o, (b ≠ E ∨ k ≤ o) → w'.cell? ⟨b, o, none⟩ = w.cell? ⟨b, o, none⟩
  fro : ∀ b o, w'.frozen? ⟨b, o, none⟩ = w.frozen? ⟨b, o, none⟩
  bel : ∀ B, B ≤ E → Below B w w'
theorem Wa.refl (w : World) (E : Nat) : Wa w w E 0 := ⟨rfl, fun i h => by omega, fun _ _ _ => rfl, fun _ _ => rfl, fun _ _ => Below.refl _ _⟩
theorem Wa.step {w w' : World} {E k : Nat} {x : Value} (h : Wa w w' E k) (hx : w'.cell? ⟨E, k, none⟩ = some x) : Wa w (w'.setCell ⟨E, k, none⟩ (.int .u8 ((k : Int) + 1))) E (k + 1) := by
  refine ⟨by simpa using h.size, fun i h1 => ?_, fun b o hb => ?_, fun b o => by simpa using h.fro b o, fun B hB => (h.bel B hB).setCell (p := ⟨E, k, none⟩) hB _⟩
  · by_cases hi : i = k
    · subst hi
      exact World.cell?_setCell_same _ _ _ hx
    · rw [World.cell?_setCell_other _ _ _ _ (fun e => hi (by injection e with _ e _; omega))]
      exact h.put i (by omega)
  · rw [World.cell?_setCell_other _ _ _ _ (fun e => by injection e with e1 e2 _; omega)]
    exact h.oth b o (by omega)
theorem markB (E n cap : Nat) (w : World) (hn : n ≤ 23) (hc : ∀ i, i < n → (∃ x, w.cell? ⟨E, i, none⟩ = some (.int .u8 x)) ∧ w.frozen? ⟨E, i, none⟩ = false) :
    Calls Try.prog 22 #[.slice (some ⟨E, 0, none⟩) n cap, .int .i64 1] w fun e w' => e = .returned (.int .i64 ((n : Int) + 1)) ∧ Wa w w' E n := by
  have HC := Lib.hid hc
  clear hc
  go_enter Try.func22, Try.ntmps22
  go_wp2
  go_loopw [1, 5] (fun x y wr => ∃ k : Nat, k ≤ n ∧ x = .int .i64 ((k : Int) + 1) ∧ y = .int .i64 k ∧ Wa w wr E k) (fun _ y _ => n - (intOf y).toNat)
  case atStart => exact ⟨0, Nat.zero_le _, by go_num, rfl, Wa.refl _ _⟩
  case round =>
    obtain ⟨k, hk, rfl, rfl, hW⟩ := hrel
    by_cases hlt : k < n
    · obtain ⟨⟨x, hx⟩, hfx⟩ := HC.out k hlt
      have hx' := (hW.oth E k (by omega)).trans hx
      have hf' := (hW.fro E k).trans hfx
      have e1 : ((k : Int) + 1) % 256 = (k : Int) + 1 := by omega
      have HS := Lib.hid (hW.step hx')
      clear hW hx hfx
      go_wp2
      go_roundw
      case rel => exact ⟨k + 1, by omega, by go_num, by go_num, HS.out⟩
      case measure => simp [intOf]; omega
    · obtain rfl : k = n := by omega
      go_wp2
      go_ret
      exact ⟨rfl, hW⟩
theorem markB0 (w : World) : Calls Try.prog 22 #[.slice none 0 0, .int .i64 1] w fun e w' => e = .returned (.int .i64 1) ∧ Same w w' := by
  go_enter Try.func22, Try.ntmps22
  go_wp2
  go_loopw [1, 5] (fun x y wr => x = .int .i64 1 ∧ y = .int .i64 0 ∧ wr = w) (fun _ _ _ => 0)
  case atStart => exact ⟨rfl, rfl, rfl⟩
  case round =>
    obtain ⟨rfl, rfl, rfl⟩ := hrel
    go_wp2
    go_ret
    exact ⟨rfl, Same.refl _⟩
theorem heldB (B n cap : Nat) (a : Option Addr) (w : World) (h : Bts B w a n (fun i => (i : Int) + 1)) (hn : n ≤ 23) :
    Calls Try.prog 23 #[.slice a n cap, .int .i64 1] w fun e w' => e = .returned (.int .i64 ((n : Int) + 1)) ∧ Same w w' := by
  go_enter Try.func23, Try.ntmps23
  go_wp2
  go_loopw [1, 5] (fun x y wr => ∃ k : Nat, k ≤ n ∧ x = .int .i64 ((k : Int) + 1) ∧ y = .int .i64 k ∧ Same w wr) (fun _ y _ => n - (intOf y).toNat)
  case atStart => exact ⟨0, Nat.zero_le _, by go_num, rfl, Same.refl _⟩
  case round =>
    obtain ⟨k, hk, rfl, rfl, hs⟩ := hrel
    by_cases hlt : k < n
    · obtain ⟨b, off, rfl, hb, hc⟩ := (h.same hs).at_ k hlt
      have ck := hc k hlt
      have e1 : ((k : Int) + 1) % 256 = (k : Int) + 1 := by omega
      clear hc
      go_wp2
      go_roundw
      case rel => exact ⟨k + 1, by omega, by go_num, by go_num, hs⟩
      case measure => simp [intOf]; omega
    · obtain rfl : k = n := by omega
      go_wp2
      go_ret
      exact ⟨rfl, hs⟩
end Go.Proofs.Ytidfkbhdifkolaa
