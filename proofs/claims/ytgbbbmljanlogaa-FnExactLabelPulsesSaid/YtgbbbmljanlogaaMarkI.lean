/-
  How the laws compare lists of numbers, mark them and look again at them.
-/
import Derived.Test.YtgbbbmljanlogaaCopy
namespace Go.Proofs.Ytgbbbmljanlogaa
open Go.RowKit
set_option linter.unusedVariables false
set_option maxRecDepth 100000
set_option maxHeartbeats 1000000 in
theorem equalInts_any (n c c' B : Nat) (a a' : Option Addr) (l : List Int) (w : World) (h : Lst B w a n l) (h' : Lst B w a' n l) : Calls Try.prog 10 #[.slice a n c, .slice a' n c'] w fun e w' => e = .returned (.bool true) ∧ Same w w' := by
  have hn := h.2.1
  go_enter Try.func10, Try.ntmps10
  go_wp2
  go_loopw [5] (fun i wr => ∃ k : Nat, k ≤ n ∧ i = .int .i64 k ∧ Same w wr) (fun i _ => n - (intOf i).toNat)
  case atStart => exact ⟨0, Nat.zero_le _, rfl, Same.refl _⟩
  case round =>
    obtain ⟨k, hk, rfl, hs⟩ := hrel
    by_cases hlt : k < n
    · obtain ⟨b, off, rfl, hbb, hc⟩ := (h.same hs).at_ k hlt
      obtain ⟨b', off', rfl, hbb', hc'⟩ := (h'.same hs).at_ k hlt
      have ck := hc k hlt
      have ck' := hc' k hlt
      clear hc hc'
      go_wp2
      go_quiet (fail)
      go_wp2
      go_roundw
      case rel => exact ⟨k + 1, by omega, by go_num, hs.drewN _⟩
      case measure => simp [intOf]; omega
    · go_wp2
      go_ret
      exact ⟨rfl, hs⟩
/-- From w to w' the first k numbers of block E have been marked. -/
structure Wi (w w' : World) (E k : Nat) : Prop where
  size : w'.heap.size = w.heap.size
  put : ∀ i, i < k → w'.cell? ⟨E, i, none⟩ = some (.int .i64 ((i : Int) + 1))
  oth : ∀ b o, (b ≠ E ∨ k ≤ o) → w'.cell? ⟨b, o, none⟩ = w.cell? ⟨b, o, none⟩
  fro : ∀ b o, w'.frozen? ⟨b, o, none⟩ = w.frozen? ⟨b, o, none⟩
  bel : ∀ B, B ≤ E → Below B w w'
theorem Wi.refl (w : World) (E : Nat) : Wi w w E 0 := ⟨rfl, fun i h => by omega, fun _ _ _ => rfl, fun _ _ => rfl, fun _ _ => Below.refl _ _⟩
theorem Wi.step {w w' : World} {E k : Nat} {x : Value} (h : Wi w w' E k) (hx : w'.cell? ⟨E, k, none⟩ = some x) : Wi w (w'.setCell ⟨E, k, none⟩ (.int .i64 ((k : Int) + 1))) E (k + 1) := by
  refine ⟨by simpa using h.size, fun i h1 => ?_, fun b o hb => ?_, fun b o => by simpa using h.fro b o, fun B hB => (h.bel B hB).setCell (p := ⟨E, k, none⟩) hB _⟩
  · by_cases hi : i = k
    · subst hi
      exact World.cell?_setCell_same _ _ _ hx
    · rw [World.cell?_setCell_other _ _ _ _ (fun e => hi (by injection e with _ e _; omega))]
      exact h.put i (by omega)
  · rw [World.cell?_setCell_other _ _ _ _ (fun e => by injection e with e1 e2 _; omega)]
    exact h.oth b o (by omega)
theorem Wi.lst {w w' : World} {E k B : Nat} {a : Option Addr} {n : Nat} {l : List Int} (hW : Wi w w' E k) (h : Lst B w a n l) (hne : ∀ x, a = some x → x.block ≠ E) : Lst B w' a n l := by
  refine ⟨h.1, h.2.1, h.2.2.imp_right fun ⟨b, off, e, hb, hc⟩ => ⟨b, off, e, hb, fun i hi => ?_⟩⟩
  rw [hW.oth b (off + i) (.inl (hne _ e))]
  exact hc i hi
/-- The numbers from 1 on. -/
def ups (n : Nat) : List Int := (List.range n).map (fun i : Nat => (i : Int) + 1)
theorem ups_len (n : Nat) : (ups n).length = n := by simp [ups]
theorem ups_g {n i : Nat} (h : i < n) : L.g (ups n) i = (i : Int) + 1 := by
  unfold L.g ups
  rw [List.getD_eq_getElem?_getD, List.getElem?_map, List.getElem?_range h]; rfl
theorem Wi.ups {w w' : World} {E n : Nat} (h : Wi w w' E n) (hn : n ≤ 1048576) (hE : E < w.heap.size) : Lst w'.heap.size w' (some ⟨E, 0, none⟩) n (ups n) :=
  ⟨ups_len n, hn, .inr ⟨E, 0, rfl, by rw [h.size]; exact hE, fun i hi => by rw [Nat.zero_add, ups_g hi]; exact h.put i hi⟩⟩
theorem markI (E n cap : Nat) (w : World) (hn : n ≤ 1048576) (hc : ∀ i, i < n → (∃ x, w.cell? ⟨E, i, none⟩ = some (.int .i64 x)) ∧ w.frozen? ⟨E, i, none⟩ = false) :
    Calls Try.prog 25 #[.slice (some ⟨E, 0, none⟩) n cap, .int .i64 1] w fun e w' => e = .returned (.int .i64 ((n : Int) + 1)) ∧ Wi w w' E n := by
  have HC := Lib.hid hc
  clear hc
  go_enter Try.func25, Try.ntmps25
  go_wp2
  go_loopw [1, 5] (fun x y wr => ∃ k : Nat, k ≤ n ∧ x = .int .i64 ((k : Int) + 1) ∧ y = .int .i64 k ∧ Wi w wr E k) (fun _ y _ => n - (intOf y).toNat)
  case atStart => exact ⟨0, Nat.zero_le _, by go_num, rfl, Wi.refl _ _⟩
  case round =>
    obtain ⟨k, hk, rfl, rfl, hW⟩ := hrel
    by_cases hlt : k < n
    · obtain ⟨⟨x, hx⟩, hfx⟩ := HC.out k hlt
      have hx' := (hW.oth E k (by omega)).trans hx
      have hf' := (hW.fro E k).trans hfx
      have HS := Lib.hid (hW.step hx')
      clear hW hx hfx
      go_wp2
      go_roundw
      case rel => exact ⟨k + 1, by omega, by go_num, by go_num, HS.out⟩
      case measure => simp [intOf]; omega
    · obtain rfl : k = n := by omega
      go_wp2
      go_ret
      exact ⟨rfl, hW⟩
theorem markI0 (w : World) : Calls Try.prog 25 #[.slice none 0 0, .int .i64 1] w fun e w' => e = .returned (.int .i64 1) ∧ Same w w' := by
  go_enter Try.func25, Try.ntmps25
  go_wp2
  go_loopw [1, 5] (fun x y wr => x = .int .i64 1 ∧ y = .int .i64 0 ∧ wr = w) (fun _ _ _ => 0)
  case atStart => exact ⟨rfl, rfl, rfl⟩
  case round =>
    obtain ⟨rfl, rfl, rfl⟩ := hrel
    go_wp2
    go_ret
    exact ⟨rfl, Same.refl _⟩
end Go.Proofs.Ytgbbbmljanlogaa
