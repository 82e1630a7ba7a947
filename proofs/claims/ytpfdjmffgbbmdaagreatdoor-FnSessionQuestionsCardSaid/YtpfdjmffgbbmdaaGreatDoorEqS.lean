/-
  How the laws compare, mark and look again at lists of texts.
-/
import Derived.Test.YtpfdjmffgbbmdaaGreatDoorSplit
import Derived.Deep.RegionHeld3
namespace Go.Proofs.YtpfdjmffgbbmdaaGreatDoor
open Go.RowKit
set_option linter.unusedVariables false
set_option maxRecDepth 100000
/-- The world is as it was, but for draws. -/
def Stay (w w' : World) : Prop := ∃ q, w' = w.drewN q
theorem Stay.refl (w : World) : Stay w w := ⟨0, rfl⟩
theorem Stay.drewN {a w : World} (h : Stay a w) (q : Nat) : Stay a (w.drewN q) := by obtain ⟨p, rfl⟩ := h; exact ⟨p + q, by rw [World.drewN_drewN]⟩
theorem Stay.below {B : Nat} {w w' : World} (q : Stay w w') : Below B w w' := by obtain ⟨p, rfl⟩ := q; exact below_drewN (Below.refl _ _) p
theorem Stay.size {w w' : World} (q : Stay w w') : w'.heap.size = w.heap.size := by obtain ⟨k, rfl⟩ := q; rfl
/-- A list of texts that can be read, in blocks below B. -/
def Rd (B : Nat) (w : World) (a : Option Addr) (n : Nat) (T : List ByteArray) : Prop :=
  T.length = n ∧ (n = 0 ∨ ∃ b off, a = some ⟨b, off, none⟩ ∧ b < B ∧ ∀ i, i < n → w.cell? ⟨b, off + i, none⟩ = some (.string (T.getD i ByteArray.empty)))
theorem Rd.at_ {B : Nat} {w : World} {a : Option Addr} {n : Nat} {T : List ByteArray} (h : Rd B w a n T) (i : Nat) (hi : i < n) : ∃ b off, a = some ⟨b, off, none⟩ ∧ b < B ∧ ∀ i, i < n → w.cell? ⟨b, off + i, none⟩ = some (.string (T.getD i ByteArray.empty)) := by
  rcases h.2 with h0 | h0
  · omega
  · exact h0
theorem Rd.keep {B B' : Nat} {w w' : World} {a : Option Addr} {n : Nat} {T : List ByteArray} (h : Rd B w a n T) (hb : Below B' w w') (hB : B ≤ B') : Rd B w' a n T :=
  ⟨h.1, h.2.imp_right fun ⟨b, off, e, hlt, hc⟩ => ⟨b, off, e, hlt, fun i hi => (hb.cell (p := ⟨b, off + i, none⟩) (by show b < B'; omega)).trans (hc i hi)⟩⟩
theorem Rd.drewN {B : Nat} {w : World} {a : Option Addr} {n : Nat} {T : List ByteArray} (h : Rd B w a n T) (q : Nat) : Rd B (w.drewN q) a n T := h
theorem Rd.more {B B' : Nat} {w : World} {a : Option Addr} {n : Nat} {T : List ByteArray} (h : Rd B w a n T) (hB : B ≤ B') : Rd B' w a n T :=
  ⟨h.1, h.2.imp_right fun ⟨b, off, e, hlt, hc⟩ => ⟨b, off, e, by omega, hc⟩⟩
theorem Texts.rd {B : Nat} {w : World} {a : Option Addr} {c : Nat} {T : List ByteArray} (h : Texts B w a c T) : Rd w.heap.size w a T.length T := by
  refine ⟨rfl, ?_⟩
  rcases Nat.eq_zero_or_pos T.length with h0 | h0
  · exact .inl h0
  · obtain ⟨g, x, e, _, hg, _, _⟩ := h.at_ 0 h0
    refine .inr ⟨g, 0, e, hg, fun i hi => ?_⟩
    obtain ⟨g', x', e', _, _, hx, hc⟩ := h.at_ i hi
    rw [e] at e'; injection e' with e'; injection e' with e'
    subst e'
    rw [Nat.zero_add, hc, List.getD_eq_getElem?_getD, hx]; rfl
theorem eqS_15 (B B' n c c' : Nat) (a a' : Option Addr) (T : List ByteArray) (w : World) (h : Rd B w a n T) (h' : Rd B' w a' n T) (hn : n ≤ 1048576) : Calls Tryz.prog 15 #[.slice a n c, .slice a' n c'] w fun e w' => e = .returned (.bool true) ∧ Stay w w' := by
  go_enter Tryz.func15, Tryz.ntmps15
  go_wp2
  go_loopw [5] (fun i wr => ∃ k : Nat, k ≤ n ∧ i = .int .i64 k ∧ Stay w wr) (fun i _ => n - (intOf i).toNat)
  case atStart => exact ⟨0, Nat.zero_le _, rfl, Stay.refl _⟩
  case round =>
    obtain ⟨k, hk, rfl, hs⟩ := hrel
    by_cases hlt : k < n
    · obtain ⟨b, off, rfl, hbb, hc⟩ := (h.keep (hs.below (B := B)) (Nat.le_refl _)).at_ k hlt
      obtain ⟨b', off', rfl, hbb', hc'⟩ := (h'.keep (hs.below (B := B')) (Nat.le_refl _)).at_ k hlt
      have ck := hc k hlt
      have ck' := hc' k hlt
      clear hc hc'
      generalize T.getD k ByteArray.empty = x at ck ck'
      go_wp2
      go_quiet (fail)
      go_wp2
      go_roundw
      case rel => exact ⟨k + 1, by omega, by go_num, hs.drewN _⟩
      case measure => simp [intOf]; omega
    · go_wp2
      go_ret
      exact ⟨rfl, hs⟩
end Go.Proofs.YtpfdjmffgbbmdaaGreatDoor
