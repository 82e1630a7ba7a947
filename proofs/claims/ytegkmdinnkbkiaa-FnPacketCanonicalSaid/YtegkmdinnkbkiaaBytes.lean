/-
  Bytes in memory (chapter 10): a number that is written into bytes, and read out of them.
-/
import Derived.Test.YtegkmdinnkbkiaaLst
import Derived.Test.YtegkmdinnkbkiaaByteMath
import Derived.Below
import Derived.Deep.RegionHeld3
namespace Go.Proofs.Ytegkmdinnkbkiaa
open Go.RowKit
set_option linter.unusedVariables false
set_option maxRecDepth 100000
/-- From w to w' the bytes from place lo on, n of them behind off, are the bytes of v; nothing else has changed. -/
structure Wr (w w' : World) (E off n lo : Nat) (f : Nat → Int) : Prop where
  size : w'.heap.size = w.heap.size
  put : ∀ i, lo ≤ i → i < n → w'.cell? ⟨E, off + i, none⟩ = some (.int .u8 (f i))
  oth : ∀ b o, (b ≠ E ∨ o < off + lo ∨ off + n ≤ o) → w'.cell? ⟨b, o, none⟩ = w.cell? ⟨b, o, none⟩
  fro : ∀ b o, w'.frozen? ⟨b, o, none⟩ = w.frozen? ⟨b, o, none⟩
  bel : ∀ B, B ≤ E → Below B w w'
theorem Wr.refl (w : World) (E off n : Nat) (f : Nat → Int) : Wr w w E off n n f := ⟨rfl, fun i h1 h2 => by omega, fun _ _ _ => rfl, fun _ _ => rfl, fun _ _ => Below.refl _ _⟩
theorem Wr.step {w w' : World} {E off n lo : Nat} {f : Nat → Int} {x : Value} (h : Wr w w' E off n (lo + 1) f) (hn : lo < n) (hx : w'.cell? ⟨E, off + lo, none⟩ = some x) : Wr w (w'.setCell ⟨E, off + lo, none⟩ (.int .u8 (f lo))) E off n lo f := by
  refine ⟨by simpa using h.size, fun i h1 h2 => ?_, fun b o hb => ?_, fun b o => by simpa using h.fro b o, fun B hB => (h.bel B hB).setCell (p := ⟨E, off + lo, none⟩) hB _⟩
  · by_cases hi : i = lo
    · subst hi
      exact World.cell?_setCell_same _ _ _ hx
    · rw [World.cell?_setCell_other _ _ _ _ (fun e => hi (by injection e with _ e _; omega))]
      exact h.put i (by omega) h2
  · rw [World.cell?_setCell_other _ _ _ _ (fun e => by injection e with e1 e2 _; omega)]
    exact h.oth b o (by omega)
theorem u8_wrap (x : Int) : IntKind.u8.wrap x = x % 256 := by simp [IntKind.wrap, IntKind.bits, IntKind.signed]
set_option maxHeartbeats 1000000 in
theorem put_impl (E off n cap : Nat) (v : Int) (w : World) (hv : 0 ≤ v ∧ v ≤ 1000000000000000) (hn : n ≤ 23) (hcap : n ≤ cap)
    (hc : ∀ i, i < n → (∃ x, w.cell? ⟨E, off + i, none⟩ = some (.int .u8 x)) ∧ w.frozen? ⟨E, off + i, none⟩ = false) :
    Calls Try.prog 19 #[.slice (some ⟨E, off, none⟩) n cap, .int .i64 v] w fun e w' => (∃ u, e = .returned u) ∧ Wr w w' E off n 0 (fun i => D.dg v (n - 1 - i)) := by
  have HC := Lib.hid hc
  clear hc
  go_enter Try.func19, Try.ntmps19
  go_wp2
  go_loopw [1, 4] (fun x y wr => ∃ k : Nat, k ≤ n ∧ x = .int .i64 (D.cut v (n - k)) ∧ y = .int .i64 ((k : Int) - 1) ∧ Wr w wr E off n k (fun i => D.dg v (n - 1 - i))) (fun _ y _ => (intOf y + 1).toNat)
  case atStart => exact ⟨n, Nat.le_refl _, by rw [Nat.sub_self]; rfl, by go_num, Wr.refl _ _ _ _ _⟩
  case round =>
    obtain ⟨k, hk, rfl, rfl, hW⟩ := hrel
    by_cases hk0 : 0 < k
    · obtain ⟨j, rfl⟩ : ∃ j, k = j + 1 := ⟨k - 1, by omega⟩
      have hj : j < n := by omega
      obtain ⟨⟨x, hx⟩, hfx⟩ := HC.out j hj
      have hx' := (hW.oth E (off + j) (by omega)).trans hx
      have hf' := (hW.fro E (off + j)).trans hfx
      have hcut := D.cut_nn hv.1 (n - (j + 1))
      have hcut2 := D.cut_le hv.1 hv.2 (n - (j + 1))
      have e1 : IntKind.u8.wrap (D.cut v (n - (j + 1))) = D.dg v (n - 1 - j) := by rw [u8_wrap, show n - (j + 1) = n - 1 - j by omega]; rfl
      have HE := Lib.hid (show D.cut v (n - (j + 1)) / 256 = D.cut v (n - j) by rw [show n - j = (n - (j + 1)) + 1 by omega]; rfl)
      have hjn : (j : Int) < (n : Int) := by omega
      have hi : ((j + 1 : Nat) : Int) - 1 = (j : Int) := by omega
      rw [hi]
      have HS := Lib.hid (hW.step hj hx')
      clear hW hx hfx
      go_wp2
      go_roundw
      case rel => exact ⟨j, by omega, by rw [HE.out], rfl, HS.out⟩
      case measure => simp [intOf] <;> omega
    · obtain rfl : k = 0 := by omega
      go_wp2
      go_end0
      exact ⟨⟨_, rfl⟩, hW⟩
/-- n bytes in memory, in blocks below B. -/
def Bts (B : Nat) (w : World) (a : Option Addr) (n : Nat) (f : Nat → Int) : Prop := n = 0 ∨ ∃ b off, a = some ⟨b, off, none⟩ ∧ b < B ∧ ∀ i, i < n → w.cell? ⟨b, off + i, none⟩ = some (.int .u8 (f i))
theorem Bts.at_ {B : Nat} {w : World} {a : Option Addr} {n : Nat} {f : Nat → Int} (h : Bts B w a n f) (i : Nat) (hi : i < n) : ∃ b off, a = some ⟨b, off, none⟩ ∧ b < B ∧ ∀ i, i < n → w.cell? ⟨b, off + i, none⟩ = some (.int .u8 (f i)) := by
  rcases h with h0 | h0
  · omega
  · exact h0
theorem Bts.below {B : Nat} {w w' : World} {a : Option Addr} {n : Nat} {f : Nat → Int} (h : Bts B w a n f) (hb : Below B w w') : Bts B w' a n f :=
  h.imp_right fun ⟨b, off, e, hlt, hc⟩ => ⟨b, off, e, hlt, fun i hi => (hb.cell (p := ⟨b, off + i, none⟩) hlt).trans (hc i hi)⟩
theorem Bts.more {B B' : Nat} {w : World} {a : Option Addr} {n : Nat} {f : Nat → Int} (h : Bts B w a n f) (hB : B ≤ B') : Bts B' w a n f :=
  h.imp_right fun ⟨b, off, e, hlt, hc⟩ => ⟨b, off, e, by omega, hc⟩
theorem Bts.same {B : Nat} {w w' : World} {a : Option Addr} {n : Nat} {f : Nat → Int} (h : Bts B w a n f) (q : Same w w') : Bts B w' a n f := by obtain ⟨p, rfl⟩ := q; exact h
theorem Bts.part {B b off : Nat} {w : World} {n : Nat} {f : Nat → Int} (h : Bts B w (some ⟨b, off, none⟩) n f) (lo k : Nat) (hk : lo + k ≤ n) : Bts B w (some ⟨b, off + lo, none⟩) k (fun i => f (lo + i)) := by
  rcases Nat.eq_zero_or_pos k with h0 | h0
  · exact .inl h0
  · obtain ⟨b', off', e, hb, hc⟩ := h.at_ 0 (by omega)
    injection e with e; injection e with e1 e2
    subst e1; subst e2
    exact .inr ⟨b, off + lo, rfl, hb, fun i hi => by have := hc (lo + i) (by omega); rwa [show off + (lo + i) = off + lo + i by omega] at this⟩
theorem or_num (n d : Int) (hn : 0 ≤ n ∧ n ≤ 1000000000000000) (hd : 0 ≤ d ∧ d < 256) : bits BinOp.or IntKind.i64 (n * 256) d = 256 * n + d := by
  obtain ⟨a, rfl⟩ := Int.eq_ofNat_of_zero_le hn.1
  obtain ⟨b, rfl⟩ := Int.eq_ofNat_of_zero_le hd.1
  have h1 : (a : Int) * (256 : Int) = ((a <<< 8 : Nat) : Int) := by rw [Nat.shiftLeft_eq]; simp
  have h2 : a <<< 8 % 2 ^ 64 = a <<< 8 := Nat.mod_eq_of_lt (by rw [Nat.shiftLeft_eq]; omega)
  have h3 : b % 2 ^ 64 = b := Nat.mod_eq_of_lt (by omega)
  show IntKind.i64.wrap ((BitVec.ofInt 64 ((a : Int) * 256) ||| BitVec.ofInt 64 (b : Int)).toNat : Int) = _
  rw [h1]
  rw [BitVec.ofInt_natCast, BitVec.ofInt_natCast, BitVec.toNat_or, BitVec.toNat_ofNat, BitVec.toNat_ofNat, h2, h3, ← Nat.shiftLeft_add_eq_or_of_lt (show b < 2 ^ 8 by omega), Nat.shiftLeft_eq]
  rw [IntWalk.i64_in _ (by omega)]
  omega
set_option maxHeartbeats 1000000 in
theorem num_impl (B n cap : Nat) (a : Option Addr) (f : Nat → Int) (w : World) (h : Bts B w a n f) (hn : n ≤ 6) (hf : ∀ i, 0 ≤ f i ∧ f i < 256) :
    Calls Try.prog 22 #[.slice a n cap] w fun e w' => e = .returned (.int .i64 (D.num f n)) ∧ Same w w' := by
  go_enter Try.func22, Try.ntmps22
  go_wp2
  go_loopw [3, 8] (fun x y wr => ∃ k : Nat, k ≤ n ∧ x = .int .i64 (D.num f k) ∧ y = .int .i64 k ∧ Same w wr) (fun _ y _ => n - (intOf y).toNat)
  case atStart => exact ⟨0, Nat.zero_le _, rfl, rfl, Same.refl _⟩
  case round =>
    obtain ⟨k, hk, rfl, rfl, hs⟩ := hrel
    by_cases hlt : k < n
    · obtain ⟨b, off, rfl, hb, hc⟩ := (h.same hs).at_ k hlt
      have ck := hc k hlt
      have hb1 := D.num_bd hf k
      have hfk := hf k
      have hp : (256 : Int) ^ k ≤ 256 ^ 5 := by
        rcases (by omega : k = 0 ∨ k = 1 ∨ k = 2 ∨ k = 3 ∨ k = 4 ∨ k = 5) with rfl | rfl | rfl | rfl | rfl | rfl <;> decide
      have ho := or_num (D.num f k) (f k) ⟨hb1.1, by omega⟩ hfk
      have HD := Lib.hid (show 256 * D.num f k + f k = D.num f (k + 1) from rfl)
      clear hc
      go_wp2
      go_roundw
      case rel => exact ⟨k + 1, by omega, by rw [← HD.out], by go_num, hs⟩
      case measure => simp [intOf]; omega
    · obtain rfl : k = n := by omega
      go_wp2
      go_ret
      exact ⟨rfl, hs⟩
end Go.Proofs.Ytegkmdinnkbkiaa
