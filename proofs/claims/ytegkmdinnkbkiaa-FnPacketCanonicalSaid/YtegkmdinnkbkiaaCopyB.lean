/-
  The copies of bytes that the exact laws make; the bytes of a code as a function.
-/
import Derived.Test.YtegkmdinnkbkiaaFormatS
import Derived.Test.YtegkmdinnkbkiaaReader
namespace Go.Proofs.Ytegkmdinnkbkiaa
open Go.RowKit
set_option linter.unusedVariables false
set_option maxRecDepth 100000
/-- Bytes that lie in memory, told by a function. -/
theorem bts_of {B n : Nat} {w : World} {a : Option Addr} (h : Codes B w a n) : ∃ f : Nat → Int, Bts B w a n f ∧ ∀ i, 0 ≤ f i ∧ f i < 256 := by
  rcases h with h0 | ⟨b, off, rfl, hb, hall⟩
  · exact ⟨fun _ => 0, .inl h0, fun i => (by show (0 : Int) ≤ 0 ∧ (0 : Int) < 256; omega)⟩
  · refine ⟨fun i => if hi : i < n then Classical.choose (hall i hi) else 0, .inr ⟨b, off, rfl, hb, fun i hi => ?_⟩, fun i => ?_⟩
    · have := Classical.choose_spec (hall i hi)
      simp only [hi, dif_pos]
      exact this.2.2
    · by_cases hi : i < n
      · have := Classical.choose_spec (hall i hi)
        simp only [hi, dif_pos]
        omega
      · simp only [hi, dif_neg, not_false_eq_true]
        omega
theorem Bts.go {w w' : World} {a : Option Addr} {n : Nat} {f : Nat → Int} (h : Bts w.heap.size w a n f) (b : Below w.heap.size w w') : Bts w'.heap.size w' a n f := (h.below b).more b.size
/-- A copy on its way: n bytes in a block G, the first k are told. -/
structure Cp (w0 w : World) (G n k : Nat) (f : Nat → Int) : Prop where
  cell : ∀ j, j < n → (∃ x, w.cell? ⟨G, j, none⟩ = some (.int .u8 x)) ∧ w.frozen? ⟨G, j, none⟩ = false
  told : ∀ j, j < k → w.cell? ⟨G, j, none⟩ = some (.int .u8 (f j))
  lt : G < w.heap.size
  bel : Below w0.heap.size w0 w
  lo : w0.heap.size ≤ G
theorem Cp.step {w0 w : World} {G n k : Nat} {f : Nat → Int} (h : Cp w0 w G n k f) (hk : k < n) : Cp w0 (w.setCell ⟨G, k, none⟩ (.int .u8 (f k))) G n (k + 1) f := by
  obtain ⟨⟨x, hx⟩, _⟩ := h.cell k hk
  refine ⟨fun j hj => ⟨?_, by simpa using (h.cell j hj).2⟩, fun j hj => ?_, by simpa using h.lt, h.bel.setCell (p := ⟨G, k, none⟩) h.lo _, h.lo⟩
  · by_cases e : j = k
    · subst e; exact ⟨_, World.cell?_setCell_same _ _ _ hx⟩
    · rw [World.cell?_setCell_other _ _ _ _ (fun q => e (by injection q with _ q _; exact q.symm))]
      exact (h.cell j hj).1
  · by_cases e : j = k
    · subst e; exact World.cell?_setCell_same _ _ _ hx
    · rw [World.cell?_setCell_other _ _ _ _ (fun q => e (by injection q with _ q _; exact q.symm))]
      exact h.told j (by omega)
set_option maxHeartbeats 2000000 in
theorem toByteS_any (n c : Nat) (a : Option Addr) (f : Nat → Int) (w : World) (h : Bts w.heap.size w a n f) (hn : n ≤ 1048576) : Calls Try.prog 14 #[.slice a n c] w fun e w' => e = .returned (.slice (some ⟨w.heap.size, 0, none⟩) n n) ∧ Bts w'.heap.size w' (some ⟨w.heap.size, 0, none⟩) n f ∧ Below w.heap.size w w' := by
  obtain ⟨i0, hi0, hz0, hz1, hz2⟩ := info_parts u8s_info
  obtain ⟨w1, hrun, own1, hg1⟩ := run_make_full (P := Try.prog) w w.heap.size 22 5 i0 (.int .u8 0) 1 Try.underlying22 hi0 hz0 hz1 .i64 .i64 n (by rw [hz2]; omega) (by unfold maxLen; omega) (Nat.le_refl _)
  rw [show (Value.int IntKind.u8 0).cells = #[.int .u8 0] from rfl, toList_madeCells_one, Nat.mul_one] at own1
  have hb1 : Below w.heap.size w w1 := (Below.refl _ _).grown hg1 (Nat.le_refl _) (fun k hk => by cases hk)
  have hG : 0 < n → w.heap.size < w1.heap.size := fun h0 => by
    obtain ⟨g, cap, e, _, hlt2⟩ := own1.form h0
    injection e with e1 e2 e3
    injection e1 with e1
    injection e1 with e1 _
    rw [e1]; exact hlt2
  have HC := Lib.hid (fun (h0 : 0 < n) => (Cp.mk (fun j hj => ⟨⟨0, by
    have := own1.cellAt j (by omega)
    rw [this, List.getElem?_replicate, if_pos hj]⟩, own1.frozenAt j⟩) (fun j hj => absurd hj (by omega)) (hG h0) hb1 (Nat.le_refl _) : Cp w w1 w.heap.size n 0 f))
  have HB := Lib.hid hb1
  have H1 := h
  clear own1 hi0 hz0 hz1 hz2 hg1 hb1 hG
  go_enter Try.func14, Try.ntmps14
  go_wp2
  go_loopw [4] (fun i wr => ∃ k : Nat, k ≤ n ∧ i = .int .i64 k ∧ (0 < n → Cp w wr w.heap.size n k f) ∧ Below w.heap.size w wr) (fun i _ => n - (intOf i).toNat)
  case atStart => exact ⟨0, Nat.zero_le _, rfl, HC.out, HB.out⟩
  case round =>
    obtain ⟨k, hk, rfl, hC, hb⟩ := hrel
    by_cases hlt : k < n
    · obtain ⟨b, off, rfl, hbb, hc⟩ := (H1.below hb).at_ k hlt
      have hC := hC (by omega)
      have ck := hc k hlt
      obtain ⟨⟨x, hcur⟩, hfr⟩ := hC.cell k hlt
      have hC2 := hC.step hlt
      have HS := Lib.hid (And.intro (fun _ : 0 < n => hC2) hC2.bel)
      clear hC hC2 hc H1 h
      go_wp2
      go_roundw
      case rel => exact ⟨k + 1, by omega, by go_num, HS.out.1, HS.out.2⟩
      case measure => simp [intOf]; omega
    · obtain rfl : k = n := by omega
      have hfin : Bts wr.heap.size wr (some ⟨w.heap.size, 0, none⟩) k f := by
        rcases Nat.eq_zero_or_pos k with h0 | h0
        · exact .inl h0
        · exact .inr ⟨w.heap.size, 0, rfl, (hC h0).lt, fun i hi => by rw [Nat.zero_add]; exact (hC h0).told i hi⟩
      have HF := Lib.hid (And.intro hfin hb)
      clear hfin hC H1
      go_wp2
      go_ret
      exact ⟨rfl, HF.out⟩
theorem toByteS_some (n c : Nat) (a : Option Addr) (f : Nat → Int) (w : World) (h : Bts w.heap.size w a n f) (hn : n ≤ 1048576) : Calls Try.prog 14 #[.slice a n c] w fun e w' => ∃ G, e = .returned (.slice (some ⟨G, 0, none⟩) n n) ∧ Bts w'.heap.size w' (some ⟨G, 0, none⟩) n f ∧ Bts w'.heap.size w' a n f ∧ Below w.heap.size w w' :=
  (toByteS_any n c a f w h hn).mono fun _ _ ⟨e, h1, h2⟩ => ⟨_, e, h1, (h.below h2).more h2.size, h2⟩
end Go.Proofs.Ytegkmdinnkbkiaa
