/-
  Marks on lists of numbers of one's own, an empty one too; a copy that is known as one's own.
-/
import Derived.Test.YtgbbbmljanlogaaNums
import Derived.Test.YtgbbbmljanlogaaMarkI
namespace Go.Proofs.Ytgbbbmljanlogaa
open Go.RowKit
set_option linter.unusedVariables false
set_option maxRecDepth 100000
/-- The list can be marked. -/
def Mk (w : World) (B : Nat) (a : Option Addr) (n c : Nat) : Prop := (a = none ∧ n = 0 ∧ c = 0) ∨ ∃ g, a = some ⟨g, 0, none⟩ ∧ B ≤ g ∧ g < w.heap.size ∧ ∀ i, i < n → (∃ x, w.cell? ⟨g, i, none⟩ = some (.int .i64 x)) ∧ w.frozen? ⟨g, i, none⟩ = false
theorem Nums.mk {B : Nat} {w : World} {a : Option Addr} {c : Nat} {l : List Int} (h : Nums B w a c l) : Mk w B a l.length c := by
  rcases h.2 with ⟨hv, hn⟩ | ⟨g, cap, cur, hv, hb, hgg, rest⟩
  · injection hv with e1 e2 e3
    exact .inl ⟨e1, hn, e3⟩
  · injection hv with e1 e2 e3
    subst e1
    refine .inr ⟨g, rfl, hb, (Array.getElem?_eq_some_iff.1 hgg).1, fun i hi => ⟨⟨L.g l i, ?_⟩, World.ownsRow.frozenAt h i⟩⟩
    have := World.ownsRow.cellAt h i (by omega)
    rw [valsC_get l i hi] at this
    exact this
theorem Mk.keep {w w' : World} {B n c : Nat} {a : Option Addr} (h : Mk w B a n c) (hb : Below w.heap.size w w') : Mk w' B a n c := by
  rcases h with h | ⟨g, e, h1, h2, h3⟩
  · exact .inl h
  · exact .inr ⟨g, e, h1, Nat.lt_of_lt_of_le h2 hb.size, fun i hi => ⟨by obtain ⟨x, hx⟩ := (h3 i hi).1; exact ⟨x, (hb.cell (p := ⟨g, i, none⟩) h2).trans hx⟩, (hb.frozen (p := ⟨g, i, none⟩) h2).trans (h3 i hi).2⟩⟩
theorem Mk.same {w w' : World} {B n c : Nat} {a : Option Addr} (h : Mk w B a n c) (q : Same w w') : Mk w' B a n c := h.keep q.below
/-- The list a has been marked. -/
def Wm (w w' : World) (a : Option Addr) (n : Nat) : Prop := (a = none ∧ n = 0 ∧ Same w w') ∨ ∃ g, a = some ⟨g, 0, none⟩ ∧ g < w.heap.size ∧ Wi w w' g n
theorem Wm.lst {w w' : World} {a : Option Addr} {n B : Nat} {a' : Option Addr} {n' : Nat} {l' : List Int} (h : Wm w w' a n) (k : Lst B w a' n' l') (hne : ∀ x g, a' = some x → a = some g → x.block ≠ g.block) : Lst B w' a' n' l' := by
  rcases h with ⟨_, _, q⟩ | ⟨g, rfl, _, hw⟩
  · exact k.same q
  · exact hw.lst k (fun x hx => hne x _ hx rfl)
theorem Wm.below {w w' : World} {a : Option Addr} {n B : Nat} (h : Wm w w' a n) (hB : ∀ g, a = some g → B ≤ g.block) : Below B w w' := by
  rcases h with ⟨_, _, q⟩ | ⟨g, rfl, _, hw⟩
  · exact q.below
  · exact hw.bel B (hB _ rfl)
theorem Wm.size {w w' : World} {a : Option Addr} {n : Nat} (h : Wm w w' a n) : w'.heap.size = w.heap.size := by
  rcases h with ⟨_, _, ⟨p, rfl⟩⟩ | ⟨g, rfl, _, hw⟩
  · rfl
  · exact hw.size
theorem Wm.mk {w w' : World} {a : Option Addr} {n B c m : Nat} {a' : Option Addr} (h : Wm w w' a n) (k : Mk w B a' m c) (hne : ∀ x g, a' = some x → a = some g → x.block ≠ g.block) : Mk w' B a' m c := by
  rcases h with ⟨_, _, q⟩ | ⟨g, rfl, _, hw⟩
  · exact k.same q
  · rcases k with k | ⟨g', rfl, h1, h2, h3⟩
    · exact .inl k
    · have hn : g' ≠ g := hne _ _ rfl rfl
      exact .inr ⟨g', rfl, h1, by rw [hw.size]; exact h2, fun i hi => ⟨by obtain ⟨x, hx⟩ := (h3 i hi).1; exact ⟨x, (hw.oth g' i (.inl hn)).trans hx⟩, (hw.fro g' i).trans (h3 i hi).2⟩⟩
theorem Wm.ups {w w' : World} {a : Option Addr} {n : Nat} (h : Wm w w' a n) (hn : n ≤ 1048576) : Lst w'.heap.size w' a n (ups n) := by
  rcases h with ⟨_, rfl, _⟩ | ⟨g, rfl, hg, hw⟩
  · exact Lst.none_ _ _ _
  · exact hw.ups hn hg
theorem mark_any (w : World) (B n c : Nat) (a : Option Addr) (h : Mk w B a n c) (hn : n ≤ 1048576) : Calls Try.prog 25 #[.slice a n c, .int .i64 1] w fun e w' => e = .returned (.int .i64 ((n : Int) + 1)) ∧ Wm w w' a n := by
  rcases h with ⟨rfl, rfl, rfl⟩ | ⟨g, rfl, h1, h2, h3⟩
  · exact (markI0 w).mono fun e w' ⟨he, q⟩ => ⟨he, .inl ⟨rfl, rfl, q⟩⟩
  · exact (markI g n c w hn h3).mono fun e w' ⟨he, q⟩ => ⟨he, .inr ⟨g, rfl, h2, q⟩⟩
set_option maxHeartbeats 1000000 in
theorem toIntS_own (n c : Nat) (a : Option Addr) (l : List Int) (w : World) (h : Lst w.heap.size w a n l) : Calls Try.prog 21 #[.slice a n c] w fun e w' => e = .returned (.slice (some ⟨w.heap.size, 0, none⟩) n n) ∧ Nums w.heap.size w' (some ⟨w.heap.size, 0, none⟩) n l ∧ Below w.heap.size w w' := by
  obtain ⟨i0, hi0, hz0, hz1, hz2⟩ := info_parts intC_info
  obtain ⟨w1, hrun, own1, hg1⟩ := run_make_full (P := Try.prog) w w.heap.size 23 3 i0 (.int .i64 0) 1 Try.underlying23 hi0 hz0 hz1 .i64 .i64 n (by have := h.2.1; rw [hz2]; omega) (by have := h.2.1; unfold maxLen; omega) (Nat.le_refl _)
  have hl := h.1
  have hn := h.2.1
  rw [show (Value.int IntKind.i64 0).cells = #[.int .i64 0] from rfl, toList_madeCells_one, Nat.mul_one] at own1
  have own1 : w1.ownsRow w.heap.size 3 1 (.slice (some ⟨w.heap.size, 0, none⟩) n n) n (valsC (part l 0)) := by rw [part_zero, hl]; exact own1
  have hb1 : Below w.heap.size w w1 := (Below.refl _ _).grown hg1 (Nat.le_refl _) (fun k hk => by cases hk)
  have HL := Lib.hid hl
  have HO := Lib.hid own1
  have H1 := h.below hb1
  have hsz := hb1.size
  have HB := Lib.hid hb1
  clear hl own1 hi0 hz0 hz1 hz2 hg1 hb1
  go_enter Try.func21, Try.ntmps21
  go_wp2
  go_loopw [4] (fun i wr => ∃ k : Nat, k ≤ n ∧ i = .int .i64 k ∧ wr.ownsRow w.heap.size 3 1 (.slice (some ⟨w.heap.size, 0, none⟩) n n) n (valsC (part l k)) ∧ Lst w.heap.size wr a n l ∧ Below w.heap.size w wr) (fun i _ => n - (intOf i).toNat)
  case atStart => exact ⟨0, Nat.zero_le _, rfl, HO.out, H1, HB.out⟩
  case round =>
    obtain ⟨k, hk, rfl, own, hL, hb⟩ := hrel
    by_cases hlt : k < n
    · obtain ⟨b, off, rfl, hbb, hc⟩ := hL.at_ k hlt
      have ck := hc k hlt
      have hcur := own.cellAt k (by omega)
      rw [valsC_get _ k (by rw [part_len _ _ (by have := HL.out; omega)]; have := HL.out; omega)] at hcur
      have hfr := own.frozenAt k
      have hst := own.stored k (.int .i64 (L.g l k))
      rw [part_set _ _ (by have := HL.out; omega)] at hst
      have hb2 : Below w.heap.size w (wr.setCell ⟨w.heap.size, k, none⟩ (.int .i64 (L.g l k))) := hb.setCell (Nat.le_refl _) _
      have hL2 : Lst w.heap.size (wr.setCell ⟨w.heap.size, k, none⟩ (.int .i64 (L.g l k))) (some ⟨b, off, none⟩) n l := by
        have q : Below w.heap.size wr (wr.setCell ⟨w.heap.size, k, none⟩ (.int .i64 (L.g l k))) := (Below.refl w.heap.size wr).setCell (show w.heap.size ≤ (⟨w.heap.size, k, none⟩ : Addr).block from Nat.le_refl _) _
        exact hL.below q
      have HS := Lib.hid (And.intro hst.1 (And.intro hL2 hb2))
      clear hst hb2 hL2 hc hL
      go_wp2
      go_roundw
      case rel => exact ⟨k + 1, by omega, by go_num, HS.out.1, HS.out.2.1, HS.out.2.2⟩
      case measure => simp [intOf]; omega
    · obtain rfl : k = n := by omega
      have hfin : Nums w.heap.size wr (some ⟨w.heap.size, 0, none⟩) k l := by
        unfold Nums
        rw [HL.out]
        rw [show part l k = l from by have := HL.out; subst this; exact part_all l] at own
        exact own
      have HF := Lib.hid (And.intro hfin hb)
      clear hfin own hL
      go_wp2
      go_ret
      exact ⟨rfl, HF.out⟩
end Go.Proofs.Ytgbbbmljanlogaa
