/-
  The copies of lists that the exact laws make, and how they compare them.
-/
import Derived.Test.YtoaaedbfjbgakaaLst
import Derived.WalkSpells
import Derived.Deep.AppendLies
namespace Go.Proofs.Ytoaaedbfjbgakaa
open Go.RowKit
set_option linter.unusedVariables false
theorem intC_info : (Try.prog.info? 3).map (fun i => (i.zero, i.size, i.bytes)) = some (some (.int .i64 0), 1, 8) := by kernel_rfl
def valsC (l : List Int) : List Value := l.map (Value.int .i64)
theorem valsC_len (l : List Int) : (valsC l).length = l.length := by simp [valsC]
theorem valsC_get (l : List Int) (i : Nat) (h : i < l.length) : (valsC l)[i]? = some (.int .i64 (L.g l i)) := by
  unfold valsC; rw [List.getElem?_map, L.g_get l i h]; rfl
/-- The first k numbers, and zeros behind them. -/
def part (l : List Int) (k : Nat) : List Int := l.take k ++ List.replicate (l.length - k) 0
theorem part_len (l : List Int) (k : Nat) (h : k ≤ l.length) : (part l k).length = l.length := by simp [part]; omega
theorem part_zero (l : List Int) : valsC (part l 0) = List.replicate l.length (.int .i64 0) := by simp [part, valsC]
theorem part_all (l : List Int) : part l l.length = l := by simp [part]
theorem part_set (l : List Int) (k : Nat) (h : k < l.length) : (valsC (part l k)).set k (.int .i64 (L.g l k)) = valsC (part l (k + 1)) := by
  unfold valsC
  rw [← List.map_set]
  congr 1
  unfold part
  rw [List.set_append, if_neg (by rw [List.length_take]; omega), List.length_take, Nat.min_eq_left (by omega), Nat.sub_self]
  rw [show l.length - k = (l.length - (k + 1)) + 1 from by omega, List.replicate_succ, List.set_cons_zero]
  rw [List.take_add_one, L.g_get l k h]
  simp
theorem lst_same {B : Nat} {w w' : World} {a : Option Addr} {n : Nat} {l : List Int} (h : Lst B w a n l) (hb : Below w.heap.size w w') (hB : B ≤ w.heap.size) : Lst w'.heap.size w' a n l := (h.below (hb.mono hB)).more (Nat.le_trans hB hb.size)
theorem lst_of {w : World} {a : Option Addr} {len cap : Nat} {zs : List Int}
    (h : (a = none ∧ len = 0 ∧ cap = 0 ∧ zs = []) ∨ ∃ x, a = some x ∧ len ≤ cap ∧ cap ≤ maxLen ∧ zs.length = cap ∧ (∀ i, i < zs.length → w.cell? (x.add i) = some (.int .i64 (zs.getD i 0))) ∧ ∀ n ∈ zs, (Lit.int .i64 n).wf = true)
    (hl : len ≤ 1048576) : ∃ l, Lst w.heap.size w a len l := by
  rcases h with ⟨rfl, rfl, rfl, rfl⟩ | ⟨⟨b, off, spot⟩, rfl, hlc, hm, hz, hcell, hwz⟩
  · exact ⟨[], rfl, by omega, .inl rfl⟩
  · refine ⟨zs.take len, by rw [List.length_take]; omega, hl, ?_⟩
    rcases Nat.eq_zero_or_pos len with h0 | h0
    · exact .inl h0
    · have hc := hcell 0 (by omega)
      have hspot : spot = none := by simpa [Addr.add] using World.cell?_spot hc
      subst hspot
      refine .inr ⟨b, off, rfl, World.block_lt_of_cell? _ _ hc, fun i hi => ?_⟩
      have := hcell i (by omega)
      rw [show (Addr.add ⟨b, off, none⟩ i) = ⟨b, off + i, none⟩ from by unfold Addr.add; split <;> simp_all] at this
      rw [this]
      unfold L.g
      rw [List.getD_eq_getElem?_getD, List.getD_eq_getElem?_getD, List.getElem?_take_of_lt hi]
theorem Lst.keep {w w' : World} {B : Nat} {a : Option Addr} {n : Nat} {l : List Int} (h : Lst B w a n l) (hb : Below w.heap.size w w') (hB : B ≤ w.heap.size) : Lst B w' a n l := h.below (hb.mono hB)
end Go.Proofs.Ytoaaedbfjbgakaa
