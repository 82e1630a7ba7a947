/-
  The copies of lists that the exact laws make, and how they compare them.
-/
import Derived.Test.YtgbbbmljanlogaaLst
import Derived.WalkSpells
import Derived.Deep.AppendLies
namespace Go.Proofs.Ytgbbbmljanlogaa
open Go.RowKit
set_option linter.unusedVariables false
theorem intC_info : (Try.prog.info? 3).map (fun i => (i.zero, i.size, i.bytes)) = some (some (.int .i64 0), 1, 8) := by kernel_rfl
def valsC (l : List Int) : List Value := l.map (Value.int .i64)
theorem valsC_len (l : List Int) : (valsC l).length = l.length := by simp [valsC]
theorem valsC_get (l : List Int) (i : Nat) (h : i < l.length) : (valsC l)[i]? = some (.int .i64 (L.g l i)) := by
  unfold valsC; rw [List.getElem?_map, L.g_get l i h]; rfl
/-- The first k numbers, and zeros behind them. -/
def part (l : List Int) (k : Nat) : List Int := l.take k ++ List.replicate (l.length - k) 0
theorem part_len (l : List Int) (k : Nat) (h : k ≤ l.length) : (part l k).length = l.length := by simp [part]; omega
theorem part_zero (l : List Int) : valsC (part l 0) = List.replicate l.length (.int .i64 0) := by simp [part, valsC]
theorem part_all (l : List Int) : part l l.length = l := by simp [part]
theorem part_set (l : List Int) (k : Nat) (h : k < l.length) : (valsC (part l k)).set k (.int .i64 (L.g l k)) = valsC (part l (k + 1)) := by
  unfold valsC
  rw [← List.map_set]
  congr 1
  unfold part
  rw [List.set_append, if_neg (by rw [List.length_take]; omega), List.length_take, Nat.min_eq_left (by omega), Nat.sub_self]
  rw [show l.length - k = (l.length - (k + 1)) + 1 from by omega, List.replicate_succ, List.set_cons_zero]
  rw [List.take_add_one, L.g_get l k h]
  simp
set_option maxHeartbeats 1000000 in
theorem toIntS_any (n c : Nat) (a : Option Addr) (l : List Int) (w : World) (h : Lst w.heap.size w a n l) : Calls Try.prog 21 #[.slice a n c] w fun e w' => e = .returned (.slice (some ⟨w.heap.size, 0, none⟩) n n) ∧ Lst w'.heap.size w' (some ⟨w.heap.size, 0, none⟩) n l ∧ Below w.heap.size w w' := by
  obtain ⟨i0, hi0, hz0, hz1, hz2⟩ := info_parts intC_info
  obtain ⟨w1, hrun, own1, hg1⟩ := run_make_full (P := Try.prog) w w.heap.size 23 3 i0 (.int .i64 0) 1 Try.underlying23 hi0 hz0 hz1 .i64 .i64 n (by have := h.2.1; rw [hz2]; omega) (by have := h.2.1; unfold maxLen; omega) (Nat.le_refl _)
  have hl := h.1
  have hn := h.2.1
  rw [show (Value.int IntKind.i64 0).cells = #[.int .i64 0] from rfl, toList_madeCells_one, Nat.mul_one] at own1
  have own1 : w1.ownsRow w.heap.size 3 1 (.slice (some ⟨w.heap.size, 0, none⟩) n n) n (valsC (part l 0)) := by rw [part_zero, hl]; exact own1
  have hb1 : Below w.heap.size w w1 := (Below.refl _ _).grown hg1 (Nat.le_refl _) (fun k hk => by cases hk)
  have HL := Lib.hid hl
  have HO := Lib.hid own1
  have H1 := h.below hb1
  have hsz := hb1.size
  have HB := Lib.hid hb1
  clear hl own1 hi0 hz0 hz1 hz2 hg1 hb1
  go_enter Try.func21, Try.ntmps21
  go_wp2
  go_loopw [4] (fun i wr => ∃ k : Nat, k ≤ n ∧ i = .int .i64 k ∧ wr.ownsRow w.heap.size 3 1 (.slice (some ⟨w.heap.size, 0, none⟩) n n) n (valsC (part l k)) ∧ Lst w.heap.size wr a n l ∧ Below w.heap.size w wr) (fun i _ => n - (intOf i).toNat)
  case atStart => exact ⟨0, Nat.zero_le _, rfl, HO.out, H1, HB.out⟩
  case round =>
    obtain ⟨k, hk, rfl, own, hL, hb⟩ := hrel
    by_cases hlt : k < n
    · obtain ⟨b, off, rfl, hbb, hc⟩ := hL.at_ k hlt
      have ck := hc k hlt
      have hcur := own.cellAt k (by omega)
      rw [valsC_get _ k (by rw [part_len _ _ (by have := HL.out; omega)]; have := HL.out; omega)] at hcur
      have hfr := own.frozenAt k
      have hst := own.stored k (.int .i64 (L.g l k))
      rw [part_set _ _ (by have := HL.out; omega)] at hst
      have hb2 : Below w.heap.size w (wr.setCell ⟨w.heap.size, k, none⟩ (.int .i64 (L.g l k))) := hb.setCell (Nat.le_refl _) _
      have hL2 : Lst w.heap.size (wr.setCell ⟨w.heap.size, k, none⟩ (.int .i64 (L.g l k))) (some ⟨b, off, none⟩) n l := by
        have q : Below w.heap.size wr (wr.setCell ⟨w.heap.size, k, none⟩ (.int .i64 (L.g l k))) := (Below.refl w.heap.size wr).setCell (show w.heap.size ≤ (⟨w.heap.size, k, none⟩ : Addr).block from Nat.le_refl _) _
        exact hL.below q
      have HS := Lib.hid (And.intro hst.1 (And.intro hL2 hb2))
      clear hst hb2 hL2 hc hL
      go_wp2
      go_roundw
      case rel => exact ⟨k + 1, by omega, by go_num, HS.out.1, HS.out.2.1, HS.out.2.2⟩
      case measure => simp [intOf]; omega
    · obtain rfl : k = n := by omega
      have hfin : Lst wr.heap.size wr (some ⟨w.heap.size, 0, none⟩) k l := by
        refine ⟨HL.out, hn, ?_⟩
        rcases Nat.eq_zero_or_pos k with h0 | h0
        · exact .inl h0
        · refine .inr ⟨w.heap.size, 0, rfl, ?_, fun i hi => ?_⟩
          · obtain ⟨g, cap, e, _, hlt2⟩ := own.form h0
            injection e with e1 e2 e3
            injection e1 with e1
            injection e1 with e1 _
            rw [e1]; exact hlt2
          · have := own.cellAt i (by omega)
            rw [valsC_get _ i (by rw [part_len _ _ (by have := HL.out; omega)]; have := HL.out; omega)] at this
            rw [Nat.zero_add, this]
            rw [show part l k = l from by have := HL.out; subst this; exact part_all l]
      have HF := Lib.hid (And.intro hfin hb)
      clear hfin own hL
      go_wp2
      go_ret
      exact ⟨rfl, HF.out⟩
theorem lst_same {B : Nat} {w w' : World} {a : Option Addr} {n : Nat} {l : List Int} (h : Lst B w a n l) (hb : Below w.heap.size w w') (hB : B ≤ w.heap.size) : Lst w'.heap.size w' a n l := (h.below (hb.mono hB)).more (Nat.le_trans hB hb.size)
theorem eqIntS_any (n c c' B : Nat) (a a' : Option Addr) (l : List Int) (w : World) (h : Lst B w a n l) (h' : Lst B w a' n l) : Calls Try.prog 24 #[.slice a n c, .slice a' n c'] w fun e w' => e = .returned (.bool true) ∧ Same w w' := by
  have hn := h.2.1
  go_enter Try.func24, Try.ntmps24
  go_wp2
  go_loopw [5] (fun i wr => ∃ k : Nat, k ≤ n ∧ i = .int .i64 k ∧ Same w wr) (fun i _ => n - (intOf i).toNat)
  case atStart => exact ⟨0, Nat.zero_le _, rfl, Same.refl _⟩
  case round =>
    obtain ⟨k, hk, rfl, hs⟩ := hrel
    by_cases hlt : k < n
    · obtain ⟨b, off, rfl, hbb, hc⟩ := (h.same hs).at_ k hlt
      obtain ⟨b', off', rfl, hbb', hc'⟩ := (h'.same hs).at_ k hlt
      have ck := hc k hlt
      have ck' := hc' k hlt
      clear hc hc'
      go_wp2
      go_quiet (fail)
      go_wp2
      go_roundw
      case rel => exact ⟨k + 1, by omega, by go_num, hs.drewN _⟩
      case measure => simp [intOf]; omega
    · go_wp2
      go_ret
      exact ⟨rfl, hs⟩
theorem lst_of {w : World} {a : Option Addr} {len cap : Nat} {zs : List Int}
    (h : (a = none ∧ len = 0 ∧ cap = 0 ∧ zs = []) ∨ ∃ x, a = some x ∧ len ≤ cap ∧ cap ≤ maxLen ∧ zs.length = cap ∧ (∀ i, i < zs.length → w.cell? (x.add i) = some (.int .i64 (zs.getD i 0))) ∧ ∀ n ∈ zs, (Lit.int .i64 n).wf = true)
    (hl : len ≤ 1048576) : ∃ l, Lst w.heap.size w a len l := by
  rcases h with ⟨rfl, rfl, rfl, rfl⟩ | ⟨⟨b, off, spot⟩, rfl, hlc, hm, hz, hcell, hwz⟩
  · exact ⟨[], rfl, by omega, .inl rfl⟩
  · refine ⟨zs.take len, by rw [List.length_take]; omega, hl, ?_⟩
    rcases Nat.eq_zero_or_pos len with h0 | h0
    · exact .inl h0
    · have hc := hcell 0 (by omega)
      have hspot : spot = none := by simpa [Addr.add] using World.cell?_spot hc
      subst hspot
      refine .inr ⟨b, off, rfl, World.block_lt_of_cell? _ _ hc, fun i hi => ?_⟩
      have := hcell i (by omega)
      rw [show (Addr.add ⟨b, off, none⟩ i) = ⟨b, off + i, none⟩ from by unfold Addr.add; split <;> simp_all] at this
      rw [this]
      unfold L.g
      rw [List.getD_eq_getElem?_getD, List.getD_eq_getElem?_getD, List.getElem?_take_of_lt hi]
theorem Lst.keep {w w' : World} {B : Nat} {a : Option Addr} {n : Nat} {l : List Int} (h : Lst B w a n l) (hb : Below w.heap.size w w') (hB : B ≤ w.heap.size) : Lst B w' a n l := h.below (hb.mono hB)
end Go.Proofs.Ytgbbbmljanlogaa
