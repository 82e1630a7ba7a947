/-
  The plain mathematics of lines and of lists that are turned around.
-/
import Derived.Test.YtlkcbdcdldndcaaPMath
namespace Go.Proofs.Ytlkcbdcdldndcaa.F
set_option linter.unusedVariables false
/-- The first k of a line. -/
def ln (q : Int) (k : Nat) : List Int := (List.range k).map (fun (i : Nat) => 11 * (i : Int) + q)
theorem ln_len (q : Int) (k : Nat) : (ln q k).length = k := by simp [ln]
theorem ln_snoc (q : Int) (k : Nat) : ln q k ++ [11 * (k : Int) + q] = ln q (k + 1) := by unfold ln; rw [List.range_succ, List.map_append]; rfl
theorem ln_g (q : Int) (k i : Nat) (h : i < k) : L.g (ln q k) i = 11 * (i : Int) + q := by
  unfold L.g ln
  rw [List.getD_eq_getElem?_getD, List.getElem?_map, List.getElem?_range h]; rfl
theorem ln_sl {q : Int} {m : Nat} (hq : 0 ≤ q ∧ q < 50) (h1 : 1 ≤ m) (h2 : m ≤ 15) : sok (ln q (m + 1)) = true ∧ sn (ln q (m + 1)) = 11 := by
  have hok : sok (ln q (m + 1)) = true := by
    refine sok_yes ⟨vp_yes ⟨by rw [ln_len]; omega, fun i hi => ?_⟩, by rw [ln_len]; omega⟩
    rw [ln_len] at hi
    rw [ln_g q _ i hi]; omega
  refine ⟨hok, ?_⟩
  rw [sn_yes hok]
  unfold sl
  rw [ln_len, ln_g q _ _ (by omega), ln_g q _ 0 (by omega)]
  rw [show m + 1 - 1 = m by omega, show ((m + 1 : Nat) : Int) - 1 = (m : Int) by omega]
  rw [show 11 * (m : Int) + q - (11 * ((0 : Nat) : Int) + q) = 11 * (m : Int) by omega]
  exact Int.mul_ediv_cancel _ (by omega)
/-- The last k, turned around. -/
def bk (l : List Int) (k : Nat) : List Int := (List.range k).map (fun i => L.g l (l.length - 1 - i))
theorem bk_len (l : List Int) (k : Nat) : (bk l k).length = k := by simp [bk]
theorem bk_snoc (l : List Int) (k : Nat) : bk l k ++ [L.g l (l.length - 1 - k)] = bk l (k + 1) := by unfold bk; rw [List.range_succ, List.map_append]; rfl
theorem bk_g (l : List Int) (k i : Nat) (h : i < k) : L.g (bk l k) i = L.g l (l.length - 1 - i) := by
  unfold bk
  show (List.map (fun i => L.g l (l.length - 1 - i)) (List.range k)).getD i 0 = _
  rw [List.getD_eq_getElem?_getD, List.getElem?_map, List.getElem?_range h]; rfl
theorem div_neg_ (d m : Int) (hm : 1 ≤ m) : (-d) / m = -(d / m) ∨ (-d) / m = -(d / m) - 1 := by
  have h1 := Int.mul_ediv_add_emod d m
  have h2 := Int.emod_nonneg d (show m ≠ 0 by omega)
  have h3 := Int.emod_lt_of_pos d (show 0 < m by omega)
  by_cases h0 : d % m = 0
  · left
    rw [show -d = m * (-(d / m)) by rw [Int.mul_neg]; omega]
    exact Int.mul_ediv_cancel_left _ (by omega)
  · right
    have e : -d = m * (-(d / m) - 1) + (m - d % m) := by rw [Int.mul_sub, Int.mul_neg]; omega
    rw [e, Int.add_comm, Int.add_mul_ediv_left _ _ (by omega), Int.ediv_eq_zero_of_lt (by omega) (by omega)]
    first | done | omega
theorem bk_sl {l : List Int} {m : Nat} (h : sok l = true) (hl : l.length = m + 1) (h1 : 1 ≤ m) : sok (bk l (m + 1)) = true ∧ (sn (bk l (m + 1)) = -sl l ∨ (sn (bk l (m + 1)) ≠ -sl l ∧ sn (bk l (m + 1)) = -sl l - 1)) := by
  obtain ⟨hv, h2⟩ := sok_of h
  have hvp := vp_of hv
  have hok : sok (bk l (m + 1)) = true := by
    refine sok_yes ⟨vp_yes ⟨by rw [bk_len]; omega, fun i hi => ?_⟩, by rw [bk_len]; omega⟩
    rw [bk_len] at hi
    rw [bk_g l _ i hi]
    exact hvp.2 _ (by omega)
  refine ⟨hok, ?_⟩
  rw [sn_yes hok]
  have e1 : sl (bk l (m + 1)) = (-(L.g l m - L.g l 0)) / (m : Int) := by
    unfold sl
    rw [bk_len, bk_g l _ _ (by omega), bk_g l _ 0 (by omega), hl]
    rw [show m + 1 - 1 - (m + 1 - 1) = 0 by omega, show m + 1 - 1 - 0 = m by omega, show ((m + 1 : Nat) : Int) - 1 = (m : Int) by omega]
    congr 1; omega
  have e2 : sl l = (L.g l m - L.g l 0) / (m : Int) := by unfold sl; rw [hl]; simp
  rw [e1, e2]
  have := div_neg_ (L.g l m - L.g l 0) m (by omega)
  omega
end Go.Proofs.Ytlkcbdcdldndcaa.F
