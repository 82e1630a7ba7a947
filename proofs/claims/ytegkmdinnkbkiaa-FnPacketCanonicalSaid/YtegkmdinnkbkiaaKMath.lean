/-
  The plain mathematics of clocks (chapter 7).
-/
import Derived.IntWalk
namespace Go.Proofs.Ytegkmdinnkbkiaa.K
set_option linter.unusedVariables false
/-- Go's quotient, and one less where the remainder is below zero: the quotient rounded down. -/
theorem fd_neg (n d : Int) (hd : 1 ≤ d) (h : n.tmod d < 0) : n.tdiv d - 1 = n / d := by
  have h1 := Int.mul_tdiv_add_tmod n d
  have h3 : n = d * (n.tdiv d - 1) + (n.tmod d + d) := by rw [Int.mul_sub, Int.mul_one]; omega
  have hlt : -d < n.tmod d := by
    have := Int.lt_tmod_of_pos n (show 0 < d by omega)
    omega
  have e1 : (d * (n.tdiv d - 1) + (n.tmod d + d)) / d = n.tdiv d - 1 + (n.tmod d + d) / d := Int.mul_add_ediv_left _ _ (by omega)
  have e2 : (n.tmod d + d) / d = 0 := Int.ediv_eq_zero_of_lt (by omega) (by omega)
  rw [← h3, e2] at e1
  omega
theorem fd_nn (n d : Int) (hd : 1 ≤ d) (h : ¬ n.tmod d < 0) : n.tdiv d = n / d := by
  have h1 := Int.mul_tdiv_add_tmod n d
  have hlt : n.tmod d < d := Int.tmod_lt_of_pos n (by omega)
  have e1 : (d * n.tdiv d + n.tmod d) / d = n.tdiv d + n.tmod d / d := Int.mul_add_ediv_left _ _ (by omega)
  have e2 : n.tmod d / d = 0 := Int.ediv_eq_zero_of_lt (by omega) hlt
  rw [h1, e2] at e1
  omega
theorem td_bd (n d : Int) (_ : 1 ≤ d) {b : Int} (hb : -b ≤ n ∧ n ≤ b) : -b ≤ n.tdiv d ∧ n.tdiv d ≤ b := by
  have := Int.natAbs_tdiv_le_natAbs n d
  omega
theorem fd_bd (n d : Int) (hd : 1 ≤ d) {b : Int} (hb : -b ≤ n ∧ n ≤ b) : -b ≤ n / d ∧ n / d ≤ b := by
  constructor
  · exact Int.le_ediv_of_mul_le (by omega) (by
      have : b * 1 ≤ b * d := Int.mul_le_mul_of_nonneg_left hd (by omega)
      rw [Int.neg_mul]; omega)
  · rcases Int.lt_or_le n 0 with h | h
    · have := Int.ediv_neg_of_neg_of_pos h (show 0 < d by omega); omega
    · have := Int.ediv_le_self d h; omega

def vc (o r a : Int) : Bool := decide ((-1000000 ≤ o ∧ o ≤ 1000000) ∧ (-500000 ≤ r ∧ r ≤ 500000) ∧ 0 ≤ a ∧ a ≤ 3786479999)
theorem vc_of {o r a : Int} (h : vc o r a = true) : (-1000000 ≤ o ∧ o ≤ 1000000) ∧ (-500000 ≤ r ∧ r ≤ 500000) ∧ 0 ≤ a ∧ a ≤ 3786479999 := of_decide_eq_true h
theorem vc_yes {o r a : Int} (h : (-1000000 ≤ o ∧ o ≤ 1000000) ∧ (-500000 ≤ r ∧ r ≤ 500000) ∧ 0 ≤ a ∧ a ≤ 3786479999) : vc o r a = true := decide_eq_true h
theorem vc_no {o r a : Int} (h : ¬ ((-1000000 ≤ o ∧ o ≤ 1000000) ∧ (-500000 ≤ r ∧ r ≤ 500000) ∧ 0 ≤ a ∧ a ≤ 3786479999)) : vc o r a = false := decide_eq_false h
/-- The last time at which a clock is told. -/
def last (a : Int) : Int := min (a + 100000) 3786479999
theorem last_bd {o r a : Int} (h : vc o r a = true) : a ≤ last a ∧ last a ≤ 3786479999 ∧ last a ≤ a + 100000 := by
  have := vc_of h; unfold last; omega
/-- A clock at a time. -/
def off (o r a t : Int) : Int := o + r * (t - a) / 1000
def told (o r a t : Int) : Bool := decide (vc o r a = true ∧ a ≤ t ∧ t ≤ last a)
theorem told_of {o r a t : Int} (h : told o r a t = true) : vc o r a = true ∧ a ≤ t ∧ t ≤ last a := of_decide_eq_true h
theorem told_yes {o r a t : Int} (h : vc o r a = true ∧ a ≤ t ∧ t ≤ last a) : told o r a t = true := decide_eq_true h
theorem told_no {o r a t : Int} (h : ¬ (vc o r a = true ∧ a ≤ t ∧ t ≤ last a)) : told o r a t = false := decide_eq_false h
def oa (o r a t : Int) : Int := if told o r a t = true then off o r a t else 0
theorem oa_yes {o r a t : Int} (h : told o r a t = true) : oa o r a t = off o r a t := if_pos h
theorem oa_no {o r a t : Int} (h : told o r a t = false) : oa o r a t = 0 := if_neg (by rw [h]; decide)
/-- The product, its quotient, and the offset are of moderate size. -/
theorem mul_bd {x y X Y : Int} (hx : -X ≤ x ∧ x ≤ X) (hy : -Y ≤ y ∧ y ≤ Y) (hX : 0 ≤ X) : -(X * Y) ≤ x * y ∧ x * y ≤ X * Y := by
  have h0 : 0 ≤ Y := by omega
  have a1 : (x * y).natAbs = x.natAbs * y.natAbs := Int.natAbs_mul x y
  have a2 : x.natAbs * y.natAbs ≤ X.natAbs * Y.natAbs := Nat.mul_le_mul (by omega) (by omega)
  have a3 : (X * Y).natAbs = X.natAbs * Y.natAbs := Int.natAbs_mul X Y
  have a4 : 0 ≤ X * Y := Int.mul_nonneg hX h0
  omega
theorem mul_in {r s : Int} (hr : -500000 ≤ r ∧ r ≤ 500000) (hs : -100000 ≤ s ∧ s ≤ 100000) : -50000000000 ≤ r * s ∧ r * s ≤ 50000000000 := by
  have := mul_bd (X := 500000) (Y := 100000) hr hs (by omega); omega
theorem off_bd {o r a t : Int} (ho : -1000000 ≤ o ∧ o ≤ 1000000) (hr : -500000 ≤ r ∧ r ≤ 500000) (hs : -100000 ≤ t - a ∧ t - a ≤ 100000) : -51000000 ≤ off o r a t ∧ off o r a t ≤ 51000000 := by
  have := mul_in hr hs; unfold off; omega
theorem off_told {o r a t : Int} (h : told o r a t = true) : -51000000 ≤ off o r a t ∧ off o r a t ≤ 51000000 := by
  obtain ⟨h1, h2, h3⟩ := told_of h
  have := vc_of h1
  have := last_bd h1
  exact off_bd (by omega) (by omega) (by omega)
def lim (n m : Int) : Int := max (-m) (min n m)
def abs (n : Int) : Int := if n < 0 then -n else n
theorem lim_bd (n : Int) {m : Int} (hm : 0 ≤ m) : -m ≤ lim n m ∧ lim n m ≤ m := by unfold lim; omega
theorem lim_in {n m : Int} (h : -m ≤ n ∧ n ≤ m) : lim n m = n := by unfold lim; omega
def sok (o r a t x : Int) : Bool := decide (told o r a t = true ∧ -1000000 ≤ x ∧ x ≤ 1000000)
theorem sok_of {o r a t x : Int} (h : sok o r a t x = true) : told o r a t = true ∧ -1000000 ≤ x ∧ x ≤ 1000000 := of_decide_eq_true h
theorem sok_yes {o r a t x : Int} (h : told o r a t = true ∧ -1000000 ≤ x ∧ x ≤ 1000000) : sok o r a t x = true := decide_eq_true h
theorem sok_no {o r a t x : Int} (h : ¬ (told o r a t = true ∧ -1000000 ≤ x ∧ x ≤ 1000000)) : sok o r a t x = false := decide_eq_false h
/-- The corrected offset and rate. -/
def co (o x : Int) : Int := if 128000 < abs x then lim (o - x) 1000000 else lim (o - x / 4) 1000000
def cr (r x : Int) : Int := if 128000 < abs x then r else lim (r - x * 1000 / 4096) 500000
def so (o r a t x : Int) : Int := if sok o r a t x = true then co (off o r a t) x else 0
def sr (o r a t x : Int) : Int := if sok o r a t x = true then cr r x else 0
def st (o r a t x : Int) : Int := if sok o r a t x = true then t else 0
theorem s_yes {o r a t x : Int} (h : sok o r a t x = true) : so o r a t x = co (off o r a t) x ∧ sr o r a t x = cr r x ∧ st o r a t x = t := ⟨if_pos h, if_pos h, if_pos h⟩
theorem s_no {o r a t x : Int} (h : sok o r a t x = false) : so o r a t x = 0 ∧ sr o r a t x = 0 ∧ st o r a t x = 0 := ⟨if_neg (by rw [h]; decide), if_neg (by rw [h]; decide), if_neg (by rw [h]; decide)⟩
theorem abs_nn (n : Int) : 0 ≤ abs n := by unfold abs; split <;> omega
theorem co_bd (o x : Int) : -1000000 ≤ co o x ∧ co o x ≤ 1000000 := by
  unfold co
  split
  · exact lim_bd _ (by omega)
  · exact lim_bd _ (by omega)
theorem cr_bd {r : Int} (x : Int) (hr : -500000 ≤ r ∧ r ≤ 500000) : -500000 ≤ cr r x ∧ cr r x ≤ 500000 := by
  unfold cr
  split
  · exact hr
  · exact lim_bd _ (by omega)
/-- A clock that was set is valid. -/
theorem s_vc {o r a t x : Int} (h : sok o r a t x = true) : vc (so o r a t x) (sr o r a t x) (st o r a t x) = true := by
  obtain ⟨y0, y1, y2⟩ := s_yes h
  obtain ⟨h1, h2, h3⟩ := sok_of h
  obtain ⟨k1, k2, k3⟩ := told_of h1
  have := vc_of k1
  have := last_bd k1
  rw [y0, y1, y2]
  exact vc_yes ⟨co_bd _ _, cr_bd _ (by omega), by omega, by omega⟩
/-- Whether a clock nears zero at an offset. -/
def near (o r : Int) : Bool := decide (o < 0 ∧ 0 < r ∨ 0 < o ∧ r < 0)
end Go.Proofs.Ytegkmdinnkbkiaa.K
