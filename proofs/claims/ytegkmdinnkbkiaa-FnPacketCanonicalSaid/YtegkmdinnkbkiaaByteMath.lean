/-
  The plain mathematics of bytes: the bytes of a number, the highest one first.
-/
namespace Go.Proofs.Ytegkmdinnkbkiaa.D
set_option linter.unusedVariables false
/-- The number without its k lowest bytes. -/
def cut (v : Int) : Nat → Int
  | 0 => v
  | k + 1 => cut v k / 256
theorem cut_nn {v : Int} (h : 0 ≤ v) : ∀ k, 0 ≤ cut v k
  | 0 => h
  | k + 1 => Int.ediv_nonneg (cut_nn h k) (by omega)
theorem cut_le {v B : Int} (h : 0 ≤ v) (hB : v ≤ B) : ∀ k, cut v k ≤ B
  | 0 => hB
  | k + 1 => by
    have := cut_le h hB k
    have h0 := cut_nn h k
    show cut v k / 256 ≤ B
    omega
/-- The k-th lowest byte. -/
def dg (v : Int) (k : Nat) : Int := cut v k % 256
theorem dg_bd (v : Int) (k : Nat) : 0 ≤ dg v k ∧ dg v k < 256 := by unfold dg; omega
/-- What the first k bytes say. -/
def num (f : Nat → Int) : Nat → Int
  | 0 => 0
  | k + 1 => 256 * num f k + f k
theorem num_bd {f : Nat → Int} (hf : ∀ i, 0 ≤ f i ∧ f i < 256) : ∀ k, 0 ≤ num f k ∧ num f k < 256 ^ k
  | 0 => ⟨Int.le_refl _, by show (0 : Int) < 1; omega⟩
  | k + 1 => by
    have := num_bd hf k
    have h1 := hf k
    show 0 ≤ 256 * num f k + f k ∧ 256 * num f k + f k < 256 ^ (k + 1)
    rw [Int.pow_succ]
    omega
theorem num_cut (v : Int) : ∀ n k, k ≤ n → num (fun i => dg v (n - 1 - i)) k = cut v (n - k) - 256 ^ k * cut v n
  | n, 0, _ => by show (0 : Int) = _; rw [Nat.sub_zero, Int.pow_zero]; omega
  | n, k + 1, h => by
    have ih := num_cut v n k (by omega)
    have e : cut v (n - k) = cut v (n - (k + 1)) / 256 := by
      rw [show n - k = (n - (k + 1)) + 1 by omega]; rfl
    show 256 * num (fun i => dg v (n - 1 - i)) k + dg v (n - 1 - k) = _
    rw [ih, e, Int.pow_succ, show n - 1 - k = n - (k + 1) by omega]
    unfold dg
    have h1 := Int.mul_ediv_add_emod (cut v (n - (k + 1))) 256
    have h2 : 256 * (256 ^ k * cut v n) = 256 ^ k * 256 * cut v n := by rw [Int.mul_comm (256 ^ k) 256, Int.mul_assoc]
    rw [Int.mul_sub, h2]
    omega
/-- The bytes of a number say the number. -/
theorem num_dg {v : Int} {n : Nat} (h : cut v n = 0) : num (fun i => dg v (n - 1 - i)) n = v := by
  rw [num_cut v n n (Nat.le_refl _), Nat.sub_self, h]; show v - _ = v; rw [Int.mul_zero]; omega
end Go.Proofs.Ytegkmdinnkbkiaa.D
