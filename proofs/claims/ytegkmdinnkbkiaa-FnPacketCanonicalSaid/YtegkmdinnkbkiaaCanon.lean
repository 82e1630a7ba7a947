/-
  The plain mathematics of packets, the way back: the bytes of what bytes say are the bytes.
-/
import Derived.Test.YtegkmdinnkbkiaaParse
namespace Go.Proofs.Ytegkmdinnkbkiaa
set_option linter.unusedVariables false
theorem D.cut_num {f : Nat → Int} (hf : ∀ i, 0 ≤ f i ∧ f i < 256) (n : Nat) : ∀ k, k ≤ n → D.cut (D.num f n) k = D.num f (n - k)
  | 0, _ => rfl
  | k + 1, hk => by
    show D.cut (D.num f n) k / 256 = _
    rw [D.cut_num hf n k (by omega)]
    obtain ⟨m, hm⟩ : ∃ m, n - k = m + 1 := ⟨n - k - 1, by omega⟩
    rw [hm, show n - (k + 1) = m by omega]
    show (256 * D.num f m + f m) / 256 = D.num f m
    have := hf m
    omega
theorem D.dg_num {f : Nat → Int} (hf : ∀ i, 0 ≤ f i ∧ f i < 256) {n k : Nat} (hk : k < n) : D.dg (D.num f n) k = f (n - 1 - k) := by
  unfold D.dg
  rw [D.cut_num hf n k (by omega)]
  obtain ⟨m, hm⟩ : ∃ m, n - k = m + 1 := ⟨n - k - 1, by omega⟩
  rw [hm, show n - 1 - k = m by omega]
  show (256 * D.num f m + f m) % 256 = f m
  have := hf m
  omega
theorem D.fb_of {f : Nat → Int} (hf : ∀ i, 0 ≤ f i ∧ f i < 256) (hv : f 0 / 8 % 8 = 4) (i : Nat) (hi : i < 23) : D.fb (D.pa f) (D.pb f) (D.pc f) (D.pd f) (D.pe f) (D.pf f) (D.pg f) (D.ph f) i = f i := by
  have h0 := hf 0
  have he : ∀ k, k < 2 → D.dg (D.pe f) k = f (3 + (2 - 1 - k)) := fun k hk => D.dg_num (f := fun i => f (3 + i)) (fun i => hf _) hk
  have hF : ∀ k, k < 6 → D.dg (D.pf f) k = f (5 + (6 - 1 - k)) := fun k hk => D.dg_num (f := fun i => f (5 + i)) (fun i => hf _) hk
  have hG : ∀ k, k < 6 → D.dg (D.pg f) k = f (11 + (6 - 1 - k)) := fun k hk => D.dg_num (f := fun i => f (11 + i)) (fun i => hf _) hk
  have hH : ∀ k, k < 6 → D.dg (D.ph f) k = f (17 + (6 - 1 - k)) := fun k hk => D.dg_num (f := fun i => f (17 + i)) (fun i => hf _) hk
  unfold D.fb
  split
  · subst i; unfold D.pa D.pb; omega
  split
  · subst i; rfl
  split
  · subst i; rfl
  split
  · rw [he _ (by omega)]; congr 1; omega
  split
  · rw [hF _ (by omega)]; congr 1; omega
  split
  · rw [hG _ (by omega)]; congr 1; omega
  · rw [hH _ (by omega)]; congr 1; omega
end Go.Proofs.Ytegkmdinnkbkiaa
