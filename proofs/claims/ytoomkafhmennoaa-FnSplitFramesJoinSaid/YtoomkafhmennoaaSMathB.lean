/-
  More plain mathematics of sentences: checksums of texts behind each other, in reverse, with one byte changed; the bytes at the end of a sentence. No program is read here.
-/
import Derived.Test.YtoomkafhmennoaaSMath
namespace Go.Proofs.Ytoomkafhmennoaa.S
theorem size_app (a b : ByteArray) : (a ++ b).size = a.size + b.size := by rw [← size_lst, lst_append, List.length_append, size_lst, size_lst]
theorem xorTo_same {a b : ByteArray} : ∀ k, (∀ i, i < k → at_ a i = at_ b i) → xorTo a k = xorTo b k
  | 0, _ => rfl
  | k + 1, h => by
    show xorTo a k ^^^ at_ a k = xorTo b k ^^^ at_ b k
    rw [xorTo_same k (fun i hi => h i (by omega)), h k (by omega)]
theorem xorTo_app (a b : ByteArray) : ∀ k, xorTo (a ++ b) (a.size + k) = xs a ^^^ xorTo b k
  | 0 => by
    rw [Nat.add_zero, xorTo_same a.size (fun i hi => at_append_l a b i hi)]
    show xs a = xs a ^^^ 0
    rw [Nat.xor_zero]
  | k + 1 => by
    show xorTo (a ++ b) (a.size + k) ^^^ at_ (a ++ b) (a.size + k) = xs a ^^^ (xorTo b k ^^^ at_ b k)
    rw [xorTo_app a b k, at_append_r, Nat.xor_assoc]
theorem xs_app (a b : ByteArray) : xs (a ++ b) = xs a ^^^ xs b := by
  unfold xs; rw [size_app]; exact xorTo_app a b b.size
theorem body_app {a b : ByteArray} (ha : body a = true) (hb : body b = true) (h : a.size + b.size ≤ 40) : body (a ++ b) = true := by
  have h1 := body_of ha
  have h2 := body_of hb
  refine body_yes (by rw [size_app]; omega) (by rw [size_app]; omega) (fun i hi => ?_)
  rw [size_app] at hi
  rcases Nat.lt_or_ge i a.size with x | x
  · rw [at_append_l _ _ _ x]; exact h1.2 i x
  · rw [show i = a.size + (i - a.size) from by omega, at_append_r]; exact h2.2 _ (by omega)
/-- A text twice. -/
theorem csum_twice {s : ByteArray} (h : body s = true) : (s.size + s.size ≤ 40 → csum (s ++ s) = 0) ∧ (40 < s.size + s.size → csum (s ++ s) = -1) := by
  constructor
  · intro hs
    rw [csum_yes (body_app h h hs), xs_app, Nat.xor_self]; rfl
  · intro hs
    exact csum_no (body_long (by rw [size_app]; omega))
/-- A text that differs in one byte has another checksum. -/
theorem xorTo_diff {a b : ByteArray} (k N : Nat) (h : ∀ i, i < N → i ≠ k → at_ a i = at_ b i) (hk : at_ a k ≠ at_ b k) : ∀ n, n ≤ N → k < n → xorTo a n ≠ xorTo b n
  | 0, _, hn => absurd hn (by omega)
  | n + 1, hN, hn => by
    intro e
    have e : xorTo a n ^^^ at_ a n = xorTo b n ^^^ at_ b n := e
    rcases Nat.lt_or_ge k n with x | x
    · refine xorTo_diff k N h hk n (by omega) x ?_
      rw [h n (by omega) (by omega)] at e
      have := congrArg (· ^^^ at_ b n) e
      simpa [Nat.xor_assoc] using this
    · obtain rfl : k = n := by omega
      rw [xorTo_same k (fun i hi => h i (by omega) (by omega))] at e
      have := congrArg (xorTo b k ^^^ ·) e
      simp only [← Nat.xor_assoc, Nat.xor_self, Nat.zero_xor] at this
      exact hk this
/-- A byte changed. -/
def put1 (s : ByteArray) (k : Nat) (c : UInt8) : ByteArray := s.extract 0 k ++ mk [c] ++ s.extract (k + 1) s.size
theorem put1_size (s : ByteArray) (k : Nat) (c : UInt8) (h : k < s.size) : (put1 s k c).size = s.size := by
  unfold put1; rw [size_app, size_app, size_mk, ByteArray.size_extract, ByteArray.size_extract]; simp; omega
theorem at_put1 (s : ByteArray) (k : Nat) (c : UInt8) (h : k < s.size) (i : Nat) (hi : i < s.size) : at_ (put1 s k c) i = if i = k then c.toNat else at_ s i := by
  unfold put1
  have hz : (s.extract 0 k).size = k := by rw [ByteArray.size_extract]; omega
  have hz2 : (s.extract 0 k ++ mk [c]).size = k + 1 := by rw [size_app, hz, size_mk]; rfl
  rcases Nat.lt_trichotomy i k with x | x | x
  · rw [if_neg (by omega), at_append_l _ _ _ (by omega), at_append_l _ _ _ (by omega), at_extract _ _ _ _ (by omega), Nat.zero_add]
  · subst x
    rw [if_pos rfl, at_append_l _ _ _ (by omega)]
    have := at_append_r (s.extract 0 i) (mk [c]) 0
    rw [hz, Nat.add_zero] at this
    rw [this, at_mk]; rfl
  · rw [if_neg (by omega)]
    have := at_append_r (s.extract 0 k ++ mk [c]) (s.extract (k + 1) s.size) (i - (k + 1))
    rw [hz2, show k + 1 + (i - (k + 1)) = i from by omega] at this
    rw [this, at_extract _ _ _ _ (by omega), show k + 1 + (i - (k + 1)) = i from by omega]
theorem at_mid (s : ByteArray) (i : Nat) (h : i < s.size - 4) : at_ (mid s) i = at_ s (i + 1) := by
  unfold mid; rw [at_extract _ _ _ _ (by omega), Nat.add_comm]
/-- The digits at the end of a sentence. -/
theorem rd_digits {s : ByteArray} (h : rdB s = true) : at_ s (s.size - 2) = (hexd (xs (mid s) / 16)).toNat ∧ at_ s (s.size - 1) = (hexd (xs (mid s) % 16)).toNat := by
  have h5 := rdB_of h
  have hb := rd_body h
  have hm := mid_size s (by omega)
  have e1 := frame_d1 hb
  have e2 := frame_d2 hb
  rw [h5.2, hm, show s.size - 4 + 2 = s.size - 2 from by omega] at e1
  rw [h5.2, hm, show s.size - 4 + 3 = s.size - 1 from by omega] at e2
  exact ⟨e1, e2⟩
theorem toNat_inj {x y : UInt8} (h : x.toNat = y.toNat) : x = y := UInt8.toNat_inj.1 h
/-- Wrong bytes are found. -/
theorem wrong {s : ByteArray} (h : rdB s = true) (k : Nat) (c : UInt8) (h1 : 1 ≤ k) (h2 : k ≤ s.size - 4) (hc : at_ s k ≠ c.toNat) : rdB (put1 s k c) = false := by
  rcases hr : rdB (put1 s k c) with _ | _
  · rfl
  · exfalso
    have h5 := rdB_of h
    have hks : k < s.size := by omega
    have hz := put1_size s k c hks
    have d := rd_digits h
    have d' := rd_digits hr
    rw [hz, at_put1 _ _ _ hks _ (by omega), at_put1 _ _ _ hks _ (by omega), if_neg (by omega), if_neg (by omega), d.1, d.2] at d'
    have x1 := xs_ok (rd_body h)
    have x2 := xs_ok (rd_body hr)
    have y1 : xs (mid s) / 16 = xs (mid (put1 s k c)) / 16 := hexd_inj (xs (mid s) / 16) (by omega) (xs (mid (put1 s k c)) / 16) (by omega) (toNat_inj d'.1)
    have y2 : xs (mid s) % 16 = xs (mid (put1 s k c)) % 16 := hexd_inj (xs (mid s) % 16) (by omega) (xs (mid (put1 s k c)) % 16) (by omega) (toNat_inj d'.2)
    clear d d'
    have hm : (mid (put1 s k c)).size = (mid s).size := by rw [mid_size _ (by omega), mid_size _ (by omega), hz]
    have hm2 : (mid s).size = s.size - 4 := mid_size s (by omega)
    have e : xs (mid s) = xs (mid (put1 s k c)) := by omega
    unfold xs at e
    rw [hm] at e
    -- compare as far as the middle goes
    have hd : ∀ i, i < (mid s).size → at_ (mid (put1 s k c)) i = if i = k - 1 then c.toNat else at_ (mid s) i := fun i hi => by
      rw [at_mid _ _ (by omega), at_put1 _ _ _ hks _ (by omega), at_mid _ _ (by omega)]
      by_cases q : i = k - 1
      · rw [if_pos q, if_pos (by omega)]
      · rw [if_neg q, if_neg (by omega)]
    refine xorTo_diff (k - 1) (mid s).size (fun i hi hne => ?_) ?_ (mid s).size (Nat.le_refl _) (by omega) e
    · rw [hd i hi, if_neg hne]
    · rw [hd (k - 1) (by omega), if_pos rfl, at_mid _ _ (by omega), show k - 1 + 1 = k from by omega]; exact hc
/-- The exclusive or of a list. -/
def xl : List UInt8 → Nat
  | [] => 0
  | c :: l => c.toNat ^^^ xl l
theorem xl_app (a b : List UInt8) : xl (a ++ b) = xl a ^^^ xl b := by
  induction a with
  | nil => show xl b = 0 ^^^ xl b; rw [Nat.zero_xor]
  | cons c l ih => show c.toNat ^^^ xl (l ++ b) = (c.toNat ^^^ xl l) ^^^ xl b; rw [ih, Nat.xor_assoc]
theorem xl_rev (a : List UInt8) : xl a.reverse = xl a := by
  induction a with
  | nil => rfl
  | cons c l ih =>
    rw [List.reverse_cons, xl_app, ih]
    show xl l ^^^ (c.toNat ^^^ 0) = c.toNat ^^^ xl l
    rw [Nat.xor_zero, Nat.xor_comm]
theorem xorTo_xl (s : ByteArray) : ∀ k, k ≤ s.size → xorTo s k = xl ((lst s).take k)
  | 0, _ => rfl
  | k + 1, h => by
    rw [take_snoc s k (by omega), xl_app, ← xorTo_xl s k (by omega)]
    show xorTo s k ^^^ at_ s k = xorTo s k ^^^ (((lst s).getD k 0).toNat ^^^ 0)
    rw [Nat.xor_zero]; rfl
theorem xs_xl (s : ByteArray) : xs s = xl (lst s) := by unfold xs; rw [xorTo_xl s _ (Nat.le_refl _), take_all s _ (Nat.le_refl _)]
def rev (s : ByteArray) : ByteArray := mk (lst s).reverse
theorem rev_size (s : ByteArray) : (rev s).size = s.size := by unfold rev; rw [size_mk, List.length_reverse, size_lst]
theorem at_rev (s : ByteArray) (i : Nat) (h : i < s.size) : at_ (rev s) i = at_ s (s.size - 1 - i) := by
  unfold rev
  rw [at_mk]
  unfold at_
  have h' : i < (lst s).length := by rw [size_lst]; exact h
  rw [List.getD_eq_getElem?_getD, List.getD_eq_getElem?_getD, List.getElem?_reverse h', size_lst]
theorem body_rev {s : ByteArray} (h : body s = true) : body (rev s) = true := by
  have h1 := body_of h
  refine body_yes (by rw [rev_size]; omega) (by rw [rev_size]; omega) (fun i hi => ?_)
  rw [rev_size] at hi
  rw [at_rev s i hi]; exact h1.2 _ (by omega)
theorem csum_rev {s : ByteArray} (h : body s = true) : csum (rev s) = csum s := by
  rw [csum_yes h, csum_yes (body_rev h), xs_xl, xs_xl]
  unfold rev
  rw [lst_mk, xl_rev]
end Go.Proofs.Ytoomkafhmennoaa.S
