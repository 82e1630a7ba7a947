/-
  The plain mathematics of sentences: checksums, frames, what can be read as a sentence, and the search for sentences in a text. No program is read here.
-/
import Derived.Laws.Strings
namespace Go.Proofs.YtopaglepkpblaaaDoor.S

def mk (l : List UInt8) : ByteArray := ⟨l.toArray⟩
def lst (s : ByteArray) : List UInt8 := s.data.toList
theorem lst_mk (l : List UInt8) : lst (mk l) = l := by simp [lst, mk]
theorem mk_lst (s : ByteArray) : mk (lst s) = s := by apply ByteArray.ext; simp [lst, mk]
theorem ext {a b : ByteArray} (h : lst a = lst b) : a = b := by rw [← mk_lst a, h, mk_lst]
theorem size_lst (s : ByteArray) : (lst s).length = s.size := by show s.data.toList.length = s.data.size; simp
theorem size_mk (l : List UInt8) : (mk l).size = l.length := by show l.toArray.size = l.length; simp
theorem lst_append (a b : ByteArray) : lst (a ++ b) = lst a ++ lst b := by simp [lst, ByteArray.data_append]
theorem lst_extract (s : ByteArray) (i j : Nat) : lst (s.extract i j) = ((lst s).drop i).take (j - i) := by
  simp [lst, ByteArray.data_extract]
/-- The byte at a place, as a number. -/
def at_ (s : ByteArray) (i : Nat) : Nat := ((lst s).getD i 0).toNat
theorem at_get (s : ByteArray) (i : Nat) (h : i < s.size) : (s[i]'h).toNat = at_ s i := by
  unfold at_ lst
  rw [List.getD_eq_getElem?_getD, List.getElem?_eq_getElem (by rw [Array.length_toList]; exact h)]
  rfl
theorem at_lt (s : ByteArray) (i : Nat) : at_ s i < 256 := UInt8.toNat_lt _
theorem at_mk (l : List UInt8) (i : Nat) : at_ (mk l) i = (l.getD i 0).toNat := by unfold at_; rw [lst_mk]
theorem take_snoc (s : ByteArray) (k : Nat) (h : k < s.size) : (lst s).take (k + 1) = (lst s).take k ++ [(lst s).getD k 0] := by
  have h' : k < (lst s).length := by rw [size_lst]; exact h
  rw [List.take_succ_eq_append_getElem h', List.getD_eq_getElem?_getD, List.getElem?_eq_getElem h']; rfl
theorem take_all (s : ByteArray) (k : Nat) (h : s.size ≤ k) : (lst s).take k = lst s := List.take_of_length_le (by rw [size_lst]; exact h)

/-- A byte that may stand in a text. -/
def okN (n : Nat) : Prop := 32 ≤ n ∧ n ≤ 126 ∧ n ≠ 36 ∧ n ≠ 42
instance (n : Nat) : Decidable (okN n) := by unfold okN; infer_instance
def okTo (s : ByteArray) (k : Nat) : Prop := ∀ i, i < k → okN (at_ s i)
instance (s : ByteArray) (k : Nat) : Decidable (okTo s k) := by unfold okTo; infer_instance
def body (s : ByteArray) : Bool := decide ((1 ≤ s.size ∧ s.size ≤ 40) ∧ okTo s s.size)
theorem body_yes {s : ByteArray} (h : 1 ≤ s.size) (h' : s.size ≤ 40) (k : okTo s s.size) : body s = true := by unfold body; exact decide_eq_true ⟨⟨h, h'⟩, k⟩
theorem body_long {s : ByteArray} (h : ¬ (1 ≤ s.size ∧ s.size ≤ 40)) : body s = false := by unfold body; exact decide_eq_false (fun k => h k.1)
theorem body_bad {s : ByteArray} (i : Nat) (hi : i < s.size) (h : ¬ okN (at_ s i)) : body s = false := by unfold body; exact decide_eq_false (fun k => h (k.2 i hi))
theorem body_of {s : ByteArray} (h : body s = true) : (1 ≤ s.size ∧ s.size ≤ 40) ∧ okTo s s.size := by unfold body at h; exact of_decide_eq_true h
theorem okTo_succ {s : ByteArray} {k : Nat} (h : okTo s k) (h' : okN (at_ s k)) : okTo s (k + 1) := fun i hi => by
  rcases Nat.lt_or_ge i k with a | a
  · exact h i a
  · obtain rfl : i = k := by omega
    exact h'
/-- The exclusive or of the first k bytes. -/
def xorTo (s : ByteArray) : Nat → Nat
  | 0 => 0
  | k + 1 => xorTo s k ^^^ at_ s k
def xs (s : ByteArray) : Nat := xorTo s s.size
theorem xorTo_lt (s : ByteArray) : ∀ k, xorTo s k < 256
  | 0 => by show (0 : Nat) < 256; omega
  | k + 1 => by unfold xorTo; exact Nat.xor_lt_two_pow (n := 8) (xorTo_lt s k) (at_lt s k)
theorem xorTo_ok {s : ByteArray} : ∀ k, okTo s k → xorTo s k < 128
  | 0, _ => by show (0 : Nat) < 128; omega
  | k + 1, h => by
    have h1 := xorTo_ok k (fun i hi => h i (by omega))
    have h2 : at_ s k < 128 := by have := h k (by omega); unfold okN at this; omega
    unfold xorTo; exact Nat.xor_lt_two_pow (n := 7) h1 h2
theorem xs_ok {s : ByteArray} (h : body s = true) : xs s < 128 := xorTo_ok _ (body_of h).2
def csum (s : ByteArray) : Int := if body s = true then (xs s : Int) else -1
theorem csum_yes {s : ByteArray} (h : body s = true) : csum s = xs s := by unfold csum; rw [if_pos h]
theorem csum_no {s : ByteArray} (h : body s = false) : csum s = -1 := by unfold csum; rw [if_neg (by rw [h]; decide)]

/-- A digit of the base 16. -/
def hexd (n : Nat) : UInt8 := if n < 10 then UInt8.ofNat (48 + n) else UInt8.ofNat (55 + n)
theorem hexd_inj : ∀ a, a < 16 → ∀ b, b < 16 → hexd a = hexd b → a = b := by decide
theorem hexd_rng : ∀ a, a < 16 → (48 ≤ (hexd a).toNat ∧ (hexd a).toNat ≤ 57 ∧ (hexd a).toNat = 48 + a) ∨ (65 ≤ (hexd a).toNat ∧ (hexd a).toNat ≤ 70 ∧ (hexd a).toNat = 55 + a ∧ 10 ≤ a) := by decide
theorem hexd_no : ∀ a, a < 16 → (hexd a).toNat ≠ 36 ∧ (hexd a).toNat ≠ 42 := by decide
/-- The sentence with a text. -/
def fr (s : ByteArray) : List UInt8 := 36 :: (lst s ++ [42, hexd (xs s / 16), hexd (xs s % 16)])
def frame (s : ByteArray) : ByteArray := if body s = true then mk (fr s) else mk []
theorem frame_yes {s : ByteArray} (h : body s = true) : frame s = mk (fr s) := by unfold frame; rw [if_pos h]
theorem frame_no {s : ByteArray} (h : body s = false) : frame s = mk [] := by unfold frame; rw [if_neg (by rw [h]; decide)]
theorem fr_len (s : ByteArray) : (fr s).length = s.size + 4 := by unfold fr; simp [size_lst]
theorem frame_size {s : ByteArray} (h : body s = true) : (frame s).size = s.size + 4 := by rw [frame_yes h, size_mk, fr_len]
theorem frame_le (s : ByteArray) : (frame s).size ≤ 44 := by
  rcases hb : body s with _ | _
  · rw [frame_no hb]; simp [size_mk]
  · rw [frame_size hb]; have := (body_of hb).1; omega
/-- The middle of a text: without the first byte and the last three. -/
def mid (s : ByteArray) : ByteArray := s.extract 1 (s.size - 3)
theorem mid_size (s : ByteArray) (h : 4 ≤ s.size) : (mid s).size = s.size - 4 := by unfold mid; rw [ByteArray.size_extract]; omega
def rdB (s : ByteArray) : Bool := decide (5 ≤ s.size ∧ frame (mid s) = s)
def rdS (s : ByteArray) : ByteArray := if rdB s = true then mid s else mk []
theorem rdB_yes {s : ByteArray} (h : 5 ≤ s.size) (h' : frame (mid s) = s) : rdB s = true := by unfold rdB; exact decide_eq_true ⟨h, h'⟩
theorem rdB_no {s : ByteArray} (h : ¬ (5 ≤ s.size ∧ frame (mid s) = s)) : rdB s = false := by unfold rdB; exact decide_eq_false h
theorem rdB_of {s : ByteArray} (h : rdB s = true) : 5 ≤ s.size ∧ frame (mid s) = s := by unfold rdB at h; exact of_decide_eq_true h
theorem rdS_yes {s : ByteArray} (h : rdB s = true) : rdS s = mid s := by unfold rdS; rw [if_pos h]
theorem rdS_no {s : ByteArray} (h : rdB s = false) : rdS s = mk [] := by unfold rdS; rw [if_neg (by rw [h]; decide)]
theorem rd_body {s : ByteArray} (h : rdB s = true) : body (mid s) = true := by
  rcases hb : body (mid s) with _ | _
  · have := rdB_of h
    rw [frame_no hb] at this
    have e := this.2
    have : s.size = 0 := by rw [← e]; simp [size_mk]
    omega
  · rfl
theorem rd_frame {s : ByteArray} (h : rdB s = true) : frame (rdS s) = s := by rw [rdS_yes h]; exact (rdB_of h).2
theorem mid_frame {s : ByteArray} (h : body s = true) : mid (frame s) = s := by
  apply ext
  unfold mid
  rw [lst_extract, frame_yes h, lst_mk, size_mk, fr_len]
  unfold fr
  rw [List.drop_succ_cons, List.drop_zero, show s.size + 4 - 3 - 1 = (lst s).length from by rw [size_lst]; omega, List.take_left]
theorem rd_of_frame {s : ByteArray} (h : body s = true) : rdB (frame s) = true ∧ rdS (frame s) = s := by
  have h1 : rdB (frame s) = true := rdB_yes (by rw [frame_size h]; have := (body_of h).1; omega) (by rw [mid_frame h])
  exact ⟨h1, by rw [rdS_yes h1, mid_frame h]⟩
/-- Where the bytes of a sentence stand. -/
theorem getD_app_l (a b : List UInt8) (i : Nat) (h : i < a.length) : (a ++ b).getD i 0 = a.getD i 0 := by
  rw [List.getD_eq_getElem?_getD, List.getD_eq_getElem?_getD, List.getElem?_append_left h]
theorem getD_app_r (a b : List UInt8) (i : Nat) : (a ++ b).getD (a.length + i) 0 = b.getD i 0 := by
  rw [List.getD_eq_getElem?_getD, List.getD_eq_getElem?_getD, List.getElem?_append_right (by omega), Nat.add_sub_cancel_left]
theorem frame_at0 {s : ByteArray} (h : body s = true) : at_ (frame s) 0 = 36 := by rw [frame_yes h, at_mk]; rfl
theorem frame_in {s : ByteArray} (h : body s = true) (i : Nat) (hi : i < s.size) : at_ (frame s) (i + 1) = at_ s i := by
  rw [frame_yes h, at_mk]
  unfold fr at_
  rw [List.getD_cons_succ, getD_app_l _ _ _ (by rw [size_lst]; exact hi)]
theorem frame_star {s : ByteArray} (h : body s = true) : at_ (frame s) (s.size + 1) = 42 := by
  rw [frame_yes h, at_mk]
  unfold fr
  rw [List.getD_cons_succ, show s.size = (lst s).length + 0 from by rw [size_lst]; rfl, getD_app_r]; rfl
theorem frame_d1 {s : ByteArray} (h : body s = true) : at_ (frame s) (s.size + 2) = (hexd (xs s / 16)).toNat := by
  rw [frame_yes h, at_mk]
  unfold fr
  rw [List.getD_cons_succ, show s.size + 1 = (lst s).length + 1 from by rw [size_lst], getD_app_r]; rfl
theorem frame_d2 {s : ByteArray} (h : body s = true) : at_ (frame s) (s.size + 3) = (hexd (xs s % 16)).toNat := by
  rw [frame_yes h, at_mk]
  unfold fr
  rw [List.getD_cons_succ, show s.size + 2 = (lst s).length + 2 from by rw [size_lst], getD_app_r]; rfl
/-- A sentence has one $, its first byte. -/
theorem rd_dollar {s : ByteArray} (h : rdB s = true) (i : Nat) (h0 : 0 < i) (hi : i < s.size) : at_ s i ≠ 36 := by
  have hb := rd_body h
  have ⟨h5, hf⟩ := rdB_of h
  have hm := mid_size s (by omega)
  have hx := xs_ok hb
  rw [← hf]
  rcases Nat.lt_or_ge (i - 1) (mid s).size with a | a
  · have := frame_in hb (i - 1) a
    rw [Nat.sub_add_cancel (by omega)] at this
    rw [this]
    have := (body_of hb).2 (i - 1) a
    unfold okN at this; omega
  · rcases (show i = (mid s).size + 1 ∨ i = (mid s).size + 2 ∨ i = (mid s).size + 3 by omega) with e | e | e <;> rw [e]
    · rw [frame_star hb]; decide
    · rw [frame_d1 hb]; exact (hexd_no _ (by omega)).1
    · rw [frame_d2 hb]; exact (hexd_no _ (by omega)).1
theorem rd_first {s : ByteArray} (h : rdB s = true) : at_ s 0 = 36 := by
  rw [← (rdB_of h).2]; exact frame_at0 (rd_body h)
theorem at_extract (s : ByteArray) (i j k : Nat) (h : k < j - i) : at_ (s.extract i j) k = at_ s (i + k) := by
  unfold at_
  rw [lst_extract, List.getD_eq_getElem?_getD, List.getD_eq_getElem?_getD, List.getElem?_take_of_lt h, List.getElem?_drop]
theorem at_append_l (a b : ByteArray) (i : Nat) (h : i < a.size) : at_ (a ++ b) i = at_ a i := by
  unfold at_; rw [lst_append, getD_app_l _ _ _ (by rw [size_lst]; exact h)]
theorem at_append_r (a b : ByteArray) (i : Nat) : at_ (a ++ b) (a.size + i) = at_ b i := by
  unfold at_; rw [lst_append, ← size_lst a, getD_app_r]
theorem extract_append_r (a b : ByteArray) (i j : Nat) : (a ++ b).extract (a.size + i) (a.size + j) = b.extract i j := by
  apply ext
  rw [lst_extract, lst_extract, lst_append, ← size_lst a, show (lst a).length + j - ((lst a).length + i) = j - i from by omega]
  congr 1
  rw [List.drop_append, List.drop_of_length_le (by omega), List.nil_append]
  congr 1; omega
theorem toList_beq (a b : ByteArray) : (a.toList == b.toList) = decide (a = b) := by
  rw [Go.ByteArray.toList_eq a, Go.ByteArray.toList_eq b]
  by_cases h : a = b
  · subst h; simp
  · rw [decide_eq_false h]
    have : a.data.toList ≠ b.data.toList := fun e => h (ext e)
    simpa using this

/-! The search. -/
/-- The next star from a place on, or the end. -/
structure Star (s : ByteArray) (a e : Nat) : Prop where
  ge : a ≤ e
  le : e ≤ s.size
  no : ∀ i, a ≤ i → i < e → at_ s i ≠ 42
  yes : e < s.size → at_ s e = 42
theorem Star.same {s : ByteArray} {a e f : Nat} (h : Star s a e) (k : Star s a f) : e = f := by
  rcases Nat.lt_trichotomy e f with b | b | b
  · have h1 := h.yes (by have := k.le; omega)
    exact absurd h1 (k.no e h.ge b)
  · exact b
  · have h1 := k.yes (by have := h.le; omega)
    exact absurd h1 (h.no f k.ge b)
theorem star_ex (s : ByteArray) (a : Nat) (h : a ≤ s.size) : ∃ e, Star s a e := by
  obtain ⟨d, hd⟩ : ∃ d, d = s.size - a := ⟨_, rfl⟩
  induction d generalizing a with
  | zero => exact ⟨a, Nat.le_refl _, h, fun i h1 h2 => by omega, fun h1 => by omega⟩
  | succ d ih =>
    by_cases hc : at_ s a = 42
    · exact ⟨a, Nat.le_refl _, h, fun i h1 h2 => by omega, fun _ => hc⟩
    · obtain ⟨e, he⟩ := ih (a + 1) (by omega) (by omega)
      refine ⟨e, by have := he.ge; omega, he.le, fun i h1 h2 => ?_, he.yes⟩
      rcases Nat.lt_or_ge a i with b | b
      · exact he.no i (by omega) h2
      · obtain rfl : i = a := by omega
        exact hc
/-- At a place there begins a sentence, which ends before q. -/
structure Hit (s : ByteArray) (a q : Nat) : Prop where
  dol : at_ s a = 36
  star : ∃ e, Star s a e ∧ q = e + 3
  top : q ≤ s.size
  rd : rdB (s.extract a q) = true
theorem Hit.same {s : ByteArray} {a q r : Nat} (h : Hit s a q) (k : Hit s a r) : q = r := by
  obtain ⟨e, he, rfl⟩ := h.star
  obtain ⟨f, hf, rfl⟩ := k.star
  rw [he.same hf]
theorem Hit.lt {s : ByteArray} {a q : Nat} (h : Hit s a q) : a + 3 ≤ q := by
  obtain ⟨e, he, rfl⟩ := h.star
  have := he.ge; omega
theorem Hit.frame {s : ByteArray} {a q : Nat} (h : Hit s a q) : S.frame (rdS (s.extract a q)) = s.extract a q := rd_frame h.rd
/-- The search from a place on, with what was found before, ends with r. -/
inductive Run (s : ByteArray) : Nat → List ByteArray → List ByteArray → Prop
  | stop (a : Nat) (o : List ByteArray) : (s.size ≤ a ∨ 8 ≤ o.length) → Run s a o o
  | skip (a : Nat) (o r : List ByteArray) : a < s.size → o.length < 8 → (∀ q, ¬ Hit s a q) → Run s (a + 1) o r → Run s a o r
  | hit (a q : Nat) (o r : List ByteArray) : o.length < 8 → Hit s a q → Run s q (o ++ [rdS (s.extract a q)]) r → Run s a o r
theorem Run.same {s : ByteArray} {a : Nat} {o r r' : List ByteArray} (h : Run s a o r) (k : Run s a o r') : r = r' := by
  induction h with
  | stop a o h =>
    cases k with
    | stop _ _ _ => rfl
    | skip _ _ _ h1 h2 _ _ => omega
    | hit _ q _ _ h1 h2 _ => have := h2.lt; have := h2.top; omega
  | skip a o r h1 h2 h3 _ ih =>
    cases k with
    | stop _ _ h => omega
    | skip _ _ _ _ _ _ k => exact ih k
    | hit _ q _ _ _ h _ => exact absurd h (h3 q)
  | hit a q o r h1 h2 _ ih =>
    cases k with
    | stop _ _ h => have := h2.lt; have := h2.top; omega
    | skip _ _ _ _ _ h _ => exact absurd h2 (h q)
    | hit _ q' _ _ _ h k => obtain rfl := h2.same h; exact ih k
theorem Run.le {s : ByteArray} {a : Nat} {o r : List ByteArray} (h : Run s a o r) : o.length ≤ r.length ∧ (o.length ≤ 8 → r.length ≤ 8) := by
  induction h with
  | stop a o h => exact ⟨Nat.le_refl _, id⟩
  | skip a o r h1 h2 h3 _ ih => exact ih
  | hit a q o r h1 h2 _ ih => simp at ih; exact ⟨by omega, fun _ => ih.2 (by omega)⟩
/-- Places without a $ are left out. -/
theorem Run.over {s : ByteArray} {o r : List ByteArray} (a b : Nat) (hab : a ≤ b) (hb : b ≤ s.size) (ho : o.length < 8) (hn : ∀ i, a ≤ i → i < b → ∀ q, ¬ Hit s i q) (h : Run s b o r) : Run s a o r := by
  obtain ⟨d, hd⟩ : ∃ d, d = b - a := ⟨_, rfl⟩
  induction d generalizing a with
  | zero => obtain rfl : a = b := by omega
            exact h
  | succ d ih => exact Run.skip a o r (by omega) ho (hn a (by omega) (by omega)) (ih (a + 1) (by omega) (fun i h1 h2 => hn i (by omega) h2) (by omega))
theorem no_hit {s : ByteArray} {a : Nat} (h : at_ s a ≠ 36) : ∀ q, ¬ Hit s a q := fun _ k => h k.dol
/-- The bytes of a sentence behind the first are no $. -/
theorem Hit.inner {s : ByteArray} {a q : Nat} (h : Hit s a q) (i : Nat) (h0 : a < i) (h1 : i < q) : at_ s i ≠ 36 := by
  have hq := h.top
  have := rd_dollar h.rd (i - a) (by omega) (by rw [ByteArray.size_extract]; omega)
  rwa [at_extract _ _ _ _ (by omega), show a + (i - a) = i from by omega] at this
/-- Bytes in front: what was found stays found. -/
theorem Star.shift {f s : ByteArray} {a e : Nat} : Star (f ++ s) (f.size + a) (f.size + e) ↔ Star s a e := by
  have hz : (f ++ s).size = f.size + s.size := by rw [← size_lst, lst_append, List.length_append, size_lst, size_lst]
  constructor
  · intro h
    refine ⟨by have := h.ge; omega, by have := h.le; omega, fun i h1 h2 => ?_, fun h1 => ?_⟩
    · have := h.no (f.size + i) (by omega) (by omega); rwa [at_append_r] at this
    · have := h.yes (by omega); rwa [at_append_r] at this
  · intro h
    refine ⟨by have := h.ge; omega, by have := h.le; omega, fun i h1 h2 => ?_, fun h1 => ?_⟩
    · have := h.no (i - f.size) (by omega) (by omega)
      rwa [← at_append_r f, show f.size + (i - f.size) = i from by omega] at this
    · rw [at_append_r]; exact h.yes (by omega)
theorem Hit.shift {f s : ByteArray} {a q : Nat} : Hit (f ++ s) (f.size + a) (f.size + q) ↔ Hit s a q := by
  have hz : (f ++ s).size = f.size + s.size := by rw [← size_lst, lst_append, List.length_append, size_lst, size_lst]
  constructor
  · intro h
    obtain ⟨e, he, hq⟩ := h.star
    have hge := he.ge
    have he' : Star s a (e - f.size) := Star.shift.1 (by rw [show f.size + (e - f.size) = e from by omega]; exact he)
    have hr := h.rd
    rw [extract_append_r] at hr
    exact ⟨by have := h.dol; rwa [at_append_r] at this, ⟨e - f.size, he', by omega⟩, by have := h.top; omega, hr⟩
  · intro h
    obtain ⟨e, he, hq⟩ := h.star
    exact ⟨by rw [at_append_r]; exact h.dol, ⟨f.size + e, Star.shift.2 he, by omega⟩, by have := h.top; omega, by rw [extract_append_r]; exact h.rd⟩
theorem no_hit_shift {f s : ByteArray} {a : Nat} (h : ∀ q, ¬ Hit s a q) : ∀ q, ¬ Hit (f ++ s) (f.size + a) q := fun q k => by
  obtain ⟨e, he, hq⟩ := k.star
  have hge := he.ge
  refine h (q - f.size) (Hit.shift (f := f).1 ?_)
  rw [show f.size + (q - f.size) = q from by omega]; exact k
theorem Run.shift {f s : ByteArray} {a : Nat} {o r : List ByteArray} (p : List ByteArray) (h : Run s a o r) (hl : p.length + r.length ≤ 8) : Run (f ++ s) (f.size + a) (p ++ o) (p ++ r) := by
  have hz : (f ++ s).size = f.size + s.size := by rw [← size_lst, lst_append, List.length_append, size_lst, size_lst]
  induction h with
  | stop a o h =>
    refine Run.stop _ _ ?_
    rcases h with h | h
    · exact .inl (by omega)
    · exact .inr (by simp; omega)
  | skip a o r h1 h2 h3 hr ih =>
    by_cases h8 : p.length + o.length < 8
    · exact Run.skip _ _ _ (by omega) (by simpa using h8) (no_hit_shift h3) (ih hl)
    · have := hr.le
      -- nothing more can be found: the lengths are equal
      have hi := ih hl
      rw [Run.same hi (Run.stop (f.size + (a + 1)) (p ++ o) (.inr (by simp; omega)))]
      exact Run.stop _ _ (.inr (by simp; omega))
  | hit a q o r h1 h2 hr ih =>
    have := hr.le
    simp at this
    have hi := ih hl
    refine Run.hit _ (f.size + q) _ _ (by simp; omega) (Hit.shift.2 h2) ?_
    rw [extract_append_r, List.append_assoc]
    exact hi
/-! The machine that reads byte by byte. -/
def Goes (s : ByteArray) (x : Nat) (T : List ByteArray) : Prop := ∀ r, Run s x T r → Run s 0 [] r
def nx (st c : Nat) : Nat := if c = 36 then 1 else if st = 1 then (if c = 42 then 2 else 1) else if st = 2 then 3 else if st = 3 then 4 else 0
def Idle (s : ByteArray) (i st : Nat) (T : List ByteArray) : Prop := (st = 0 ∨ st = 4) ∧ Goes s i T
structure Busy (s : ByteArray) (i st start : Nat) (T : List ByteArray) : Prop where
  st1 : 1 ≤ st
  st3 : st ≤ 3
  lt : start < i
  dol : at_ s start = 36
  goes : Goes s start T
  no : ∀ j, start < j → j < i → at_ s j ≠ 36
  t1 : st = 1 → ∀ j, start ≤ j → j < i → at_ s j ≠ 42
  t2 : st = 2 → start + 2 ≤ i ∧ Star s start (i - 1)
  t3 : st = 3 → start + 3 ≤ i ∧ Star s start (i - 2)
structure Mach (s : ByteArray) (i st start : Nat) (T : List ByteArray) : Prop where
  len : T.length ≤ 8
  le : i ≤ s.size
  is : Idle s i st T ∨ Busy s i st start T
theorem Mach.zero (s : ByteArray) : Mach s 0 0 0 [] := ⟨by simp, by omega, .inl ⟨.inl rfl, fun _ h => h⟩⟩
/-- What begins at 'start' does not end before i. -/
theorem Busy.far {s : ByteArray} {i st start : Nat} {T : List ByteArray} (h : Busy s i st start T) (hi : i ≤ s.size) {q : Nat} (k : Hit s start q) : i < q := by
  obtain ⟨e, he, rfl⟩ := k.star
  have a := h.st1; have b := h.st3
  rcases (show st = 1 ∨ st = 2 ∨ st = 3 by omega) with e1 | e1 | e1
  · have h1 := h.t1 e1
    rcases Nat.lt_or_ge e i with c | c
    · exact absurd (he.yes (by omega)) (h1 e he.ge c)
    · omega
  · obtain ⟨h1, h2⟩ := h.t2 e1
    have := h2.same he; omega
  · obtain ⟨h1, h2⟩ := h.t3 e1
    have := h2.same he; omega
theorem Busy.dollar {s : ByteArray} {i st start : Nat} {T : List ByteArray} (h : Busy s i st start T) (hi : i < s.size) (hT : T.length < 8) (hc : at_ s i = 36) : Goes s i T := fun r hr => by
  refine h.goes r (Run.over start i (by have := h.lt; omega) (by omega) hT (fun j h1 h2 q k => ?_) hr)
  rcases Nat.lt_or_ge start j with a | a
  · exact h.no j a h2 k.dol
  · obtain rfl : j = start := by omega
    exact k.inner i h2 (h.far (by omega) k) hc
theorem nx_dol (st : Nat) : nx st 36 = 1 := by unfold nx; rw [if_pos rfl]
theorem nx_le (st c : Nat) : nx st c ≤ 4 := by unfold nx; repeat (first | omega | split)
/-- One byte more, where no sentence ends. -/
theorem Mach.go {s : ByteArray} {i st start : Nat} {T : List ByteArray} (h : Mach s i st start T) (hi : i < s.size) (hT : T.length < 8) (h4 : nx st (at_ s i) ≠ 4) :
    Mach s (i + 1) (nx st (at_ s i)) (if at_ s i = 36 then i else start) T := by
  refine ⟨h.len, by omega, ?_⟩
  by_cases hc : at_ s i = 36
  · rw [if_pos hc, hc, nx_dol]
    have hg : Goes s i T := by
      rcases h.is with k | k
      · exact k.2
      · exact k.dollar hi hT hc
    exact .inr ⟨by omega, by omega, by omega, hc, hg, fun j h1 h2 => by omega, fun _ j h1 h2 => by rw [show j = i from by omega, hc]; decide, fun h => by omega, fun h => by omega⟩
  · rw [if_neg hc]
    rcases h.is with k | k
    · have e : nx st (at_ s i) = 0 := by unfold nx; rw [if_neg hc]; have := k.1; repeat (first | omega | split)
      rw [e]
      exact .inl ⟨.inl rfl, fun r hr => k.2 r (Run.skip i T r hi hT (no_hit hc) hr)⟩
    · have a := k.st1; have b := k.st3
      have hno : ∀ j, start < j → j < i + 1 → at_ s j ≠ 36 := fun j h1 h2 => by
        rcases Nat.lt_or_ge j i with c | c
        · exact k.no j h1 c
        · obtain rfl : j = i := by omega
          exact hc
      have hlt := k.lt
      rcases (show st = 1 ∨ st = 2 ∨ st = 3 by omega) with e1 | e1 | e1
      · have h1 := k.t1 e1
        by_cases h42 : at_ s i = 42
        · have e : nx st (at_ s i) = 2 := by unfold nx; rw [if_neg hc, if_pos e1, if_pos h42]
          rw [e]
          exact .inr ⟨by omega, by omega, by omega, k.dol, k.goes, hno, fun h => by omega, fun _ => ⟨by omega, by omega, by omega, fun j h2 h3 => h1 j h2 (by omega), fun _ => h42⟩, fun h => by omega⟩
        · have e : nx st (at_ s i) = 1 := by unfold nx; rw [if_neg hc, if_pos e1, if_neg h42]
          rw [e]
          exact .inr ⟨by omega, by omega, by omega, k.dol, k.goes, hno, fun _ j h2 h3 => by
            rcases Nat.lt_or_ge j i with c | c
            · exact h1 j h2 c
            · obtain rfl : j = i := by omega
              exact h42, fun h => by omega, fun h => by omega⟩
      · have e : nx st (at_ s i) = 3 := by unfold nx; rw [if_neg hc, if_neg (by omega), if_pos e1]
        rw [e]
        obtain ⟨h1, h2⟩ := k.t2 e1
        exact .inr ⟨by omega, by omega, by omega, k.dol, k.goes, hno, fun h => by omega, fun h => by omega, fun _ => ⟨by omega, by rw [show i + 1 - 2 = i - 1 from by omega]; exact h2⟩⟩
      · exact absurd (show nx st (at_ s i) = 4 by unfold nx; rw [if_neg hc, if_neg (by omega), if_neg (by omega), if_pos e1]) h4
/-- One byte more, at which a sentence may end. -/
theorem Mach.end_ {s : ByteArray} {i st start : Nat} {T : List ByteArray} (h : Mach s i st start T) (hi : i < s.size) (hT : T.length < 8) (h4 : nx st (at_ s i) = 4) :
    at_ s i ≠ 36 ∧ start < i ∧ (rdB (s.extract start (i + 1)) = true → Mach s (i + 1) 4 start (T ++ [rdS (s.extract start (i + 1))])) ∧ (rdB (s.extract start (i + 1)) = false → Mach s (i + 1) 4 start T) := by
  have hc : at_ s i ≠ 36 := fun e => by rw [e, nx_dol] at h4; omega
  have e3 : st = 3 := by
    unfold nx at h4; rw [if_neg hc] at h4
    by_cases a : st = 1
    · rw [if_pos a] at h4; split at h4 <;> omega
    · rw [if_neg a] at h4
      by_cases b : st = 2
      · rw [if_pos b] at h4; omega
      · rw [if_neg b] at h4
        by_cases c : st = 3
        · exact c
        · rw [if_neg c] at h4; omega
  rcases h.is with k | k
  · have := k.1; omega
  obtain ⟨h1, h2⟩ := k.t3 e3
  have hlt := k.lt
  refine ⟨hc, hlt, fun hr => ?_, fun hr => ?_⟩
  · refine ⟨by simp; omega, by omega, .inl ⟨.inr rfl, fun r hr' => k.goes r (Run.hit start (i + 1) T r hT ⟨k.dol, ⟨i - 2, h2, by omega⟩, by omega, hr⟩ hr')⟩⟩
  · refine ⟨h.len, by omega, .inl ⟨.inr rfl, fun r hr' => k.goes r (Run.over start (i + 1) (by omega) (by omega) hT (fun j j1 j2 q kq => ?_) hr')⟩⟩
    rcases Nat.lt_or_ge start j with a | a
    · rcases Nat.lt_or_ge j i with c | c
      · exact k.no j a c kq.dol
      · obtain rfl : j = i := by omega
        exact hc kq.dol
    · obtain rfl : j = start := by omega
      obtain ⟨e, he, hq⟩ := kq.star
      have := h2.same he
      obtain rfl : q = i + 1 := by omega
      have := kq.rd
      rw [hr] at this; exact Bool.noConfusion this
/-- At the end. -/
theorem Mach.done {s : ByteArray} {i st start : Nat} {T : List ByteArray} (h : Mach s i st start T) (hd : i = s.size ∨ T.length = 8) : Run s 0 [] T := by
  rcases h.is with k | k
  · exact k.2 T (Run.stop _ _ (by omega))
  · refine k.goes T ?_
    rcases hd with hd | hd
    · by_cases h8 : T.length = 8
      · exact Run.stop _ _ (by omega)
      · refine Run.over start s.size (by have := k.lt; omega) (Nat.le_refl _) (by have := h.len; omega) (fun j j1 j2 q kq => ?_) (Run.stop _ _ (by omega))
        rcases Nat.lt_or_ge start j with a | a
        · exact k.no j a (by omega) kq.dol
        · obtain rfl : j = start := by omega
          have h1 := k.far (by omega) kq
          have h2 := kq.top
          omega
    · exact Run.stop _ _ (by omega)
end Go.Proofs.YtopaglepkpblaaaDoor.S
