/-
  The plain mathematics of the texts of fixes: digits, the text of a fix, and what a scanner reads out of a text. No program is read here.
-/
import Derived.Lib.ItoaNum
import Derived.Lib.Strings
import Derived.Test.YtopaglepkpblaaaDoorSMath
import Derived.Test.YtopaglepkpblaaaDoorFxMath
namespace Go.Proofs.YtopaglepkpblaaaDoor.X
open Go.Lib
/-- Two digits. -/
def d2 (k : Nat) : List UInt8 := [UInt8.ofNat (48 + k / 10), UInt8.ofNat (48 + k % 10)]
theorem d2_len (k : Nat) : (d2 k).length = 2 := rfl
theorem dec_small {u : Nat} (h : u < 10) : decDigits u = [UInt8.ofNat (48 + u)] := by rw [decDigits, dif_pos h]
theorem dec_big {u : Nat} (h : ¬ u < 10) : decDigits u = decDigits (u / 10) ++ [UInt8.ofNat (48 + u % 10)] := by rw [decDigits, dif_neg h]
theorem dec_two {u : Nat} (h : 10 ≤ u) (h' : u < 100) : decDigits u = d2 u := by
  rw [dec_big (by omega), dec_small (by omega)]; rfl
theorem dec_four {u : Nat} (h : 1000 ≤ u) (h' : u < 10000) : decDigits u = [UInt8.ofNat (48 + u / 1000), UInt8.ofNat (48 + u / 100 % 10), UInt8.ofNat (48 + u / 10 % 10), UInt8.ofNat (48 + u % 10)] := by
  rw [dec_big (by omega), dec_big (u := u / 10) (by omega), dec_big (u := u / 10 / 10) (by omega), dec_small (by omega)]
  simp only [List.cons_append, List.nil_append, Nat.div_div_eq_div_mul]
/-- The text of a fix. -/
def hh (s : Int) : Nat := (sm s / 3600).toNat
def hm (s : Int) : Nat := (sm s / 60 % 60).toNat
def hs (s : Int) : Nat := (sm s % 60 + s - sm s).toNat
def tx (y m d s n : Int) : List UInt8 := [70, 73, 88, 44] ++ d2 (hh s) ++ d2 (hm s) ++ d2 (hs s) ++ [44] ++ d2 d.toNat ++ [44] ++ d2 m.toNat ++ [44] ++ decDigits y.toNat ++ [44] ++ decDigits n.toNat
theorem h_bd {s : Int} (h : 0 ≤ s ∧ s ≤ 86400) : hh s < 24 ∧ hm s < 60 ∧ hs s ≤ 60 ∧ ((hh s * 60 + hm s) * 60 + hs s : Int) = s := by
  unfold hh hm hs sm
  split <;> omega
/-- A digit. -/
def isD (b : UInt8) : Bool := decide (48 ≤ b.toNat ∧ b.toNat ≤ 57)
theorem isD_of {b : UInt8} (h : isD b = true) : 48 ≤ b.toNat ∧ b.toNat ≤ 57 := of_decide_eq_true h
theorem dig {k : Nat} (h : k < 10) : isD (UInt8.ofNat (48 + k)) = true ∧ (UInt8.ofNat (48 + k)).toNat = 48 + k := by
  have : ∀ k, k < 10 → isD (UInt8.ofNat (48 + k)) = true ∧ (UInt8.ofNat (48 + k)).toNat = 48 + k := by decide
  exact this k h
/-- The number that comes next, of at most k digits, and what is left. -/
def num : Nat → Nat → List UInt8 → Nat × List UInt8
  | 0, n, l => (n, l)
  | _ + 1, n, [] => (n, [])
  | k + 1, n, b :: l => if isD b = true then num k (10 * n + (b.toNat - 48)) l else (n, b :: l)
theorem num_nil (k n : Nat) : num k n [] = (n, []) := by cases k <;> rfl
theorem num_yes {k n : Nat} {b : UInt8} {l : List UInt8} (h : isD b = true) : num (k + 1) n (b :: l) = num k (10 * n + (b.toNat - 48)) l := if_pos h
theorem num_no {k n : Nat} {b : UInt8} {l : List UInt8} (h : isD b = false) : num (k + 1) n (b :: l) = (n, b :: l) := if_neg (by rw [h]; decide)
theorem num_bd : ∀ (k n : Nat) (l : List UInt8), (num k n l).1 < (n + 1) * 10 ^ k
  | 0, n, l => by show n < (n + 1) * 10 ^ 0; omega
  | k + 1, n, [] => by
    show n < (n + 1) * 10 ^ (k + 1)
    have : 1 ≤ 10 ^ (k + 1) := Nat.one_le_pow _ _ (by decide)
    calc n < (n + 1) * 1 := by omega
      _ ≤ _ := Nat.mul_le_mul_left _ this
  | k + 1, n, b :: l => by
    rcases h : isD b with _ | _
    · rw [num_no h]
      show n < _
      have : 1 ≤ 10 ^ (k + 1) := Nat.one_le_pow _ _ (by decide)
      calc n < (n + 1) * 1 := by omega
        _ ≤ _ := Nat.mul_le_mul_left _ this
    · rw [num_yes h]
      have hb := isD_of h
      have := num_bd k (10 * n + (b.toNat - 48)) l
      refine Nat.lt_of_lt_of_le this ?_
      rw [Nat.pow_succ, Nat.mul_comm (10 ^ k) 10, ← Nat.mul_assoc]
      exact Nat.mul_le_mul_right _ (by omega)
theorem num_len : ∀ (k n : Nat) (l : List UInt8), (num k n l).2.length ≤ l.length
  | 0, n, l => Nat.le_refl _
  | k + 1, n, [] => Nat.le_refl _
  | k + 1, n, b :: l => by
    rcases h : isD b with _ | _
    · rw [num_no h]; exact Nat.le_refl _
    · rw [num_yes h]; exact Nat.le_trans (num_len k _ l) (by simp)
theorem num_d2 {k : Nat} (h : k < 100) (l : List UInt8) : num 2 0 (d2 k ++ l) = (k, l) := by
  have h1 := dig (k := k / 10) (by omega)
  have h2 := dig (k := k % 10) (by omega)
  unfold d2
  show num 2 0 (UInt8.ofNat (48 + k / 10) :: (UInt8.ofNat (48 + k % 10) :: l)) = (k, l)
  rw [num_yes h1.1, num_yes h2.1, h1.2, h2.2]
  show (_, l) = (k, l)
  congr 1; omega
theorem num_dec4 {u : Nat} (h : 1000 ≤ u) (h' : u < 10000) (l : List UInt8) : num 4 0 (decDigits u ++ l) = (u, l) := by
  have h1 := dig (k := u / 1000) (by omega)
  have h2 := dig (k := u / 100 % 10) (by omega)
  have h3 := dig (k := u / 10 % 10) (by omega)
  have h4 := dig (k := u % 10) (by omega)
  rw [dec_four h h']
  show num 4 0 (_ :: (_ :: (_ :: (_ :: l)))) = (u, l)
  rw [num_yes h1.1, num_yes h2.1, num_yes h3.1, num_yes h4.1, h1.2, h2.2, h3.2, h4.2]
  show (_, l) = (u, l)
  congr 1; omega
theorem num_dec2 {u : Nat} (h : u < 100) : num 2 0 (decDigits u) = (u, []) := by
  by_cases h1 : u < 10
  · have h2 := dig h1
    rw [dec_small h1, num_yes h2.1, h2.2, num_nil]
    congr 1; omega
  · rw [dec_two (by omega) h]
    have := num_d2 h []
    rwa [List.append_nil] at this
/-- A text is left out, if it comes next. -/
theorem skp_yes (p l : List UInt8) : trimPrefix (p ++ l) p = l := by
  unfold trimPrefix hasPrefix
  rw [if_pos (by simp), List.drop_left]
/-- What a scanner reads: the hour, the minute, the second, the day, the month, the year, how many. -/
def s1 (l : List UInt8) : List UInt8 := trimPrefix l [70, 73, 88, 44]
def r1 (l : List UInt8) : Nat × List UInt8 := num 2 0 (s1 l)
def r2 (l : List UInt8) : Nat × List UInt8 := num 2 0 (r1 l).2
def r3 (l : List UInt8) : Nat × List UInt8 := num 2 0 (r2 l).2
def r4 (l : List UInt8) : Nat × List UInt8 := num 2 0 (trimPrefix (r3 l).2 [44])
def r5 (l : List UInt8) : Nat × List UInt8 := num 2 0 (trimPrefix (r4 l).2 [44])
def r6 (l : List UInt8) : Nat × List UInt8 := num 4 0 (trimPrefix (r5 l).2 [44])
def r7 (l : List UInt8) : Nat × List UInt8 := num 2 0 (trimPrefix (r6 l).2 [44])
def gs (l : List UInt8) : Int := ((r1 l).1 * 60 + (r2 l).1) * 60 + (r3 l).1
def gd (l : List UInt8) : Int := (r4 l).1
def gm (l : List UInt8) : Int := (r5 l).1
def gy (l : List UInt8) : Int := (r6 l).1
def gn (l : List UInt8) : Int := (r7 l).1
theorem r_bd (l : List UInt8) : (r1 l).1 < 100 ∧ (r2 l).1 < 100 ∧ (r3 l).1 < 100 ∧ (r4 l).1 < 100 ∧ (r5 l).1 < 100 ∧ (r6 l).1 < 10000 ∧ (r7 l).1 < 100 :=
  ⟨num_bd 2 0 _, num_bd 2 0 _, num_bd 2 0 _, num_bd 2 0 _, num_bd 2 0 _, num_bd 4 0 _, num_bd 2 0 _⟩
theorem vld_bd {y m d : Int} (h : M.vld y m d = true) : (1980 ≤ y ∧ y ≤ 2099) ∧ (1 ≤ m ∧ m ≤ 12) ∧ 1 ≤ d ∧ d ≤ 31 := by
  simp only [M.vld, decide_eq_true_eq] at h
  have := M.dim_bd y m
  omega
/-- The scanner reads what the text says. -/
theorem scan_tx {y m d s n : Int} (h : vf y m d s n = true) : gy (tx y m d s n) = y ∧ gm (tx y m d s n) = m ∧ gd (tx y m d s n) = d ∧ gs (tx y m d s n) = s ∧ gn (tx y m d s n) = n := by
  obtain ⟨hv, h1, h2⟩ := vf_of h
  obtain ⟨b1, b2, b3⟩ := vld_bd hv
  obtain ⟨c1, c2, c3, c4⟩ := h_bd h1
  have e1 : r1 (tx y m d s n) = (hh s, d2 (hm s) ++ (d2 (hs s) ++ ([44] ++ (d2 d.toNat ++ ([44] ++ (d2 m.toNat ++ ([44] ++ (decDigits y.toNat ++ ([44] ++ decDigits n.toNat))))))))) := by
    unfold r1 s1 tx
    simp only [List.append_assoc]
    rw [skp_yes, num_d2 (by omega)]
  have e2 : r2 (tx y m d s n) = (hm s, d2 (hs s) ++ ([44] ++ (d2 d.toNat ++ ([44] ++ (d2 m.toNat ++ ([44] ++ (decDigits y.toNat ++ ([44] ++ decDigits n.toNat)))))))) := by
    unfold r2; rw [e1, num_d2 (by omega)]
  have e3 : r3 (tx y m d s n) = (hs s, [44] ++ (d2 d.toNat ++ ([44] ++ (d2 m.toNat ++ ([44] ++ (decDigits y.toNat ++ ([44] ++ decDigits n.toNat))))))) := by
    unfold r3; rw [e2, num_d2 (by omega)]
  have e4 : r4 (tx y m d s n) = (d.toNat, [44] ++ (d2 m.toNat ++ ([44] ++ (decDigits y.toNat ++ ([44] ++ decDigits n.toNat))))) := by
    unfold r4; rw [e3, skp_yes, num_d2 (by omega)]
  have e5 : r5 (tx y m d s n) = (m.toNat, [44] ++ (decDigits y.toNat ++ ([44] ++ decDigits n.toNat))) := by
    unfold r5; rw [e4, skp_yes, num_d2 (by omega)]
  have e6 : r6 (tx y m d s n) = (y.toNat, [44] ++ decDigits n.toNat) := by
    unfold r6; rw [e5, skp_yes, num_dec4 (by omega) (by omega)]
  have e7 : r7 (tx y m d s n) = (n.toNat, []) := by
    unfold r7; rw [e6, skp_yes, num_dec2 (by omega)]
  unfold gy gm gd gs gn
  rw [e1, e2, e3, e4, e5, e6, e7]
  refine ⟨?_, ?_, ?_, ?_, ?_⟩ <;> (simp only; omega)
/-- The bytes of the text may stand in a sentence. -/
theorem dec_len2 {u : Nat} (h : u < 100) : 1 ≤ (decDigits u).length ∧ (decDigits u).length ≤ 2 := by
  by_cases h1 : u < 10
  · rw [dec_small h1]; simp
  · rw [dec_two (by omega) h, d2_len]; omega
theorem tx_len {y m d s n : Int} (h : vf y m d s n = true) : 23 ≤ (tx y m d s n).length ∧ (tx y m d s n).length ≤ 24 := by
  obtain ⟨hv, h1, h2⟩ := vf_of h
  obtain ⟨b1, b2, b3⟩ := vld_bd hv
  have := dec_len2 (u := n.toNat) (by omega)
  have h4 : (decDigits y.toNat).length = 4 := by rw [dec_four (by omega) (by omega)]; rfl
  unfold tx
  simp only [List.length_append, List.length_cons, List.length_nil, d2_len, h4]
  omega
def okB (b : UInt8) : Prop := S.okN b.toNat
instance (b : UInt8) : Decidable (okB b) := by unfold okB; infer_instance
theorem okB_dig {k : Nat} (h : k < 10) : okB (UInt8.ofNat (48 + k)) := by
  unfold okB S.okN; rw [(dig h).2]; omega
theorem ok_d2 {k : Nat} (h : k < 100) : ∀ b ∈ d2 k, okB b := by
  intro b hb
  unfold d2 at hb
  rcases List.mem_cons.mp hb with rfl | hb
  · exact okB_dig (by omega)
  · rcases List.mem_cons.mp hb with rfl | hb
    · exact okB_dig (by omega)
    · simp at hb
theorem ok_dec : ∀ (u : Nat), ∀ b ∈ decDigits u, okB b := by
  intro u
  induction u using Nat.strongRecOn with
  | _ u ih =>
    intro b hb
    by_cases h : u < 10
    · rw [dec_small h] at hb
      rcases List.mem_cons.mp hb with rfl | hb
      · exact okB_dig h
      · simp at hb
    · rw [dec_big h] at hb
      rcases List.mem_append.mp hb with hb | hb
      · exact ih (u / 10) (by omega) b hb
      · rcases List.mem_cons.mp hb with rfl | hb
        · exact okB_dig (by omega)
        · simp at hb
theorem ok_tx {y m d s n : Int} (h : vf y m d s n = true) : ∀ b ∈ tx y m d s n, okB b := by
  obtain ⟨hv, h1, h2⟩ := vf_of h
  obtain ⟨b1, b2, b3⟩ := vld_bd hv
  obtain ⟨c1, c2, c3, c4⟩ := h_bd h1
  have o1 := ok_d2 (k := hh s) (by omega)
  have o2 := ok_d2 (k := hm s) (by omega)
  have o3 := ok_d2 (k := hs s) (by omega)
  have o4 := ok_d2 (k := d.toNat) (by omega)
  have o5 := ok_d2 (k := m.toNat) (by omega)
  have o6 := ok_dec y.toNat
  have o7 := ok_dec n.toNat
  have oc : ∀ b ∈ ([44] : List UInt8), okB b := by decide
  have of_ : ∀ b ∈ ([70, 73, 88, 44] : List UInt8), okB b := by decide
  intro b hb
  unfold tx at hb
  simp only [List.mem_append] at hb
  rcases hb with (((((((((((hb | hb) | hb) | hb) | hb) | hb) | hb) | hb) | hb) | hb) | hb) | hb)
  · exact of_ b hb
  · exact o1 b hb
  · exact o2 b hb
  · exact o3 b hb
  · exact oc b hb
  · exact o4 b hb
  · exact oc b hb
  · exact o5 b hb
  · exact oc b hb
  · exact o6 b hb
  · exact oc b hb
  · exact o7 b hb
theorem body_tx {y m d s n : Int} (h : vf y m d s n = true) : S.body (S.mk (tx y m d s n)) = true := by
  have hl := tx_len h
  refine S.body_yes (by rw [S.size_mk]; omega) (by rw [S.size_mk]; omega) (fun i hi => ?_)
  rw [S.size_mk] at hi
  rw [S.at_mk, List.getD_eq_getElem?_getD, List.getElem?_eq_getElem hi]
  exact ok_tx h _ (List.getElem_mem hi)
/-- The sentence of a fix. -/
def ff (y m d s n : Int) : ByteArray := if vf y m d s n = true then S.frame (S.mk (tx y m d s n)) else S.mk []
theorem ff_yes {y m d s n : Int} (h : vf y m d s n = true) : ff y m d s n = S.frame (S.mk (tx y m d s n)) := if_pos h
theorem ff_no {y m d s n : Int} (h : vf y m d s n = false) : ff y m d s n = S.mk [] := if_neg (by rw [h]; decide)
theorem ff_size {y m d s n : Int} (h : vf y m d s n = true) : 27 ≤ (ff y m d s n).size ∧ (ff y m d s n).size ≤ 28 := by
  rw [ff_yes h, S.frame_size (body_tx h), S.size_mk]; have := tx_len h; omega
theorem ff_ne {y m d s n : Int} (h : vf y m d s n = true) : ff y m d s n ≠ S.mk [] := fun e => by
  have := ff_size h
  rw [e, S.size_mk] at this
  simp at this
/-- What is read out of a sentence. -/
def pk (t : List UInt8) : Bool := decide (vf (gy t) (gm t) (gd t) (gs t) (gn t) = true ∧ tx (gy t) (gm t) (gd t) (gs t) (gn t) = t)
theorem pk_of {t : List UInt8} (h : pk t = true) : vf (gy t) (gm t) (gd t) (gs t) (gn t) = true ∧ tx (gy t) (gm t) (gd t) (gs t) (gn t) = t := of_decide_eq_true h
theorem pk_tx {y m d s n : Int} (h : vf y m d s n = true) : pk (tx y m d s n) = true := by
  obtain ⟨e1, e2, e3, e4, e5⟩ := scan_tx h
  unfold pk
  rw [e1, e2, e3, e4, e5]
  exact decide_eq_true ⟨h, rfl⟩
theorem pk_no {t : List UInt8} (h : pk t = false) {y m d s n : Int} (hv : vf y m d s n = true) : tx y m d s n ≠ t := fun e => by
  have := pk_tx hv
  rw [e, h] at this
  cases this
def pB (s : ByteArray) : Bool := S.rdB s && pk (S.lst (S.rdS s))
theorem pB_of {s : ByteArray} (h : pB s = true) : S.rdB s = true ∧ pk (S.lst (S.rdS s)) = true := by unfold pB at h; simpa using h
theorem pB_mk {s : ByteArray} (h : S.rdB s = true) (h' : pk (S.lst (S.rdS s)) = true) : pB s = true := by unfold pB; rw [h, h']; rfl
theorem pB_no1 {s : ByteArray} (h : S.rdB s = false) : pB s = false := by unfold pB; rw [h]; rfl
theorem pB_no2 {s : ByteArray} (h : pk (S.lst (S.rdS s)) = false) : pB s = false := by unfold pB; rw [h]; simp
def py (s : ByteArray) : Int := if pB s = true then gy (S.lst (S.rdS s)) else 0
def pm (s : ByteArray) : Int := if pB s = true then gm (S.lst (S.rdS s)) else 0
def pd (s : ByteArray) : Int := if pB s = true then gd (S.lst (S.rdS s)) else 0
def ps (s : ByteArray) : Int := if pB s = true then gs (S.lst (S.rdS s)) else 0
def pn (s : ByteArray) : Int := if pB s = true then gn (S.lst (S.rdS s)) else 0
theorem p_in {s : ByteArray} (h : pB s = true) : py s = gy (S.lst (S.rdS s)) ∧ pm s = gm (S.lst (S.rdS s)) ∧ pd s = gd (S.lst (S.rdS s)) ∧ ps s = gs (S.lst (S.rdS s)) ∧ pn s = gn (S.lst (S.rdS s)) := ⟨if_pos h, if_pos h, if_pos h, if_pos h, if_pos h⟩
theorem p_out {s : ByteArray} (h : pB s = false) : py s = 0 ∧ pm s = 0 ∧ pd s = 0 ∧ ps s = 0 ∧ pn s = 0 := by
  have k : ¬ pB s = true := by rw [h]; decide
  exact ⟨if_neg k, if_neg k, if_neg k, if_neg k, if_neg k⟩
/-- What is accepted is valid, and its sentence is the one that was read. -/
theorem p_vf {s : ByteArray} (h : pB s = true) : vf (py s) (pm s) (pd s) (ps s) (pn s) = true ∧ ff (py s) (pm s) (pd s) (ps s) (pn s) = s := by
  obtain ⟨e1, e2, e3, e4, e5⟩ := p_in h
  obtain ⟨hr, hk⟩ := pB_of h
  obtain ⟨hv, ht⟩ := pk_of hk
  rw [e1, e2, e3, e4, e5]
  refine ⟨hv, ?_⟩
  rw [ff_yes hv, ht, S.mk_lst]
  exact S.rd_frame hr
/-- A fix comes back out of its sentence. -/
theorem p_ff {y m d s n : Int} (h : vf y m d s n = true) : pB (ff y m d s n) = true ∧ py (ff y m d s n) = y ∧ pm (ff y m d s n) = m ∧ pd (ff y m d s n) = d ∧ ps (ff y m d s n) = s ∧ pn (ff y m d s n) = n := by
  have hr := S.rd_of_frame (body_tx h)
  rw [← ff_yes h] at hr
  have hb : pB (ff y m d s n) = true := pB_mk hr.1 (by rw [hr.2, S.lst_mk]; exact pk_tx h)
  obtain ⟨e1, e2, e3, e4, e5⟩ := p_in hb
  obtain ⟨g1, g2, g3, g4, g5⟩ := scan_tx h
  rw [hr.2, S.lst_mk] at e1 e2 e3 e4 e5
  exact ⟨hb, e1.trans g1, e2.trans g2, e3.trans g3, e4.trans g4, e5.trans g5⟩
/-- The program's way: the sentence of what the scanner reads is the sentence. -/
theorem pB_iff {s : ByteArray} (hr : S.rdB s = true) : pB s = true ↔ ff (gy (S.lst (S.rdS s))) (gm (S.lst (S.rdS s))) (gd (S.lst (S.rdS s))) (gs (S.lst (S.rdS s))) (gn (S.lst (S.rdS s))) = s := by
  constructor
  · intro h
    obtain ⟨e1, e2, e3, e4, e5⟩ := p_in h
    have := (p_vf h).2
    rwa [e1, e2, e3, e4, e5] at this
  · intro h
    rcases hv : vf (gy (S.lst (S.rdS s))) (gm (S.lst (S.rdS s))) (gd (S.lst (S.rdS s))) (gs (S.lst (S.rdS s))) (gn (S.lst (S.rdS s))) with _ | _
    · rw [ff_no hv] at h
      have h5 := (S.rdB_of hr).1
      rw [← h, S.size_mk] at h5
      simp at h5
    · have := (p_ff hv).1
      rwa [h] at this
end Go.Proofs.YtopaglepkpblaaaDoor.X
