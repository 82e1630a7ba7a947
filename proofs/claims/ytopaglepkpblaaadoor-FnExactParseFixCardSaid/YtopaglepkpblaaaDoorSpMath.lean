/-
  The plain mathematics of the model's way to read a fix: a text cut at its commas, numbers of digits. No program is read here.
-/
import Derived.Test.YtopaglepkpblaaaDoorTxMath
namespace Go.Proofs.YtopaglepkpblaaaDoor.X
open Go.Lib
set_option linter.unusedVariables false
/-- A text cut at every byte of a kind. -/
def sp (c : UInt8) : List UInt8 → List UInt8 → List (List UInt8)
  | [], acc => [acc]
  | b :: t, acc => if b = c then acc :: sp c t [] else sp c t (acc ++ [b])
theorem sp_yes (c : UInt8) (t acc : List UInt8) : sp c (c :: t) acc = acc :: sp c t [] := if_pos rfl
theorem sp_no {c b : UInt8} (h : b ≠ c) (t acc : List UInt8) : sp c (b :: t) acc = sp c t (acc ++ [b]) := if_neg h
theorem sp_len (c : UInt8) : ∀ l acc, 1 ≤ (sp c l acc).length ∧ (sp c l acc).length ≤ l.length + 1
  | [], _ => by simp [sp]
  | b :: t, acc => by
    unfold sp
    split
    · have := sp_len c t []; simp; omega
    · have := sp_len c t (acc ++ [b]); simp; omega
theorem sp_app {c : UInt8} : ∀ (a : List UInt8) (t acc : List UInt8), (∀ b ∈ a, b ≠ c) → sp c (a ++ c :: t) acc = (acc ++ a) :: sp c t []
  | [], t, acc, _ => by rw [List.nil_append, sp_yes, List.append_nil]
  | b :: a, t, acc, h => by
    rw [List.cons_append, sp_no (h b (by simp)), sp_app a t _ (fun x hx => h x (by simp [hx]))]
    simp
theorem sp_last {c : UInt8} : ∀ (a acc : List UInt8), (∀ b ∈ a, b ≠ c) → sp c a acc = [acc ++ a]
  | [], acc, _ => by simp [sp]
  | b :: a, acc, h => by
    rw [sp_no (h b (by simp)), sp_last a _ (fun x hx => h x (by simp [hx]))]
    simp
/-- The number that digits are. -/
def vl : Nat → List UInt8 → Nat
  | n, [] => n
  | n, b :: t => vl (10 * n + (b.toNat - 48)) t
theorem vl_snoc : ∀ (l : List UInt8) (n : Nat) (b : UInt8), vl n (l ++ [b]) = 10 * vl n l + (b.toNat - 48)
  | [], n, b => rfl
  | a :: l, n, b => vl_snoc l _ b
theorem vl_bd : ∀ (l : List UInt8) (n : Nat), (∀ b ∈ l, isD b = true) → vl n l < (n + 1) * 10 ^ l.length
  | [], n, _ => by show n < (n + 1) * 10 ^ 0; omega
  | b :: l, n, h => by
    have hb := isD_of (h b (by simp))
    have := vl_bd l (10 * n + (b.toNat - 48)) (fun x hx => h x (by simp [hx]))
    show vl (10 * n + (b.toNat - 48)) l < _
    refine Nat.lt_of_lt_of_le this ?_
    rw [List.length_cons, Nat.pow_succ, Nat.mul_comm (10 ^ l.length) 10, ← Nat.mul_assoc]
    exact Nat.mul_le_mul_right _ (by omega)
/-- The number of at most k digits, -1 for other texts. -/
def rd (k : Nat) (l : List UInt8) : Int := if (1 ≤ l.length ∧ l.length ≤ k) ∧ ∀ b ∈ l, isD b = true then (vl 0 l : Int) else -1
theorem rd_yes {k : Nat} {l : List UInt8} (h : 1 ≤ l.length) (h' : l.length ≤ k) (hd : ∀ b ∈ l, isD b = true) : rd k l = vl 0 l := if_pos ⟨⟨h, h'⟩, hd⟩
theorem rd_long {k : Nat} {l : List UInt8} (h : ¬ (1 ≤ l.length ∧ l.length ≤ k)) : rd k l = -1 := if_neg (fun q => h q.1)
theorem rd_bad {k : Nat} {l : List UInt8} {b : UInt8} (hb : b ∈ l) (h : isD b = false) : rd k l = -1 := if_neg (fun q => by have := q.2 b hb; rw [h] at this; cases this)
theorem rd_bd (k : Nat) (l : List UInt8) : -1 ≤ rd k l ∧ rd k l < 10 ^ k := by
  unfold rd
  split
  · rename_i h
    have := vl_bd l 0 h.2
    have h2 : 10 ^ l.length ≤ 10 ^ k := Nat.pow_le_pow_right (by omega) h.1.2
    have h3 : ((10 ^ k : Nat) : Int) = (10 : Int) ^ k := by simp
    omega
  · have h3 : ((10 ^ k : Nat) : Int) = (10 : Int) ^ k := by simp
    have : 0 < 10 ^ k := Nat.pos_of_ne_zero (by simp)
    omega
theorem d2_dig {k : Nat} (h : k < 100) : ∀ b ∈ d2 k, isD b = true := by
  intro b hb
  unfold d2 at hb
  rcases List.mem_cons.mp hb with rfl | hb
  · exact (dig (by omega)).1
  · rcases List.mem_cons.mp hb with rfl | hb
    · exact (dig (by omega)).1
    · simp at hb
theorem dec_dig : ∀ (u : Nat), ∀ b ∈ decDigits u, isD b = true := by
  intro u
  induction u using Nat.strongRecOn with
  | _ u ih =>
    intro b hb
    by_cases h : u < 10
    · rw [dec_small h] at hb
      rcases List.mem_cons.mp hb with rfl | hb
      · exact (dig h).1
      · simp at hb
    · rw [dec_big h] at hb
      rcases List.mem_append.mp hb with hb | hb
      · exact ih (u / 10) (by omega) b hb
      · rcases List.mem_cons.mp hb with rfl | hb
        · exact (dig (by omega)).1
        · simp at hb
theorem vl_dec : ∀ (u : Nat), vl 0 (decDigits u) = u := by
  intro u
  induction u using Nat.strongRecOn with
  | _ u ih =>
    by_cases h : u < 10
    · rw [dec_small h]
      show 10 * 0 + ((UInt8.ofNat (48 + u)).toNat - 48) = u
      rw [(dig h).2]; omega
    · rw [dec_big h, vl_snoc, ih (u / 10) (by omega), (dig (k := u % 10) (by omega)).2]
      omega
theorem vl_d2 {k : Nat} (h : k < 100) : vl 0 (d2 k) = k := by
  show 10 * (10 * 0 + ((UInt8.ofNat (48 + k / 10)).toNat - 48)) + ((UInt8.ofNat (48 + k % 10)).toNat - 48) = k
  rw [(dig (k := k / 10) (by omega)).2, (dig (k := k % 10) (by omega)).2]
  omega
theorem rd_d2 {k : Nat} (h : k < 100) : rd 2 (d2 k) = k := by rw [rd_yes (by rw [d2_len]; omega) (by rw [d2_len]; omega) (d2_dig h), vl_d2 h]
theorem rd_dec {k u : Nat} (h : (decDigits u).length ≤ k) (h' : 1 ≤ (decDigits u).length) : rd k (decDigits u) = u := by rw [rd_yes h' h (dec_dig u), vl_dec]
theorem dig_no {b : UInt8} (h : isD b = true) : b ≠ 44 := fun e => by rw [e] at h; exact absurd h (by decide)
/-- The pieces of the text of a fix. -/
theorem sp_tx {y m d s n : Int} (h : vf y m d s n = true) : sp 44 (tx y m d s n) [] = [[70, 73, 88], d2 (hh s) ++ d2 (hm s) ++ d2 (hs s), d2 d.toNat, d2 m.toNat, decDigits y.toNat, decDigits n.toNat] := by
  obtain ⟨hv, h1, h2⟩ := vf_of h
  obtain ⟨b1, b2, b3⟩ := vld_bd hv
  obtain ⟨c1, c2, c3, c4⟩ := h_bd h1
  have e : tx y m d s n = [70, 73, 88] ++ 44 :: ((d2 (hh s) ++ d2 (hm s) ++ d2 (hs s)) ++ 44 :: (d2 d.toNat ++ 44 :: (d2 m.toNat ++ 44 :: (decDigits y.toNat ++ 44 :: decDigits n.toNat)))) := by
    unfold tx; simp
  rw [e, sp_app _ _ _ (by decide), sp_app _ _ _ ?_, sp_app _ _ _ (fun b hb => dig_no (d2_dig (by omega) b hb)), sp_app _ _ _ (fun b hb => dig_no (d2_dig (by omega) b hb)), sp_app _ _ _ (fun b hb => dig_no (dec_dig _ b hb)), sp_last _ _ (fun b hb => dig_no (dec_dig _ b hb))]
  · simp
  · intro b hb
    simp only [List.mem_append] at hb
    rcases hb with (hb | hb) | hb
    · exact dig_no (d2_dig (by omega) b hb)
    · exact dig_no (d2_dig (by omega) b hb)
    · exact dig_no (d2_dig (by omega) b hb)
/-- A piece, or nothing. -/
def pc (t : List UInt8) (i : Nat) : List UInt8 := (sp 44 t []).getD i []
def q1 (t : List UInt8) : Bool := decide ((sp 44 t []).length = 6 ∧ pc t 0 = [70, 73, 88] ∧ (pc t 1).length = 6)
theorem q1_of {t : List UInt8} (h : q1 t = true) : (sp 44 t []).length = 6 ∧ pc t 0 = [70, 73, 88] ∧ (pc t 1).length = 6 := of_decide_eq_true h
def qh (t : List UInt8) : Int := rd 2 ((pc t 1).take 2)
def qm (t : List UInt8) : Int := rd 2 (((pc t 1).drop 2).take 2)
def qs (t : List UInt8) : Int := rd 2 ((pc t 1).drop 4)
def qd (t : List UInt8) : Int := rd 2 (pc t 2)
def qo (t : List UInt8) : Int := rd 2 (pc t 3)
def qy (t : List UInt8) : Int := rd 4 (pc t 4)
def qn (t : List UInt8) : Int := rd 2 (pc t 5)
def qt (t : List UInt8) : Int := 3600 * qh t + 60 * qm t + qs t
def qk (t : List UInt8) : Prop := q1 t = true ∧ 0 ≤ qh t ∧ 0 ≤ qm t ∧ 0 ≤ qs t ∧ vf (qy t) (qo t) (qd t) (qt t) (qn t) = true ∧ tx (qy t) (qo t) (qd t) (qt t) (qn t) = t
/-- What the model accepts it reads as the scanner does. -/
theorem qk_pk {t : List UInt8} (h : qk t) : pk t = true ∧ gy t = qy t ∧ gm t = qo t ∧ gd t = qd t ∧ gs t = qt t ∧ gn t = qn t := by
  obtain ⟨-, -, -, -, hv, ht⟩ := h
  have h1 := pk_tx hv
  have h2 := scan_tx hv
  rw [ht] at h1 h2
  exact ⟨h1, h2⟩
theorem qk_tx {y m d s n : Int} (h : vf y m d s n = true) : qk (tx y m d s n) := by
  obtain ⟨hv, h1, h2⟩ := vf_of h
  obtain ⟨b1, b2, b3⟩ := vld_bd hv
  obtain ⟨c1, c2, c3, c4⟩ := h_bd h1
  have hs6 := sp_tx h
  have p0 : pc (tx y m d s n) 0 = [70, 73, 88] := by unfold pc; rw [hs6]; rfl
  have p1 : pc (tx y m d s n) 1 = d2 (hh s) ++ d2 (hm s) ++ d2 (hs s) := by unfold pc; rw [hs6]; rfl
  have p2 : pc (tx y m d s n) 2 = d2 d.toNat := by unfold pc; rw [hs6]; rfl
  have p3 : pc (tx y m d s n) 3 = d2 m.toNat := by unfold pc; rw [hs6]; rfl
  have p4 : pc (tx y m d s n) 4 = decDigits y.toNat := by unfold pc; rw [hs6]; rfl
  have p5 : pc (tx y m d s n) 5 = decDigits n.toNat := by unfold pc; rw [hs6]; rfl
  have eh : qh (tx y m d s n) = hh s := by
    unfold qh; rw [p1, show (d2 (hh s) ++ d2 (hm s) ++ d2 (hs s)).take 2 = d2 (hh s) from rfl]; exact rd_d2 (by omega)
  have em : qm (tx y m d s n) = hm s := by
    unfold qm; rw [p1, show ((d2 (hh s) ++ d2 (hm s) ++ d2 (hs s)).drop 2).take 2 = d2 (hm s) from rfl]; exact rd_d2 (by omega)
  have es : qs (tx y m d s n) = hs s := by
    unfold qs; rw [p1, show (d2 (hh s) ++ d2 (hm s) ++ d2 (hs s)).drop 4 = d2 (hs s) from rfl]; exact rd_d2 (by omega)
  have ed : qd (tx y m d s n) = d := by unfold qd; rw [p2, rd_d2 (by omega)]; omega
  have eo : qo (tx y m d s n) = m := by unfold qo; rw [p3, rd_d2 (by omega)]; omega
  have hl4 : (decDigits y.toNat).length = 4 := by rw [dec_four (by omega) (by omega)]; rfl
  have hl2 := dec_len2 (u := n.toNat) (by omega)
  have ey : qy (tx y m d s n) = y := by unfold qy; rw [p4, rd_dec (by omega) (by omega)]; omega
  have en : qn (tx y m d s n) = n := by unfold qn; rw [p5, rd_dec hl2.2 hl2.1]; omega
  have et : qt (tx y m d s n) = s := by unfold qt; rw [eh, em, es]; omega
  refine ⟨decide_eq_true ⟨by rw [hs6]; rfl, p0, by rw [p1]; rfl⟩, by rw [eh]; omega, by rw [em]; omega, by rw [es]; omega, ?_, ?_⟩
  · rw [ey, eo, ed, et, en]; exact h
  · rw [ey, eo, ed, et, en]
theorem pk_qk {t : List UInt8} (h : pk t = true) : qk t := by
  obtain ⟨hv, ht⟩ := pk_of h
  have := qk_tx hv
  rwa [ht] at this
end Go.Proofs.YtopaglepkpblaaaDoor.X
