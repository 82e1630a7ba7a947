/-
  The plain mathematics of polls (chapter 13).
-/
import Derived.Test.YthbfjmlkcgcgaaaDoorKMath
import Derived.Test.YthbfjmlkcgcgaaaDoorLMath
namespace Go.Proofs.YthbfjmlkcgcgaaaDoor.J
set_option linter.unusedVariables false
def Vp (p c : Int) : Prop := (4 ≤ p ∧ p ≤ 10) ∧ -30 ≤ c ∧ c ≤ 30
instance (p c : Int) : Decidable (Vp p c) := by unfold Vp; infer_instance
def vp (p c : Int) : Bool := decide (Vp p c)
theorem vp_of {p c : Int} (h : vp p c = true) : Vp p c := of_decide_eq_true h
theorem vp_yes {p c : Int} (h : Vp p c) : vp p c = true := decide_eq_true h
theorem vp_no {p c : Int} (h : ¬ Vp p c) : vp p c = false := decide_eq_false h
/-- The seconds between two polls. -/
def pw (p : Int) : Int := 2 ^ p.toNat
theorem pw_at {p : Int} (h : 4 ≤ p ∧ p ≤ 10) : (p = 4 ∧ pw p = 16) ∨ (p = 5 ∧ pw p = 32) ∨ (p = 6 ∧ pw p = 64) ∨ (p = 7 ∧ pw p = 128) ∨ (p = 8 ∧ pw p = 256) ∨ (p = 9 ∧ pw p = 512) ∨ (p = 10 ∧ pw p = 1024) := by
  rcases (by omega : p = 4 ∨ p = 5 ∨ p = 6 ∨ p = 7 ∨ p = 8 ∨ p = 9 ∨ p = 10) with rfl | rfl | rfl | rfl | rfl | rfl | rfl <;> decide
theorem pw_bd {p : Int} (h : 4 ≤ p ∧ p ≤ 10) : 16 ≤ pw p ∧ pw p ≤ 1024 := by have := pw_at h; omega
def ps (p c : Int) : Int := if vp p c = true then pw p else -1
theorem ps_yes {p c : Int} (h : vp p c = true) : ps p c = pw p := if_pos h
theorem ps_no {p c : Int} (h : vp p c = false) : ps p c = -1 := if_neg (by simp [h])
/-- A poll of a clock that is good, and of one that isn't. -/
def gp (p c : Int) : Int := if 30 ≤ c + p then min (p + 1) 10 else p
def gc (p c : Int) : Int := if 30 ≤ c + p then 0 else c + p
def bp (p c : Int) : Int := if c - 2 * p ≤ -30 then max (p - 1) 4 else p
def bc (p c : Int) : Int := if c - 2 * p ≤ -30 then 0 else c - 2 * p
def np (p c o j : Int) : Int := if K.abs o ≤ 4 * j then gp p c else bp p c
def nc (p c o j : Int) : Int := if K.abs o ≤ 4 * j then gc p c else bc p c
theorem near_yes {p c o j : Int} (h : K.abs o ≤ 4 * j) : np p c o j = gp p c ∧ nc p c o j = gc p c := ⟨if_pos h, if_pos h⟩
theorem near_no {p c o j : Int} (h : ¬ K.abs o ≤ 4 * j) : np p c o j = bp p c ∧ nc p c o j = bc p c := ⟨if_neg h, if_neg h⟩
def Ok (p c o j : Int) : Prop := vp p c = true ∧ (-1000000 ≤ o ∧ o ≤ 1000000) ∧ 0 ≤ j ∧ j ≤ 1000000
instance (p c o j : Int) : Decidable (Ok p c o j) := by unfold Ok; infer_instance
def ok (p c o j : Int) : Bool := decide (Ok p c o j)
theorem ok_of {p c o j : Int} (h : ok p c o j = true) : Ok p c o j := of_decide_eq_true h
theorem ok_yes {p c o j : Int} (h : Ok p c o j) : ok p c o j = true := decide_eq_true h
theorem ok_no {p c o j : Int} (h : ¬ Ok p c o j) : ok p c o j = false := decide_eq_false h
theorem n_vp {p c : Int} (o j : Int) (h : vp p c = true) : vp (np p c o j) (nc p c o j) = true := by
  have := vp_of h
  unfold Vp at this
  by_cases hn : K.abs o ≤ 4 * j
  · rw [(near_yes hn).1, (near_yes hn).2]
    refine vp_yes ?_
    unfold Vp gp gc
    split <;> omega
  · rw [(near_no hn).1, (near_no hn).2]
    refine vp_yes ?_
    unfold Vp bp bc
    split <;> omega
theorem abs_neg (o : Int) : K.abs (-o) = K.abs o := by unfold K.abs; split <;> split <;> omega
theorem n_neg (p c o j : Int) : np p c (-o) j = np p c o j ∧ nc p c (-o) j = nc p c o j := by unfold np nc; rw [abs_neg]; exact ⟨rfl, rfl⟩
/-- The state behind the first k polls, and the seconds till then. -/
def rn (s : Int × Int) (l : List Int) (j : Int) : Nat → Int × Int
  | 0 => s
  | k + 1 => (np (rn s l j k).1 (rn s l j k).2 (L.g l k) j, nc (rn s l j k).1 (rn s l j k).2 (L.g l k) j)
def rt (s : Int × Int) (l : List Int) (j : Int) : Nat → Int
  | 0 => 0
  | k + 1 => rt s l j k + pw (rn s l j k).1
theorem rn_vp {s : Int × Int} {l : List Int} {j : Int} (h : vp s.1 s.2 = true) : ∀ k, vp (rn s l j k).1 (rn s l j k).2 = true
  | 0 => h
  | k + 1 => n_vp _ _ (rn_vp h k)
theorem rt_bd {s : Int × Int} {l : List Int} {j : Int} (h : vp s.1 s.2 = true) : ∀ k : Nat, 16 * (k : Int) ≤ rt s l j k ∧ rt s l j k ≤ 1024 * (k : Int)
  | 0 => by show 16 * ((0 : Nat) : Int) ≤ 0 ∧ (0 : Int) ≤ 1024 * ((0 : Nat) : Int); omega
  | k + 1 => by
    have h1 := rt_bd (l := l) (j := j) h k
    have h2 := pw_bd (vp_of (rn_vp (l := l) (j := j) h k)).1
    show 16 * (((k + 1 : Nat)) : Int) ≤ rt s l j k + _ ∧ rt s l j k + _ ≤ 1024 * (((k + 1 : Nat)) : Int)
    omega
def Rk (s : Int × Int) (l : List Int) (j : Int) : Prop := vp s.1 s.2 = true ∧ (0 ≤ j ∧ j ≤ 1000000) ∧ l.length ≤ 30 ∧ ∀ i, i < l.length → -1000000 ≤ L.g l i ∧ L.g l i ≤ 1000000
instance (s : Int × Int) (l : List Int) (j : Int) : Decidable (Rk s l j) := by unfold Rk; infer_instance
def rk (s : Int × Int) (l : List Int) (j : Int) : Bool := decide (Rk s l j)
theorem rk_of {s : Int × Int} {l : List Int} {j : Int} (h : rk s l j = true) : Rk s l j := of_decide_eq_true h
theorem rk_yes {s : Int × Int} {l : List Int} {j : Int} (h : Rk s l j) : rk s l j = true := decide_eq_true h
theorem rk_no {s : Int × Int} {l : List Int} {j : Int} (h : ¬ Rk s l j) : rk s l j = false := decide_eq_false h
/-- What RunPolls tells. -/
def re (s : Int × Int) (l : List Int) (j : Int) : Int × Int := if rk s l j = true then rn s l j l.length else (0, 0)
def rs (s : Int × Int) (l : List Int) (j : Int) : Int := if rk s l j = true then rt s l j l.length else 0
theorem re_yes {s : Int × Int} {l : List Int} {j : Int} (h : rk s l j = true) : re s l j = rn s l j l.length ∧ rs s l j = rt s l j l.length := ⟨if_pos h, if_pos h⟩
theorem re_no {s : Int × Int} {l : List Int} {j : Int} (h : rk s l j = false) : re s l j = (0, 0) ∧ rs s l j = 0 := ⟨if_neg (by simp [h]), if_neg (by simp [h])⟩
theorem rn_take (s : Int × Int) (l : List Int) (j : Int) (h : Nat) : ∀ k, k ≤ h → rn s (l.take h) j k = rn s l j k ∧ rt s (l.take h) j k = rt s l j k
  | 0, _ => ⟨rfl, rfl⟩
  | k + 1, hk => by
    obtain ⟨h1, h2⟩ := rn_take s l j h k (by omega)
    have hg : L.g (l.take h) k = L.g l k := by
      unfold L.g
      rw [List.getD_eq_getElem?_getD, List.getD_eq_getElem?_getD, List.getElem?_take_of_lt (by omega)]
    constructor
    · show (np _ _ _ _, nc _ _ _ _) = (np _ _ _ _, nc _ _ _ _)
      rw [h1, hg]
    · show rt _ _ _ _ + pw _ = rt _ _ _ _ + pw _
      rw [h1, h2]
theorem rn_drop (s : Int × Int) (l : List Int) (j : Int) (h : Nat) : ∀ k, rn (rn s l j h) (l.drop h) j k = rn s l j (h + k) ∧ rt s l j h + rt (rn s l j h) (l.drop h) j k = rt s l j (h + k)
  | 0 => ⟨rfl, by show _ + (0 : Int) = _; rw [Int.add_zero]; rfl⟩
  | k + 1 => by
    obtain ⟨h1, h2⟩ := rn_drop s l j h k
    have hg : L.g (l.drop h) k = L.g l (h + k) := by
      unfold L.g
      rw [List.getD_eq_getElem?_getD, List.getD_eq_getElem?_getD, List.getElem?_drop]
    constructor
    · show (np _ _ _ _, nc _ _ _ _) = (np _ _ _ _, nc _ _ _ _)
      rw [h1, hg]; rfl
    · show _ + (rt _ _ _ _ + pw _) = rt _ _ _ _ + pw _
      rw [h1, ← Int.add_assoc, h2]; rfl
/-- A clock without offsets is good. -/
theorem rn_good {s : Int × Int} {j : Int} {l : List Int} (hs : vp s.1 s.2 = true) (hj : 0 ≤ j) (hl : ∀ i, L.g l i = 0) : ∀ k, s.1 ≤ (rn s l j k).1
  | 0 => Int.le_refl _
  | k + 1 => by
    have h1 := rn_good hs hj hl k
    have h2 := vp_of (rn_vp (l := l) (j := j) hs k)
    have h3 : K.abs (L.g l k) ≤ 4 * j := by rw [hl k]; show (if (0 : Int) < 0 then _ else _) ≤ _; simp; omega
    show s.1 ≤ np _ _ _ _
    rw [(near_yes h3).1]
    unfold gp
    unfold Vp at h2
    split <;> omega
end Go.Proofs.YthbfjmlkcgcgaaaDoor.J
