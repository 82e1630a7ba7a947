/-
  One text of several: Math SMath FxMath TxMath SpMath WdMath HMath QMath BMath ZMath LMath KMath RunM.
-/
import Derived.Laws.Strings
import Derived.Lib.ItoaNum
import Derived.Lib.Strings
import Derived.Lib.SplitLaws
import Derived.Lib.IndexBytes
import Derived.IntWalk
/-
  The plain arithmetic of dates and weeks: leap years, days of months, numbers of days, dates of days. No program is read here.
-/
namespace Go.Proofs.YtpfdjmffgbbmdaaGreatDoor.M

/-- A year of 1980..2099 with 366 days. -/
def leapB (y : Int) : Bool := decide (y % 4 = 0)
def lp (y : Int) : Int := if y % 4 = 0 then 1 else 0
def okYear (y : Int) : Bool := decide (1980 ≤ y ∧ y ≤ 2099)
def isLeap (y : Int) : Bool := decide ((1980 ≤ y ∧ y ≤ 2099) ∧ y % 4 = 0)
/-- Days of a month. -/
def dim (y m : Int) : Int := if m = 2 then 28 + lp y else if m = 4 ∨ m = 6 ∨ m = 9 ∨ m = 11 then 30 else 31
def mdays (y m : Int) : Int := if (1980 ≤ y ∧ y ≤ 2099) ∧ 1 ≤ m ∧ m ≤ 12 then dim y m else -1
def vld (y m d : Int) : Bool := decide ((1980 ≤ y ∧ y ≤ 2099) ∧ (1 ≤ m ∧ m ≤ 12) ∧ 1 ≤ d ∧ d ≤ dim y m)
/-- Days from the first day of 1980 to that of a year. -/
def dby (y : Int) : Int := 365 * (y - 1980) + (y - 1977) / 4
/-- Days of a year before a month. -/
def cum (y m : Int) : Int :=
  if m = 1 then 0 else if m = 2 then 31 else if m = 3 then 59 + lp y else if m = 4 then 90 + lp y else if m = 5 then 120 + lp y else if m = 6 then 151 + lp y
  else if m = 7 then 181 + lp y else if m = 8 then 212 + lp y else if m = 9 then 243 + lp y else if m = 10 then 273 + lp y else if m = 11 then 304 + lp y else if m = 12 then 334 + lp y else 365 + lp y
def num (y m d : Int) : Int := dby y + cum y m + d - 1
def dayOf (y m d : Int) : Int := if vld y m d = true then num y m d else -1
def wday (n : Int) : Int := if 0 ≤ n ∧ n ≤ 43829 then (n + 2) % 7 else -1

/-! Weeks. -/
def gps (d s : Int) : Int := if (5 ≤ d ∧ d ≤ 43829) ∧ 0 ≤ s ∧ s ≤ 86399 then (d - 5) * 86400 + s else -1
def weekOf (t : Int) : Int := if 0 ≤ t ∧ t ≤ 3786479999 then t / 604800 else -1
def secOf (t : Int) : Int := if 0 ≤ t ∧ t ≤ 3786479999 then t % 604800 else -1
def shortOf (t : Int) : Int := if 0 ≤ t ∧ t ≤ 3786479999 then t / 604800 % 1024 else -1
def full (s f : Int) : Int := if (0 ≤ s ∧ s ≤ 1023) ∧ 0 ≤ f ∧ f ≤ 6000 then f + (s - f % 1024 + 1024) % 1024 else -1
def timeAt (s x f : Int) : Int := if ((0 ≤ s ∧ s ≤ 1023) ∧ 0 ≤ f ∧ f ≤ 6000) ∧ (0 ≤ x ∧ x ≤ 604799) ∧ full s f * 604800 + x ≤ 3786479999 then full s f * 604800 + x else -1
theorem full_in (s f : Int) (h : (0 ≤ s ∧ s ≤ 1023) ∧ 0 ≤ f ∧ f ≤ 6000) : 0 ≤ full s f ∧ full s f ≤ 7023 ∧ f ≤ full s f ∧ full s f ≤ f + 1023 ∧ full s f % 1024 = s := by
  unfold full; rw [if_pos h]; omega
theorem full_out (s f : Int) (h : ¬ ((0 ≤ s ∧ s ≤ 1023) ∧ 0 ≤ f ∧ f ≤ 6000)) : full s f = -1 := by unfold full; rw [if_neg h]

theorem gps_in (d s : Int) (h : (5 ≤ d ∧ d ≤ 43829) ∧ 0 ≤ s ∧ s ≤ 86399) : gps d s = (d - 5) * 86400 + s := by unfold gps; rw [if_pos h]
theorem gps_out (d s : Int) (h : ¬ ((5 ≤ d ∧ d ≤ 43829) ∧ 0 ≤ s ∧ s ≤ 86399)) : gps d s = -1 := by unfold gps; rw [if_neg h]
theorem weekOf_in (t : Int) (h : 0 ≤ t ∧ t ≤ 3786479999) : weekOf t = t / 604800 := by unfold weekOf; rw [if_pos h]
theorem weekOf_out (t : Int) (h : ¬ (0 ≤ t ∧ t ≤ 3786479999)) : weekOf t = -1 := by unfold weekOf; rw [if_neg h]
theorem secOf_in (t : Int) (h : 0 ≤ t ∧ t ≤ 3786479999) : secOf t = t % 604800 := by unfold secOf; rw [if_pos h]
theorem secOf_out (t : Int) (h : ¬ (0 ≤ t ∧ t ≤ 3786479999)) : secOf t = -1 := by unfold secOf; rw [if_neg h]
theorem shortOf_in (t : Int) (h : 0 ≤ t ∧ t ≤ 3786479999) : shortOf t = t / 604800 % 1024 := by unfold shortOf; rw [if_pos h]
theorem shortOf_out (t : Int) (h : ¬ (0 ≤ t ∧ t ≤ 3786479999)) : shortOf t = -1 := by unfold shortOf; rw [if_neg h]
theorem wday_in (n : Int) (h : 0 ≤ n ∧ n ≤ 43829) : wday n = (n + 2) % 7 := by unfold wday; rw [if_pos h]
theorem wday_out (n : Int) (h : ¬ (0 ≤ n ∧ n ≤ 43829)) : wday n = -1 := by unfold wday; rw [if_neg h]
theorem full_is (s f : Int) (h : (0 ≤ s ∧ s ≤ 1023) ∧ 0 ≤ f ∧ f ≤ 6000) : full s f = f + (s - f % 1024 + 1024) % 1024 := by unfold full; rw [if_pos h]
theorem timeAt_in (s x f : Int) (h : ((0 ≤ s ∧ s ≤ 1023) ∧ 0 ≤ f ∧ f ≤ 6000) ∧ (0 ≤ x ∧ x ≤ 604799) ∧ full s f * 604800 + x ≤ 3786479999) : timeAt s x f = full s f * 604800 + x := by unfold timeAt; rw [if_pos h]
theorem timeAt_out (s x f : Int) (h : ¬ (((0 ≤ s ∧ s ≤ 1023) ∧ 0 ≤ f ∧ f ≤ 6000) ∧ (0 ≤ x ∧ x ≤ 604799) ∧ full s f * 604800 + x ≤ 3786479999)) : timeAt s x f = -1 := by unfold timeAt; rw [if_neg h]

/-- The steps of the calendar of eras, as the program takes them. -/
def doe (n : Int) : Int := (n + 723120) % 146097
def yoe (n : Int) : Int := (doe n - (doe n / 1460 - doe n / 36524 + doe n / 146096)) / 365
def doy (n : Int) : Int := doe n - (365 * yoe n + yoe n / 4 - yoe n / 100)
def mp (n : Int) : Int := (5 * doy n + 2) / 153
def eraY (n : Int) : Int := (n + 723120) / 146097 * 400 + yoe n
def dateY (n : Int) : Int := if mp n + 3 > 12 then eraY n + 1 else eraY n
def dateM (n : Int) : Int := if mp n + 3 > 12 then mp n + 3 - 12 else mp n + 3
def dateD (n : Int) : Int := doy n - (153 * mp n + 2) / 5 + 1

/-! Laws of the calendar. -/
theorem lp_bd (y : Int) : 0 ≤ lp y ∧ lp y ≤ 1 := by unfold lp; split <;> omega
theorem lp_eq (y : Int) : (y % 4 = 0 ∧ lp y = 1) ∨ (y % 4 ≠ 0 ∧ lp y = 0) := by unfold lp; split <;> simp_all
theorem dby_succ (y : Int) : dby (y + 1) = dby y + 365 + lp y := by unfold dby lp; split <;> omega
theorem dby_mono (y z : Int) (h : y < z) : dby y + 365 + lp y ≤ dby z := by
  have := dby_succ y
  unfold dby at *; omega
theorem dim_bd (y m : Int) : 28 ≤ dim y m ∧ dim y m ≤ 31 := by
  have := lp_bd y
  unfold dim; split <;> (try split) <;> omega
theorem months {m : Int} (h : 1 ≤ m ∧ m ≤ 12) : m = 1 ∨ m = 2 ∨ m = 3 ∨ m = 4 ∨ m = 5 ∨ m = 6 ∨ m = 7 ∨ m = 8 ∨ m = 9 ∨ m = 10 ∨ m = 11 ∨ m = 12 := by omega
theorem cum_one (y : Int) : cum y 1 = 0 := by simp [cum]
theorem cum_succ (y m : Int) (h : 1 ≤ m ∧ m ≤ 12) : cum y (m + 1) = cum y m + dim y m := by
  rcases months h with rfl | rfl | rfl | rfl | rfl | rfl | rfl | rfl | rfl | rfl | rfl | rfl <;> simp [cum, dim] <;> omega
theorem cum_last (y : Int) : cum y 13 = 365 + lp y := by simp [cum]
theorem cum_up (y m : Int) (h : 1 ≤ m ∧ m ≤ 12) : cum y m + 28 ≤ cum y (m + 1) := by
  rw [cum_succ y m h]; have := dim_bd y m; omega
theorem cum_mono (y m : Int) (h : 1 ≤ m) : ∀ k : Nat, m + k ≤ 13 → cum y m ≤ cum y (m + k)
  | 0, _ => by simp
  | k + 1, h2 => by
    have a := cum_mono y m h k (by omega)
    have b := cum_up y (m + k) (by omega)
    rw [show m + ((k + 1 : Nat) : Int) = m + k + 1 from by omega]; omega
theorem cum_lt (y m k : Int) (h : 1 ≤ m) (hk : m < k) (h2 : k ≤ 13) : cum y m + dim y m ≤ cum y k := by
  rw [← cum_succ y m (by omega)]
  have := cum_mono y (m + 1) (by omega) (k - (m + 1)).toNat (by omega)
  rwa [show m + 1 + (((k - (m + 1)).toNat : Nat) : Int) = k from by omega] at this
theorem cum_bd (y m : Int) (h : 1 ≤ m ∧ m ≤ 13) : 0 ≤ cum y m ∧ cum y m ≤ 365 + lp y := by
  have a := cum_mono y 1 (by omega) (m - 1).toNat (by omega)
  have b := cum_mono y m h.1 (13 - m).toNat (by omega)
  rw [show (1 : Int) + (((m - 1).toNat : Nat) : Int) = m from by omega, cum_one] at a
  rw [show m + (((13 - m).toNat : Nat) : Int) = 13 from by omega, cum_last] at b
  exact ⟨a, b⟩
/-- A day of a year is before the next year. -/
theorem cum_in (y m d : Int) (hm : 1 ≤ m ∧ m ≤ 12) (hd : d ≤ dim y m) : cum y m + d ≤ 365 + lp y := by
  have := cum_lt y m 13 hm.1 (by omega) (by omega)
  rw [cum_last] at this; omega
/-- The date of a number, or 0, 0, 0. -/
def dtY (n : Int) : Int := if 0 ≤ n ∧ n ≤ 43829 then dateY n else 0
def dtM (n : Int) : Int := if 0 ≤ n ∧ n ≤ 43829 then dateM n else 0
def dtD (n : Int) : Int := if 0 ≤ n ∧ n ≤ 43829 then dateD n else 0
theorem dt_out {n : Int} (h : ¬ (0 ≤ n ∧ n ≤ 43829)) : dtY n = 0 ∧ dtM n = 0 ∧ dtD n = 0 := ⟨if_neg h, if_neg h, if_neg h⟩
theorem dt_in {n : Int} (h : 0 ≤ n ∧ n ≤ 43829) : dtY n = dateY n ∧ dtM n = dateM n ∧ dtD n = dateD n := ⟨if_pos h, if_pos h, if_pos h⟩
/-- What is said of the date of a day. -/
structure Good (n : Int) : Prop where
  doy0 : 0 ≤ doy n
  doy1 : doy n ≤ 365
  yoe0 : 0 ≤ yoe n
  yoe1 : yoe n ≤ 399
  mp0 : 0 ≤ mp n
  mp1 : mp n ≤ 11
  y0 : 1980 ≤ dateY n
  y1 : dateY n ≤ 2099
  m0 : 1 ≤ dateM n
  m1 : dateM n ≤ 12
  d0 : 1 ≤ dateD n
  d1 : dateD n ≤ dim (dateY n) (dateM n)
  back : num (dateY n) (dateM n) (dateD n) = n


/-- The first of March of a year from 1979 on. -/
def mar (z : Int) : Int := 365 * (z - 1980) + (z - 1976) / 4 + 59
theorem year5 (e : Int) (h0 : 0 ≤ e) (h1 : e ≤ 36464) : 0 ≤ (e - e / 1460) / 365 ∧ (e - e / 1460) / 365 ≤ 99 ∧ 0 ≤ e - (365 * ((e - e / 1460) / 365) + (e - e / 1460) / 365 / 4)
    ∧ e - (365 * ((e - e / 1460) / 365) + (e - e / 1460) / 365 / 4) ≤ 364 + ((e - e / 1460) / 365 + 1) / 4 - (e - e / 1460) / 365 / 4 := by omega
theorem year4 (e : Int) (h0 : 138732 ≤ e) (h1 : e ≤ 146096) : 379 ≤ (e - e / 1460 + 3) / 365 ∧ (e - e / 1460 + 3) / 365 ≤ 399 ∧ 0 ≤ e - (365 * ((e - e / 1460 + 3) / 365) + (e - e / 1460 + 3) / 365 / 4 - 3)
    ∧ e - (365 * ((e - e / 1460 + 3) / 365) + (e - e / 1460 + 3) / 365 / 4 - 3) ≤ 364 + ((e - e / 1460 + 3) / 365 + 1) / 4 - (e - e / 1460 + 3) / 365 / 4 := by omega
theorem year_of (n : Int) (h0 : 0 ≤ n) (h1 : n ≤ 43829) : 0 ≤ yoe n ∧ yoe n ≤ 399 ∧ 1979 ≤ eraY n ∧ eraY n ≤ 2099 ∧ doy n = n - mar (eraY n) ∧ 0 ≤ doy n ∧ doy n ≤ 364 + (eraY n + 1) / 4 - eraY n / 4 := by
  by_cases h : 7365 ≤ n
  · have e1 : doe n = n - 7365 := by unfold doe; omega
    have q := year5 (n - 7365) (by omega) (by omega)
    have e2 : yoe n = (n - 7365 - (n - 7365) / 1460) / 365 := by
      unfold yoe; rw [e1, show (n - 7365) / 36524 = 0 from by omega, show (n - 7365) / 146096 = 0 from by omega]; simp
    rw [← e2] at q
    have e3 : (n + 723120) / 146097 = 5 := by omega
    have e4 : doy n = n - 7365 - (365 * yoe n + yoe n / 4) := by unfold doy; rw [e1]; omega
    have g1 : (5 * 400 + yoe n + 1) / 4 = 500 + (yoe n + 1) / 4 := by omega
    have g2 : (5 * 400 + yoe n) / 4 = 500 + yoe n / 4 := by omega
    unfold eraY mar; rw [e3]; clear e1 e2 e3; refine ⟨by omega, by omega, by omega, by omega, by omega, by omega, ?_⟩; rw [g1, g2]; omega
  · have e1 : doe n = n + 138732 := by unfold doe; omega
    have q := year4 (n + 138732) (by omega) (by omega)
    have e2 : yoe n = (n + 138732 - (n + 138732) / 1460 + 3) / 365 := by
      unfold yoe; rw [e1]; congr 1; omega
    rw [← e2] at q
    have e3 : (n + 723120) / 146097 = 4 := by omega
    have e4 : doy n = n + 138732 - (365 * yoe n + yoe n / 4 - 3) := by unfold doy; rw [e1]; omega
    have g1 : (4 * 400 + yoe n + 1) / 4 = 400 + (yoe n + 1) / 4 := by omega
    have g2 : (4 * 400 + yoe n) / 4 = 400 + yoe n / 4 := by omega
    unfold eraY mar; rw [e3]; clear e1 e2 e3; refine ⟨by omega, by omega, by omega, by omega, by omega, by omega, ?_⟩; rw [g1, g2]; omega
theorem good (n : Int) (h0 : 0 ≤ n) (h1 : n ≤ 43829) : Good n := by
  obtain ⟨a1, a2, a3, a4, a5, a6, a7⟩ := year_of n h0 h1
  generalize hz : eraY n = z at *
  have b0 : 0 ≤ mp n ∧ mp n ≤ 11 := by unfold mp; omega
  have b1 : (153 * mp n + 2) / 5 ≤ doy n ∧ doy n < (153 * (mp n + 1) + 2) / 5 := by unfold mp; omega
  have hl := lp_eq z
  have hk := lp_eq (z + 1)
  have g3 : (z - 1976) / 4 = (z - 1977) / 4 + lp z := by
    have : z % 4 = 0 ∨ z % 4 = 1 ∨ z % 4 = 2 ∨ z % 4 = 3 := by omega
    rcases this with h | h | h | h <;> omega
  have g4 : (z + 1) / 4 = z / 4 + lp (z + 1) := by
    have : z % 4 = 0 ∨ z % 4 = 1 ∨ z % 4 = 2 ∨ z % 4 = 3 := by omega
    rcases this with h | h | h | h <;> omega
  have hm : mp n = 0 ∨ mp n = 1 ∨ mp n = 2 ∨ mp n = 3 ∨ mp n = 4 ∨ mp n = 5 ∨ mp n = 6 ∨ mp n = 7 ∨ mp n = 8 ∨ mp n = 9 ∨ mp n = 10 ∨ mp n = 11 := by omega
  unfold mar at a5
  rcases hm with hm | hm | hm | hm | hm | hm | hm | hm | hm | hm | hm | hm
  all_goals
    have hY : dateY n = (if mp n + 3 > 12 then eraY n + 1 else eraY n) := rfl
    have hM : dateM n = (if mp n + 3 > 12 then mp n + 3 - 12 else mp n + 3) := rfl
    have hD : dateD n = doy n - (153 * mp n + 2) / 5 + 1 := rfl
    rw [hm, hz] at hY
    rw [hm] at hM hD
    simp at hY hM hD
    rw [hm] at b1
    simp at b1
    have l0 := lp_bd z
    have l1 := lp_bd (z + 1)
    clear hl hk
    refine ⟨a6, by omega, a1, a2, b0.1, b0.2, by omega, by omega, by omega, by omega, by omega, ?_, ?_⟩
    · rw [hY, hM, hD]; simp [dim]; omega
    · rw [hY, hM, hD]; unfold num dby; simp [cum]; omega

/-- One date a day. -/
theorem num_inj {y m d y' m' d' : Int} (h : vld y m d = true) (h' : vld y' m' d' = true) (e : num y m d = num y' m' d') : y = y' ∧ m = m' ∧ d = d' := by
  simp only [vld, decide_eq_true_eq] at h h'
  obtain ⟨a1, a2, a3, a4⟩ := h
  obtain ⟨b1, b2, b3, b4⟩ := h'
  have i1 := cum_in y m d a2 a4
  have i2 := cum_in y' m' d' b2 b4
  have c1 := cum_bd y m (by omega)
  have c2 := cum_bd y' m' (by omega)
  unfold num at e
  have ey : y = y' := by
    rcases Int.lt_trichotomy y y' with h | h | h
    · have := dby_mono y y' h; omega
    · exact h
    · have := dby_mono y' y h; omega
  subst ey
  have em : m = m' := by
    rcases Int.lt_trichotomy m m' with h | h | h
    · have := cum_lt y m m' a2.1 h (by omega); omega
    · exact h
    · have := cum_lt y m' m b2.1 h (by omega); omega
  subst em
  exact ⟨rfl, rfl, by omega⟩
theorem vld_date (n : Int) (h0 : 0 ≤ n) (h1 : n ≤ 43829) : vld (dateY n) (dateM n) (dateD n) = true := by
  have g := good n h0 h1
  simp only [vld, decide_eq_true_eq]
  exact ⟨⟨g.y0, g.y1⟩, ⟨g.m0, g.m1⟩, g.d0, g.d1⟩
theorem num_bd (y m d : Int) (h : vld y m d = true) : 0 ≤ num y m d ∧ num y m d ≤ 43829 := by
  simp only [vld, decide_eq_true_eq] at h
  obtain ⟨a1, a2, a3, a4⟩ := h
  have i1 := cum_in y m d a2 a4
  have c1 := cum_bd y m (by omega)
  have hl := lp_eq y
  unfold num dby; omega
/-- The date of a number is the date. -/
theorem date_num (y m d : Int) (h : vld y m d = true) : dateY (num y m d) = y ∧ dateM (num y m d) = m ∧ dateD (num y m d) = d := by
  have b := num_bd y m d h
  have g := good _ b.1 b.2
  exact num_inj (vld_date _ b.1 b.2) h g.back
/-- The program's reckoning of a date. -/
theorem march_lo (y m d : Int) (hy : 1980 ≤ y ∧ y ≤ 2099) (hm : m = 1 ∨ m = 2) :
    (y - 1) / 400 * 146097 + (365 * ((y - 1) % 400) + (y - 1) % 400 / 4 - (y - 1) % 400 / 100) + (153 * (m + 9) + 2) / 5 + d - 1 - 723120 = num y m d := by
  have hl := lp_eq y
  unfold num dby
  rcases hm with rfl | rfl <;> simp only [cum] <;> simp <;> omega
theorem march_hi (y m d : Int) (hy : 1980 ≤ y ∧ y ≤ 2099) (hm : 3 ≤ m ∧ m ≤ 12) :
    y / 400 * 146097 + (365 * (y % 400) + y % 400 / 4 - y % 400 / 100) + (153 * (m - 3) + 2) / 5 + d - 1 - 723120 = num y m d := by
  have hl := lp_eq y
  have : y / 400 * 146097 + (365 * (y % 400) + y % 400 / 4 - y % 400 / 100) = dby y + 59 + lp y + 723120 := by unfold dby; omega
  rw [this]; unfold num
  rcases months (m := m) (by omega) with rfl | rfl | rfl | rfl | rfl | rfl | rfl | rfl | rfl | rfl | rfl | rfl <;> simp only [cum] <;> simp <;> omega
/-- A date that has the number. -/
theorem dt_is {n y m d : Int} (h : vld y m d = true) (e : num y m d = n) (h0 : 0 ≤ n ∧ n ≤ 43829) : y = dtY n ∧ m = dtM n ∧ d = dtD n := by
  have g := good n h0.1 h0.2
  obtain ⟨e1, e2, e3⟩ := dt_in h0
  rw [e1, e2, e3]
  exact num_inj h (vld_date n h0.1 h0.2) (e.trans g.back.symm)
theorem vld_mk {y m d : Int} (hy : 1980 ≤ y ∧ y ≤ 2099) (hm : 1 ≤ m ∧ m ≤ 12) (hd : 1 ≤ d ∧ d ≤ dim y m) : vld y m d = true := by simp only [vld, decide_eq_true_eq]; exact ⟨hy, hm, hd⟩
end Go.Proofs.YtpfdjmffgbbmdaaGreatDoor.M

/-
  The plain mathematics of sentences: checksums, frames, what can be read as a sentence, and the search for sentences in a text. No program is read here.
-/
namespace Go.Proofs.YtpfdjmffgbbmdaaGreatDoor.S

def mk (l : List UInt8) : ByteArray := ⟨l.toArray⟩
def lst (s : ByteArray) : List UInt8 := s.data.toList
theorem lst_mk (l : List UInt8) : lst (mk l) = l := by simp [lst, mk]
theorem mk_lst (s : ByteArray) : mk (lst s) = s := by apply ByteArray.ext; simp [lst, mk]
theorem ext {a b : ByteArray} (h : lst a = lst b) : a = b := by rw [← mk_lst a, h, mk_lst]
theorem size_lst (s : ByteArray) : (lst s).length = s.size := by show s.data.toList.length = s.data.size; simp
theorem size_mk (l : List UInt8) : (mk l).size = l.length := by show l.toArray.size = l.length; simp
theorem lst_append (a b : ByteArray) : lst (a ++ b) = lst a ++ lst b := by simp [lst, ByteArray.data_append]
theorem lst_extract (s : ByteArray) (i j : Nat) : lst (s.extract i j) = ((lst s).drop i).take (j - i) := by
  simp [lst, ByteArray.data_extract]
/-- The byte at a place, as a number. -/
def at_ (s : ByteArray) (i : Nat) : Nat := ((lst s).getD i 0).toNat
theorem at_get (s : ByteArray) (i : Nat) (h : i < s.size) : (s[i]'h).toNat = at_ s i := by
  unfold at_ lst
  rw [List.getD_eq_getElem?_getD, List.getElem?_eq_getElem (by rw [Array.length_toList]; exact h)]
  rfl
theorem at_lt (s : ByteArray) (i : Nat) : at_ s i < 256 := UInt8.toNat_lt _
theorem at_mk (l : List UInt8) (i : Nat) : at_ (mk l) i = (l.getD i 0).toNat := by unfold at_; rw [lst_mk]
theorem take_snoc (s : ByteArray) (k : Nat) (h : k < s.size) : (lst s).take (k + 1) = (lst s).take k ++ [(lst s).getD k 0] := by
  have h' : k < (lst s).length := by rw [size_lst]; exact h
  rw [List.take_succ_eq_append_getElem h', List.getD_eq_getElem?_getD, List.getElem?_eq_getElem h']; rfl
theorem take_all (s : ByteArray) (k : Nat) (h : s.size ≤ k) : (lst s).take k = lst s := List.take_of_length_le (by rw [size_lst]; exact h)

/-- A byte that may stand in a text. -/
def okN (n : Nat) : Prop := 32 ≤ n ∧ n ≤ 126 ∧ n ≠ 36 ∧ n ≠ 42
instance (n : Nat) : Decidable (okN n) := by unfold okN; infer_instance
def okTo (s : ByteArray) (k : Nat) : Prop := ∀ i, i < k → okN (at_ s i)
instance (s : ByteArray) (k : Nat) : Decidable (okTo s k) := by unfold okTo; infer_instance
def body (s : ByteArray) : Bool := decide ((1 ≤ s.size ∧ s.size ≤ 40) ∧ okTo s s.size)
theorem body_yes {s : ByteArray} (h : 1 ≤ s.size) (h' : s.size ≤ 40) (k : okTo s s.size) : body s = true := by unfold body; exact decide_eq_true ⟨⟨h, h'⟩, k⟩
theorem body_long {s : ByteArray} (h : ¬ (1 ≤ s.size ∧ s.size ≤ 40)) : body s = false := by unfold body; exact decide_eq_false (fun k => h k.1)
theorem body_bad {s : ByteArray} (i : Nat) (hi : i < s.size) (h : ¬ okN (at_ s i)) : body s = false := by unfold body; exact decide_eq_false (fun k => h (k.2 i hi))
theorem body_of {s : ByteArray} (h : body s = true) : (1 ≤ s.size ∧ s.size ≤ 40) ∧ okTo s s.size := by unfold body at h; exact of_decide_eq_true h
theorem okTo_succ {s : ByteArray} {k : Nat} (h : okTo s k) (h' : okN (at_ s k)) : okTo s (k + 1) := fun i hi => by
  rcases Nat.lt_or_ge i k with a | a
  · exact h i a
  · obtain rfl : i = k := by omega
    exact h'
/-- The exclusive or of the first k bytes. -/
def xorTo (s : ByteArray) : Nat → Nat
  | 0 => 0
  | k + 1 => xorTo s k ^^^ at_ s k
def xs (s : ByteArray) : Nat := xorTo s s.size
theorem xorTo_lt (s : ByteArray) : ∀ k, xorTo s k < 256
  | 0 => by show (0 : Nat) < 256; omega
  | k + 1 => by unfold xorTo; exact Nat.xor_lt_two_pow (n := 8) (xorTo_lt s k) (at_lt s k)
theorem xorTo_ok {s : ByteArray} : ∀ k, okTo s k → xorTo s k < 128
  | 0, _ => by show (0 : Nat) < 128; omega
  | k + 1, h => by
    have h1 := xorTo_ok k (fun i hi => h i (by omega))
    have h2 : at_ s k < 128 := by have := h k (by omega); unfold okN at this; omega
    unfold xorTo; exact Nat.xor_lt_two_pow (n := 7) h1 h2
theorem xs_ok {s : ByteArray} (h : body s = true) : xs s < 128 := xorTo_ok _ (body_of h).2
def csum (s : ByteArray) : Int := if body s = true then (xs s : Int) else -1
theorem csum_yes {s : ByteArray} (h : body s = true) : csum s = xs s := by unfold csum; rw [if_pos h]
theorem csum_no {s : ByteArray} (h : body s = false) : csum s = -1 := by unfold csum; rw [if_neg (by rw [h]; decide)]

/-- A digit of the base 16. -/
def hexd (n : Nat) : UInt8 := if n < 10 then UInt8.ofNat (48 + n) else UInt8.ofNat (55 + n)
theorem hexd_inj : ∀ a, a < 16 → ∀ b, b < 16 → hexd a = hexd b → a = b := by decide
theorem hexd_rng : ∀ a, a < 16 → (48 ≤ (hexd a).toNat ∧ (hexd a).toNat ≤ 57 ∧ (hexd a).toNat = 48 + a) ∨ (65 ≤ (hexd a).toNat ∧ (hexd a).toNat ≤ 70 ∧ (hexd a).toNat = 55 + a ∧ 10 ≤ a) := by decide
theorem hexd_no : ∀ a, a < 16 → (hexd a).toNat ≠ 36 ∧ (hexd a).toNat ≠ 42 := by decide
/-- The sentence with a text. -/
def fr (s : ByteArray) : List UInt8 := 36 :: (lst s ++ [42, hexd (xs s / 16), hexd (xs s % 16)])
def frame (s : ByteArray) : ByteArray := if body s = true then mk (fr s) else mk []
theorem frame_yes {s : ByteArray} (h : body s = true) : frame s = mk (fr s) := by unfold frame; rw [if_pos h]
theorem frame_no {s : ByteArray} (h : body s = false) : frame s = mk [] := by unfold frame; rw [if_neg (by rw [h]; decide)]
theorem fr_len (s : ByteArray) : (fr s).length = s.size + 4 := by unfold fr; simp [size_lst]
theorem frame_size {s : ByteArray} (h : body s = true) : (frame s).size = s.size + 4 := by rw [frame_yes h, size_mk, fr_len]
theorem frame_le (s : ByteArray) : (frame s).size ≤ 44 := by
  rcases hb : body s with _ | _
  · rw [frame_no hb]; simp [size_mk]
  · rw [frame_size hb]; have := (body_of hb).1; omega
/-- The middle of a text: without the first byte and the last three. -/
def mid (s : ByteArray) : ByteArray := s.extract 1 (s.size - 3)
theorem mid_size (s : ByteArray) (h : 4 ≤ s.size) : (mid s).size = s.size - 4 := by unfold mid; rw [ByteArray.size_extract]; omega
def rdB (s : ByteArray) : Bool := decide (5 ≤ s.size ∧ frame (mid s) = s)
def rdS (s : ByteArray) : ByteArray := if rdB s = true then mid s else mk []
theorem rdB_yes {s : ByteArray} (h : 5 ≤ s.size) (h' : frame (mid s) = s) : rdB s = true := by unfold rdB; exact decide_eq_true ⟨h, h'⟩
theorem rdB_no {s : ByteArray} (h : ¬ (5 ≤ s.size ∧ frame (mid s) = s)) : rdB s = false := by unfold rdB; exact decide_eq_false h
theorem rdB_of {s : ByteArray} (h : rdB s = true) : 5 ≤ s.size ∧ frame (mid s) = s := by unfold rdB at h; exact of_decide_eq_true h
theorem rdS_yes {s : ByteArray} (h : rdB s = true) : rdS s = mid s := by unfold rdS; rw [if_pos h]
theorem rdS_no {s : ByteArray} (h : rdB s = false) : rdS s = mk [] := by unfold rdS; rw [if_neg (by rw [h]; decide)]
theorem rd_body {s : ByteArray} (h : rdB s = true) : body (mid s) = true := by
  rcases hb : body (mid s) with _ | _
  · have := rdB_of h
    rw [frame_no hb] at this
    have e := this.2
    have : s.size = 0 := by rw [← e]; simp [size_mk]
    omega
  · rfl
theorem rd_frame {s : ByteArray} (h : rdB s = true) : frame (rdS s) = s := by rw [rdS_yes h]; exact (rdB_of h).2
theorem mid_frame {s : ByteArray} (h : body s = true) : mid (frame s) = s := by
  apply ext
  unfold mid
  rw [lst_extract, frame_yes h, lst_mk, size_mk, fr_len]
  unfold fr
  rw [List.drop_succ_cons, List.drop_zero, show s.size + 4 - 3 - 1 = (lst s).length from by rw [size_lst]; omega, List.take_left]
theorem rd_of_frame {s : ByteArray} (h : body s = true) : rdB (frame s) = true ∧ rdS (frame s) = s := by
  have h1 : rdB (frame s) = true := rdB_yes (by rw [frame_size h]; have := (body_of h).1; omega) (by rw [mid_frame h])
  exact ⟨h1, by rw [rdS_yes h1, mid_frame h]⟩
/-- Where the bytes of a sentence stand. -/
theorem getD_app_l (a b : List UInt8) (i : Nat) (h : i < a.length) : (a ++ b).getD i 0 = a.getD i 0 := by
  rw [List.getD_eq_getElem?_getD, List.getD_eq_getElem?_getD, List.getElem?_append_left h]
theorem getD_app_r (a b : List UInt8) (i : Nat) : (a ++ b).getD (a.length + i) 0 = b.getD i 0 := by
  rw [List.getD_eq_getElem?_getD, List.getD_eq_getElem?_getD, List.getElem?_append_right (by omega), Nat.add_sub_cancel_left]
theorem frame_at0 {s : ByteArray} (h : body s = true) : at_ (frame s) 0 = 36 := by rw [frame_yes h, at_mk]; rfl
theorem frame_in {s : ByteArray} (h : body s = true) (i : Nat) (hi : i < s.size) : at_ (frame s) (i + 1) = at_ s i := by
  rw [frame_yes h, at_mk]
  unfold fr at_
  rw [List.getD_cons_succ, getD_app_l _ _ _ (by rw [size_lst]; exact hi)]
theorem frame_star {s : ByteArray} (h : body s = true) : at_ (frame s) (s.size + 1) = 42 := by
  rw [frame_yes h, at_mk]
  unfold fr
  rw [List.getD_cons_succ, show s.size = (lst s).length + 0 from by rw [size_lst]; rfl, getD_app_r]; rfl
theorem frame_d1 {s : ByteArray} (h : body s = true) : at_ (frame s) (s.size + 2) = (hexd (xs s / 16)).toNat := by
  rw [frame_yes h, at_mk]
  unfold fr
  rw [List.getD_cons_succ, show s.size + 1 = (lst s).length + 1 from by rw [size_lst], getD_app_r]; rfl
theorem frame_d2 {s : ByteArray} (h : body s = true) : at_ (frame s) (s.size + 3) = (hexd (xs s % 16)).toNat := by
  rw [frame_yes h, at_mk]
  unfold fr
  rw [List.getD_cons_succ, show s.size + 2 = (lst s).length + 2 from by rw [size_lst], getD_app_r]; rfl
/-- A sentence has one $, its first byte. -/
theorem rd_dollar {s : ByteArray} (h : rdB s = true) (i : Nat) (h0 : 0 < i) (hi : i < s.size) : at_ s i ≠ 36 := by
  have hb := rd_body h
  have ⟨h5, hf⟩ := rdB_of h
  have hm := mid_size s (by omega)
  have hx := xs_ok hb
  rw [← hf]
  rcases Nat.lt_or_ge (i - 1) (mid s).size with a | a
  · have := frame_in hb (i - 1) a
    rw [Nat.sub_add_cancel (by omega)] at this
    rw [this]
    have := (body_of hb).2 (i - 1) a
    unfold okN at this; omega
  · rcases (show i = (mid s).size + 1 ∨ i = (mid s).size + 2 ∨ i = (mid s).size + 3 by omega) with e | e | e <;> rw [e]
    · rw [frame_star hb]; decide
    · rw [frame_d1 hb]; exact (hexd_no _ (by omega)).1
    · rw [frame_d2 hb]; exact (hexd_no _ (by omega)).1
theorem rd_first {s : ByteArray} (h : rdB s = true) : at_ s 0 = 36 := by
  rw [← (rdB_of h).2]; exact frame_at0 (rd_body h)
theorem at_extract (s : ByteArray) (i j k : Nat) (h : k < j - i) : at_ (s.extract i j) k = at_ s (i + k) := by
  unfold at_
  rw [lst_extract, List.getD_eq_getElem?_getD, List.getD_eq_getElem?_getD, List.getElem?_take_of_lt h, List.getElem?_drop]
theorem at_append_l (a b : ByteArray) (i : Nat) (h : i < a.size) : at_ (a ++ b) i = at_ a i := by
  unfold at_; rw [lst_append, getD_app_l _ _ _ (by rw [size_lst]; exact h)]
theorem at_append_r (a b : ByteArray) (i : Nat) : at_ (a ++ b) (a.size + i) = at_ b i := by
  unfold at_; rw [lst_append, ← size_lst a, getD_app_r]
theorem extract_append_r (a b : ByteArray) (i j : Nat) : (a ++ b).extract (a.size + i) (a.size + j) = b.extract i j := by
  apply ext
  rw [lst_extract, lst_extract, lst_append, ← size_lst a, show (lst a).length + j - ((lst a).length + i) = j - i from by omega]
  congr 1
  rw [List.drop_append, List.drop_of_length_le (by omega), List.nil_append]
  congr 1; omega
theorem toList_beq (a b : ByteArray) : (a.toList == b.toList) = decide (a = b) := by
  rw [Go.ByteArray.toList_eq a, Go.ByteArray.toList_eq b]
  by_cases h : a = b
  · subst h; simp
  · rw [decide_eq_false h]
    have : a.data.toList ≠ b.data.toList := fun e => h (ext e)
    simpa using this

/-! The search. -/
/-- The next star from a place on, or the end. -/
structure Star (s : ByteArray) (a e : Nat) : Prop where
  ge : a ≤ e
  le : e ≤ s.size
  no : ∀ i, a ≤ i → i < e → at_ s i ≠ 42
  yes : e < s.size → at_ s e = 42
theorem Star.same {s : ByteArray} {a e f : Nat} (h : Star s a e) (k : Star s a f) : e = f := by
  rcases Nat.lt_trichotomy e f with b | b | b
  · have h1 := h.yes (by have := k.le; omega)
    exact absurd h1 (k.no e h.ge b)
  · exact b
  · have h1 := k.yes (by have := h.le; omega)
    exact absurd h1 (h.no f k.ge b)
theorem star_ex (s : ByteArray) (a : Nat) (h : a ≤ s.size) : ∃ e, Star s a e := by
  obtain ⟨d, hd⟩ : ∃ d, d = s.size - a := ⟨_, rfl⟩
  induction d generalizing a with
  | zero => exact ⟨a, Nat.le_refl _, h, fun i h1 h2 => by omega, fun h1 => by omega⟩
  | succ d ih =>
    by_cases hc : at_ s a = 42
    · exact ⟨a, Nat.le_refl _, h, fun i h1 h2 => by omega, fun _ => hc⟩
    · obtain ⟨e, he⟩ := ih (a + 1) (by omega) (by omega)
      refine ⟨e, by have := he.ge; omega, he.le, fun i h1 h2 => ?_, he.yes⟩
      rcases Nat.lt_or_ge a i with b | b
      · exact he.no i (by omega) h2
      · obtain rfl : i = a := by omega
        exact hc
/-- At a place there begins a sentence, which ends before q. -/
structure Hit (s : ByteArray) (a q : Nat) : Prop where
  dol : at_ s a = 36
  star : ∃ e, Star s a e ∧ q = e + 3
  top : q ≤ s.size
  rd : rdB (s.extract a q) = true
theorem Hit.same {s : ByteArray} {a q r : Nat} (h : Hit s a q) (k : Hit s a r) : q = r := by
  obtain ⟨e, he, rfl⟩ := h.star
  obtain ⟨f, hf, rfl⟩ := k.star
  rw [he.same hf]
theorem Hit.lt {s : ByteArray} {a q : Nat} (h : Hit s a q) : a + 3 ≤ q := by
  obtain ⟨e, he, rfl⟩ := h.star
  have := he.ge; omega
theorem Hit.frame {s : ByteArray} {a q : Nat} (h : Hit s a q) : S.frame (rdS (s.extract a q)) = s.extract a q := rd_frame h.rd
/-- The search from a place on, with what was found before, ends with r. -/
inductive Run (s : ByteArray) : Nat → List ByteArray → List ByteArray → Prop
  | stop (a : Nat) (o : List ByteArray) : (s.size ≤ a ∨ 8 ≤ o.length) → Run s a o o
  | skip (a : Nat) (o r : List ByteArray) : a < s.size → o.length < 8 → (∀ q, ¬ Hit s a q) → Run s (a + 1) o r → Run s a o r
  | hit (a q : Nat) (o r : List ByteArray) : o.length < 8 → Hit s a q → Run s q (o ++ [rdS (s.extract a q)]) r → Run s a o r
theorem Run.same {s : ByteArray} {a : Nat} {o r r' : List ByteArray} (h : Run s a o r) (k : Run s a o r') : r = r' := by
  induction h with
  | stop a o h =>
    cases k with
    | stop _ _ _ => rfl
    | skip _ _ _ h1 h2 _ _ => omega
    | hit _ q _ _ h1 h2 _ => have := h2.lt; have := h2.top; omega
  | skip a o r h1 h2 h3 _ ih =>
    cases k with
    | stop _ _ h => omega
    | skip _ _ _ _ _ _ k => exact ih k
    | hit _ q _ _ _ h _ => exact absurd h (h3 q)
  | hit a q o r h1 h2 _ ih =>
    cases k with
    | stop _ _ h => have := h2.lt; have := h2.top; omega
    | skip _ _ _ _ _ h _ => exact absurd h2 (h q)
    | hit _ q' _ _ _ h k => obtain rfl := h2.same h; exact ih k
theorem Run.le {s : ByteArray} {a : Nat} {o r : List ByteArray} (h : Run s a o r) : o.length ≤ r.length ∧ (o.length ≤ 8 → r.length ≤ 8) := by
  induction h with
  | stop a o h => exact ⟨Nat.le_refl _, id⟩
  | skip a o r h1 h2 h3 _ ih => exact ih
  | hit a q o r h1 h2 _ ih => simp at ih; exact ⟨by omega, fun _ => ih.2 (by omega)⟩
/-- Places without a $ are left out. -/
theorem Run.over {s : ByteArray} {o r : List ByteArray} (a b : Nat) (hab : a ≤ b) (hb : b ≤ s.size) (ho : o.length < 8) (hn : ∀ i, a ≤ i → i < b → ∀ q, ¬ Hit s i q) (h : Run s b o r) : Run s a o r := by
  obtain ⟨d, hd⟩ : ∃ d, d = b - a := ⟨_, rfl⟩
  induction d generalizing a with
  | zero => obtain rfl : a = b := by omega
            exact h
  | succ d ih => exact Run.skip a o r (by omega) ho (hn a (by omega) (by omega)) (ih (a + 1) (by omega) (fun i h1 h2 => hn i (by omega) h2) (by omega))
theorem no_hit {s : ByteArray} {a : Nat} (h : at_ s a ≠ 36) : ∀ q, ¬ Hit s a q := fun _ k => h k.dol
/-- The bytes of a sentence behind the first are no $. -/
theorem Hit.inner {s : ByteArray} {a q : Nat} (h : Hit s a q) (i : Nat) (h0 : a < i) (h1 : i < q) : at_ s i ≠ 36 := by
  have hq := h.top
  have := rd_dollar h.rd (i - a) (by omega) (by rw [ByteArray.size_extract]; omega)
  rwa [at_extract _ _ _ _ (by omega), show a + (i - a) = i from by omega] at this
/-- Bytes in front: what was found stays found. -/
theorem Star.shift {f s : ByteArray} {a e : Nat} : Star (f ++ s) (f.size + a) (f.size + e) ↔ Star s a e := by
  have hz : (f ++ s).size = f.size + s.size := by rw [← size_lst, lst_append, List.length_append, size_lst, size_lst]
  constructor
  · intro h
    refine ⟨by have := h.ge; omega, by have := h.le; omega, fun i h1 h2 => ?_, fun h1 => ?_⟩
    · have := h.no (f.size + i) (by omega) (by omega); rwa [at_append_r] at this
    · have := h.yes (by omega); rwa [at_append_r] at this
  · intro h
    refine ⟨by have := h.ge; omega, by have := h.le; omega, fun i h1 h2 => ?_, fun h1 => ?_⟩
    · have := h.no (i - f.size) (by omega) (by omega)
      rwa [← at_append_r f, show f.size + (i - f.size) = i from by omega] at this
    · rw [at_append_r]; exact h.yes (by omega)
theorem Hit.shift {f s : ByteArray} {a q : Nat} : Hit (f ++ s) (f.size + a) (f.size + q) ↔ Hit s a q := by
  have hz : (f ++ s).size = f.size + s.size := by rw [← size_lst, lst_append, List.length_append, size_lst, size_lst]
  constructor
  · intro h
    obtain ⟨e, he, hq⟩ := h.star
    have hge := he.ge
    have he' : Star s a (e - f.size) := Star.shift.1 (by rw [show f.size + (e - f.size) = e from by omega]; exact he)
    have hr := h.rd
    rw [extract_append_r] at hr
    exact ⟨by have := h.dol; rwa [at_append_r] at this, ⟨e - f.size, he', by omega⟩, by have := h.top; omega, hr⟩
  · intro h
    obtain ⟨e, he, hq⟩ := h.star
    exact ⟨by rw [at_append_r]; exact h.dol, ⟨f.size + e, Star.shift.2 he, by omega⟩, by have := h.top; omega, by rw [extract_append_r]; exact h.rd⟩
theorem no_hit_shift {f s : ByteArray} {a : Nat} (h : ∀ q, ¬ Hit s a q) : ∀ q, ¬ Hit (f ++ s) (f.size + a) q := fun q k => by
  obtain ⟨e, he, hq⟩ := k.star
  have hge := he.ge
  refine h (q - f.size) (Hit.shift (f := f).1 ?_)
  rw [show f.size + (q - f.size) = q from by omega]; exact k
theorem Run.shift {f s : ByteArray} {a : Nat} {o r : List ByteArray} (p : List ByteArray) (h : Run s a o r) (hl : p.length + r.length ≤ 8) : Run (f ++ s) (f.size + a) (p ++ o) (p ++ r) := by
  have hz : (f ++ s).size = f.size + s.size := by rw [← size_lst, lst_append, List.length_append, size_lst, size_lst]
  induction h with
  | stop a o h =>
    refine Run.stop _ _ ?_
    rcases h with h | h
    · exact .inl (by omega)
    · exact .inr (by simp; omega)
  | skip a o r h1 h2 h3 hr ih =>
    by_cases h8 : p.length + o.length < 8
    · exact Run.skip _ _ _ (by omega) (by simpa using h8) (no_hit_shift h3) (ih hl)
    · have := hr.le
      -- nothing more can be found: the lengths are equal
      have hi := ih hl
      rw [Run.same hi (Run.stop (f.size + (a + 1)) (p ++ o) (.inr (by simp; omega)))]
      exact Run.stop _ _ (.inr (by simp; omega))
  | hit a q o r h1 h2 hr ih =>
    have := hr.le
    simp at this
    have hi := ih hl
    refine Run.hit _ (f.size + q) _ _ (by simp; omega) (Hit.shift.2 h2) ?_
    rw [extract_append_r, List.append_assoc]
    exact hi
/-! The machine that reads byte by byte. -/
def Goes (s : ByteArray) (x : Nat) (T : List ByteArray) : Prop := ∀ r, Run s x T r → Run s 0 [] r
def nx (st c : Nat) : Nat := if c = 36 then 1 else if st = 1 then (if c = 42 then 2 else 1) else if st = 2 then 3 else if st = 3 then 4 else 0
def Idle (s : ByteArray) (i st : Nat) (T : List ByteArray) : Prop := (st = 0 ∨ st = 4) ∧ Goes s i T
structure Busy (s : ByteArray) (i st start : Nat) (T : List ByteArray) : Prop where
  st1 : 1 ≤ st
  st3 : st ≤ 3
  lt : start < i
  dol : at_ s start = 36
  goes : Goes s start T
  no : ∀ j, start < j → j < i → at_ s j ≠ 36
  t1 : st = 1 → ∀ j, start ≤ j → j < i → at_ s j ≠ 42
  t2 : st = 2 → start + 2 ≤ i ∧ Star s start (i - 1)
  t3 : st = 3 → start + 3 ≤ i ∧ Star s start (i - 2)
structure Mach (s : ByteArray) (i st start : Nat) (T : List ByteArray) : Prop where
  len : T.length ≤ 8
  le : i ≤ s.size
  is : Idle s i st T ∨ Busy s i st start T
theorem Mach.zero (s : ByteArray) : Mach s 0 0 0 [] := ⟨by simp, by omega, .inl ⟨.inl rfl, fun _ h => h⟩⟩
/-- What begins at 'start' does not end before i. -/
theorem Busy.far {s : ByteArray} {i st start : Nat} {T : List ByteArray} (h : Busy s i st start T) (hi : i ≤ s.size) {q : Nat} (k : Hit s start q) : i < q := by
  obtain ⟨e, he, rfl⟩ := k.star
  have a := h.st1; have b := h.st3
  rcases (show st = 1 ∨ st = 2 ∨ st = 3 by omega) with e1 | e1 | e1
  · have h1 := h.t1 e1
    rcases Nat.lt_or_ge e i with c | c
    · exact absurd (he.yes (by omega)) (h1 e he.ge c)
    · omega
  · obtain ⟨h1, h2⟩ := h.t2 e1
    have := h2.same he; omega
  · obtain ⟨h1, h2⟩ := h.t3 e1
    have := h2.same he; omega
theorem Busy.dollar {s : ByteArray} {i st start : Nat} {T : List ByteArray} (h : Busy s i st start T) (hi : i < s.size) (hT : T.length < 8) (hc : at_ s i = 36) : Goes s i T := fun r hr => by
  refine h.goes r (Run.over start i (by have := h.lt; omega) (by omega) hT (fun j h1 h2 q k => ?_) hr)
  rcases Nat.lt_or_ge start j with a | a
  · exact h.no j a h2 k.dol
  · obtain rfl : j = start := by omega
    exact k.inner i h2 (h.far (by omega) k) hc
theorem nx_dol (st : Nat) : nx st 36 = 1 := by unfold nx; rw [if_pos rfl]
theorem nx_le (st c : Nat) : nx st c ≤ 4 := by unfold nx; repeat (first | omega | split)
/-- One byte more, where no sentence ends. -/
theorem Mach.go {s : ByteArray} {i st start : Nat} {T : List ByteArray} (h : Mach s i st start T) (hi : i < s.size) (hT : T.length < 8) (h4 : nx st (at_ s i) ≠ 4) :
    Mach s (i + 1) (nx st (at_ s i)) (if at_ s i = 36 then i else start) T := by
  refine ⟨h.len, by omega, ?_⟩
  by_cases hc : at_ s i = 36
  · rw [if_pos hc, hc, nx_dol]
    have hg : Goes s i T := by
      rcases h.is with k | k
      · exact k.2
      · exact k.dollar hi hT hc
    exact .inr ⟨by omega, by omega, by omega, hc, hg, fun j h1 h2 => by omega, fun _ j h1 h2 => by rw [show j = i from by omega, hc]; decide, fun h => by omega, fun h => by omega⟩
  · rw [if_neg hc]
    rcases h.is with k | k
    · have e : nx st (at_ s i) = 0 := by unfold nx; rw [if_neg hc]; have := k.1; repeat (first | omega | split)
      rw [e]
      exact .inl ⟨.inl rfl, fun r hr => k.2 r (Run.skip i T r hi hT (no_hit hc) hr)⟩
    · have a := k.st1; have b := k.st3
      have hno : ∀ j, start < j → j < i + 1 → at_ s j ≠ 36 := fun j h1 h2 => by
        rcases Nat.lt_or_ge j i with c | c
        · exact k.no j h1 c
        · obtain rfl : j = i := by omega
          exact hc
      have hlt := k.lt
      rcases (show st = 1 ∨ st = 2 ∨ st = 3 by omega) with e1 | e1 | e1
      · have h1 := k.t1 e1
        by_cases h42 : at_ s i = 42
        · have e : nx st (at_ s i) = 2 := by unfold nx; rw [if_neg hc, if_pos e1, if_pos h42]
          rw [e]
          exact .inr ⟨by omega, by omega, by omega, k.dol, k.goes, hno, fun h => by omega, fun _ => ⟨by omega, by omega, by omega, fun j h2 h3 => h1 j h2 (by omega), fun _ => h42⟩, fun h => by omega⟩
        · have e : nx st (at_ s i) = 1 := by unfold nx; rw [if_neg hc, if_pos e1, if_neg h42]
          rw [e]
          exact .inr ⟨by omega, by omega, by omega, k.dol, k.goes, hno, fun _ j h2 h3 => by
            rcases Nat.lt_or_ge j i with c | c
            · exact h1 j h2 c
            · obtain rfl : j = i := by omega
              exact h42, fun h => by omega, fun h => by omega⟩
      · have e : nx st (at_ s i) = 3 := by unfold nx; rw [if_neg hc, if_neg (by omega), if_pos e1]
        rw [e]
        obtain ⟨h1, h2⟩ := k.t2 e1
        exact .inr ⟨by omega, by omega, by omega, k.dol, k.goes, hno, fun h => by omega, fun h => by omega, fun _ => ⟨by omega, by rw [show i + 1 - 2 = i - 1 from by omega]; exact h2⟩⟩
      · exact absurd (show nx st (at_ s i) = 4 by unfold nx; rw [if_neg hc, if_neg (by omega), if_neg (by omega), if_pos e1]) h4
/-- One byte more, at which a sentence may end. -/
theorem Mach.end_ {s : ByteArray} {i st start : Nat} {T : List ByteArray} (h : Mach s i st start T) (hi : i < s.size) (hT : T.length < 8) (h4 : nx st (at_ s i) = 4) :
    at_ s i ≠ 36 ∧ start < i ∧ (rdB (s.extract start (i + 1)) = true → Mach s (i + 1) 4 start (T ++ [rdS (s.extract start (i + 1))])) ∧ (rdB (s.extract start (i + 1)) = false → Mach s (i + 1) 4 start T) := by
  have hc : at_ s i ≠ 36 := fun e => by rw [e, nx_dol] at h4; omega
  have e3 : st = 3 := by
    unfold nx at h4; rw [if_neg hc] at h4
    by_cases a : st = 1
    · rw [if_pos a] at h4; split at h4 <;> omega
    · rw [if_neg a] at h4
      by_cases b : st = 2
      · rw [if_pos b] at h4; omega
      · rw [if_neg b] at h4
        by_cases c : st = 3
        · exact c
        · rw [if_neg c] at h4; omega
  rcases h.is with k | k
  · have := k.1; omega
  obtain ⟨h1, h2⟩ := k.t3 e3
  have hlt := k.lt
  refine ⟨hc, hlt, fun hr => ?_, fun hr => ?_⟩
  · refine ⟨by simp; omega, by omega, .inl ⟨.inr rfl, fun r hr' => k.goes r (Run.hit start (i + 1) T r hT ⟨k.dol, ⟨i - 2, h2, by omega⟩, by omega, hr⟩ hr')⟩⟩
  · refine ⟨h.len, by omega, .inl ⟨.inr rfl, fun r hr' => k.goes r (Run.over start (i + 1) (by omega) (by omega) hT (fun j j1 j2 q kq => ?_) hr')⟩⟩
    rcases Nat.lt_or_ge start j with a | a
    · rcases Nat.lt_or_ge j i with c | c
      · exact k.no j a c kq.dol
      · obtain rfl : j = i := by omega
        exact hc kq.dol
    · obtain rfl : j = start := by omega
      obtain ⟨e, he, hq⟩ := kq.star
      have := h2.same he
      obtain rfl : q = i + 1 := by omega
      have := kq.rd
      rw [hr] at this; exact Bool.noConfusion this
/-- At the end. -/
theorem Mach.done {s : ByteArray} {i st start : Nat} {T : List ByteArray} (h : Mach s i st start T) (hd : i = s.size ∨ T.length = 8) : Run s 0 [] T := by
  rcases h.is with k | k
  · exact k.2 T (Run.stop _ _ (by omega))
  · refine k.goes T ?_
    rcases hd with hd | hd
    · by_cases h8 : T.length = 8
      · exact Run.stop _ _ (by omega)
      · refine Run.over start s.size (by have := k.lt; omega) (Nat.le_refl _) (by have := h.len; omega) (fun j j1 j2 q kq => ?_) (Run.stop _ _ (by omega))
        rcases Nat.lt_or_ge start j with a | a
        · exact k.no j a (by omega) kq.dol
        · obtain rfl : j = start := by omega
          have h1 := k.far (by omega) kq
          have h2 := kq.top
          omega
    · exact Run.stop _ _ (by omega)
end Go.Proofs.YtpfdjmffgbbmdaaGreatDoor.S

/-
  The plain mathematics of fixes: which are valid, their civil times, and the fixes of civil times. No program is read here.
-/
namespace Go.Proofs.YtpfdjmffgbbmdaaGreatDoor.X
/-- A valid fix. -/
def vf (y m d s n : Int) : Bool := decide (M.vld y m d = true ∧ (0 ≤ s ∧ s ≤ 86400) ∧ 0 ≤ n ∧ n ≤ 32)
theorem vf_of {y m d s n : Int} (h : vf y m d s n = true) : M.vld y m d = true ∧ (0 ≤ s ∧ s ≤ 86400) ∧ 0 ≤ n ∧ n ≤ 32 := of_decide_eq_true h
theorem vf_mk {y m d s n : Int} (h : M.vld y m d = true) (hs : 0 ≤ s ∧ s ≤ 86400) (hn : 0 ≤ n ∧ n ≤ 32) : vf y m d s n = true := decide_eq_true ⟨h, hs, hn⟩
theorem vf_no {y m d s n : Int} (h : ¬ (M.vld y m d = true ∧ (0 ≤ s ∧ s ≤ 86400) ∧ 0 ≤ n ∧ n ≤ 32)) : vf y m d s n = false := decide_eq_false h
/-- What clocks show at the leap second is the second before it. -/
def sm (s : Int) : Int := if s ≤ 86399 then s else 86399
theorem sm_min (s : Int) : min s 86399 = sm s := by unfold sm; split <;> omega
theorem sm_bd {s : Int} (h : 0 ≤ s) : 0 ≤ sm s ∧ sm s ≤ 86399 := by unfold sm; split <;> omega
/-- The civil time of a fix. -/
def cv (y m d s n : Int) : Int := if vf y m d s n = true ∧ 5 ≤ M.num y m d then (M.num y m d - 5) * 86400 + sm s else -1
theorem cv_in {y m d s n : Int} (h : vf y m d s n = true) (h5 : 5 ≤ M.num y m d) : cv y m d s n = (M.num y m d - 5) * 86400 + sm s := by unfold cv; rw [if_pos ⟨h, h5⟩]
theorem cv_no {y m d s n : Int} (h : vf y m d s n = false) : cv y m d s n = -1 := by unfold cv; rw [if_neg (by rw [h]; simp)]
theorem cv_low {y m d s n : Int} (h : ¬ 5 ≤ M.num y m d) : cv y m d s n = -1 := by unfold cv; rw [if_neg (fun k => h k.2)]
theorem cv_gps {y m d s n : Int} (h : vf y m d s n = true) : cv y m d s n = M.gps (M.num y m d) (sm s) := by
  obtain ⟨hv, hs, hn⟩ := vf_of h
  have hb := M.num_bd y m d hv
  have hm := sm_bd hs.1
  by_cases h5 : 5 ≤ M.num y m d
  · rw [cv_in h h5, M.gps_in _ _ ⟨⟨h5, hb.2⟩, hm⟩]
  · rw [cv_low h5, M.gps_out _ _ (fun k => h5 k.1.1)]
theorem cv_bd (y m d s n : Int) : -1 ≤ cv y m d s n ∧ cv y m d s n ≤ 3786479999 := by
  rcases h : vf y m d s n with _ | _
  · rw [cv_no h]; omega
  · obtain ⟨hv, hs, hn⟩ := vf_of h
    have hb := M.num_bd y m d hv
    have hm := sm_bd hs.1
    by_cases h5 : 5 ≤ M.num y m d
    · rw [cv_in h h5]; omega
    · rw [cv_low h5]; omega
theorem cv_yes {y m d s n : Int} (h : 0 ≤ cv y m d s n) : vf y m d s n = true ∧ 5 ≤ M.num y m d := by
  unfold cv at h
  split at h
  · rename_i k; exact k
  · omega
/-- Arguments that have a fix. -/
def fok (t n : Int) : Bool := decide ((0 ≤ t ∧ t ≤ 3786479999) ∧ 0 ≤ n ∧ n ≤ 32)
theorem fok_of {t n : Int} (h : fok t n = true) : (0 ≤ t ∧ t ≤ 3786479999) ∧ 0 ≤ n ∧ n ≤ 32 := of_decide_eq_true h
theorem fok_mk {t n : Int} (h : 0 ≤ t ∧ t ≤ 3786479999) (hn : 0 ≤ n ∧ n ≤ 32) : fok t n = true := decide_eq_true ⟨h, hn⟩
theorem fok_no {t n : Int} (h : ¬ ((0 ≤ t ∧ t ≤ 3786479999) ∧ 0 ≤ n ∧ n ≤ 32)) : fok t n = false := decide_eq_false h
def fy (t n : Int) : Int := if fok t n = true then M.dtY (5 + t / 86400) else 0
def fm (t n : Int) : Int := if fok t n = true then M.dtM (5 + t / 86400) else 0
def fd (t n : Int) : Int := if fok t n = true then M.dtD (5 + t / 86400) else 0
def fs (t n : Int) : Int := if fok t n = true then t % 86400 else 0
def fn (t n : Int) : Int := if fok t n = true then n else 0
theorem f_in {t n : Int} (h : fok t n = true) : fy t n = M.dtY (5 + t / 86400) ∧ fm t n = M.dtM (5 + t / 86400) ∧ fd t n = M.dtD (5 + t / 86400) ∧ fs t n = t % 86400 ∧ fn t n = n := ⟨if_pos h, if_pos h, if_pos h, if_pos h, if_pos h⟩
theorem f_out {t n : Int} (h : fok t n = false) : fy t n = 0 ∧ fm t n = 0 ∧ fd t n = 0 ∧ fs t n = 0 ∧ fn t n = 0 := by
  have k : ¬ fok t n = true := by rw [h]; simp
  exact ⟨if_neg k, if_neg k, if_neg k, if_neg k, if_neg k⟩
theorem day_bd {t : Int} (h : 0 ≤ t ∧ t ≤ 3786479999) : 0 ≤ 5 + t / 86400 ∧ 5 + t / 86400 ≤ 43829 := by omega
/-- The date of a fix is a date, and its number is the day. -/
theorem f_date {t n : Int} (h : fok t n = true) : M.vld (fy t n) (fm t n) (fd t n) = true ∧ M.num (fy t n) (fm t n) (fd t n) = 5 + t / 86400 := by
  obtain ⟨e1, e2, e3, -, -⟩ := f_in h
  have hb := day_bd (fok_of h).1
  obtain ⟨d1, d2, d3⟩ := M.dt_in hb
  rw [e1, e2, e3, d1, d2, d3]
  refine ⟨M.vld_date _ hb.1 hb.2, ?_⟩
  obtain ⟨-, -, -, -, -, -, g1, g2, g3, g4, g5, g6, g7⟩ := M.good _ hb.1 hb.2
  exact g7
theorem f_vf {t n : Int} (h : fok t n = true) : vf (fy t n) (fm t n) (fd t n) (fs t n) (fn t n) = true := by
  obtain ⟨-, -, -, e4, e5⟩ := f_in h
  have hh := fok_of h
  exact vf_mk (f_date h).1 (by rw [e4]; omega) (by rw [e5]; exact hh.2)
theorem zero_vf (s n : Int) : vf 0 0 0 s n = false := vf_no fun h => by
  have := h.1
  simp only [M.vld, decide_eq_true_eq] at this
  omega
theorem f_vf_iff (t n : Int) : vf (fy t n) (fm t n) (fd t n) (fs t n) (fn t n) = fok t n := by
  cases h : fok t n
  · obtain ⟨e1, e2, e3, e4, e5⟩ := f_out h
    rw [e1, e2, e3]; exact zero_vf _ _
  · exact f_vf h
theorem f_dayOf {t n : Int} (h : fok t n = true) : M.dayOf (fy t n) (fm t n) (fd t n) = 5 + t / 86400 := by
  unfold M.dayOf; rw [if_pos (f_date h).1]; exact (f_date h).2
/-- The civil time of the fix at a civil time. -/
theorem cv_f {t n : Int} (h : fok t n = true) : cv (fy t n) (fm t n) (fd t n) (fs t n) (fn t n) = t := by
  obtain ⟨-, -, -, e4, e5⟩ := f_in h
  have hh := fok_of h
  rw [cv_in (f_vf h) (by rw [(f_date h).2]; omega), (f_date h).2, e4]
  unfold sm
  rw [if_pos (by omega)]
  omega
/-- The fix at the civil time of a fix. -/
theorem f_cv {y m d s n : Int} (h : 0 ≤ cv y m d s n) (hs : s ≠ 86400) : fok (cv y m d s n) n = true ∧ fy (cv y m d s n) n = y ∧ fm (cv y m d s n) n = m ∧ fd (cv y m d s n) n = d ∧ fs (cv y m d s n) n = s ∧ fn (cv y m d s n) n = n := by
  obtain ⟨hv, h5⟩ := cv_yes h
  obtain ⟨hd, hs2, hn⟩ := vf_of hv
  have hb := cv_bd y m d s n
  have hk : fok (cv y m d s n) n = true := fok_mk ⟨h, hb.2⟩ hn
  obtain ⟨e1, e2, e3, e4, e5⟩ := f_in hk
  have hc := cv_in hv h5
  have hsm : sm s = s := by unfold sm; rw [if_pos (by omega)]
  rw [hsm] at hc
  have q1 : 5 + cv y m d s n / 86400 = M.num y m d := by omega
  have q2 : cv y m d s n % 86400 = s := by omega
  have nb := M.num_bd y m d hd
  obtain ⟨d1, d2, d3⟩ := M.dt_is hd rfl nb
  rw [q1] at e1 e2 e3
  rw [q2] at e4
  exact ⟨hk, by rw [e1, ← d1], by rw [e2, ← d2], by rw [e3, ← d3], e4, e5⟩
theorem cv_leap {y m d s n : Int} (h : 0 ≤ cv y m d s n) : cv y m d 86400 n = cv y m d 86399 n ∧ 0 ≤ cv y m d 86399 n ∧ cv y m d 86399 n ≤ 3786479999 ∧ cv y m d 86399 n % 86400 = 86399 := by
  obtain ⟨hv, h5⟩ := cv_yes h
  obtain ⟨hd, hs2, hn⟩ := vf_of hv
  have h1 : vf y m d 86400 n = true := vf_mk hd (by omega) hn
  have h2 : vf y m d 86399 n = true := vf_mk hd (by omega) hn
  have hb := cv_bd y m d 86399 n
  rw [cv_in h1 h5, cv_in h2 h5] at *
  have : sm 86400 = 86399 := rfl
  have : sm 86399 = 86399 := rfl
  omega
/-- The next second. -/
theorem f_next {t n : Int} (h : fok t n = true) (ht : t ≠ 3786479999) : fok (t + 1) n = true ∧ ((fs t n = 86399 ∧ fs (t + 1) n = 0 ∧ M.dayOf (fy (t + 1) n) (fm (t + 1) n) (fd (t + 1) n) = M.dayOf (fy t n) (fm t n) (fd t n) + 1) ∨ (fs (t + 1) n = fs t n + 1 ∧ fs t n ≠ 86399 ∧ fy (t + 1) n = fy t n ∧ fm (t + 1) n = fm t n ∧ fd (t + 1) n = fd t n)) := by
  have hh := fok_of h
  have hk : fok (t + 1) n = true := fok_mk (by omega) hh.2
  obtain ⟨e1, e2, e3, e4, e5⟩ := f_in h
  obtain ⟨g1, g2, g3, g4, g5⟩ := f_in hk
  refine ⟨hk, ?_⟩
  by_cases h9 : t % 86400 = 86399
  · refine .inl ⟨by omega, by omega, ?_⟩
    rw [f_dayOf h, f_dayOf hk]; omega
  · have e : 5 + (t + 1) / 86400 = 5 + t / 86400 := by omega
    refine .inr ⟨by omega, by omega, ?_, ?_, ?_⟩
    · rw [g1, e1, e]
    · rw [g2, e2, e]
    · rw [g3, e3, e]
theorem f_seen {t n k : Int} (h : fok t n = true) (hk : 0 ≤ k ∧ k ≤ 32) : fok t k = true ∧ fy t k = fy t n ∧ fm t k = fm t n ∧ fd t k = fd t n ∧ fs t k = fs t n ∧ fn t k = k := by
  have hh := fok_of h
  have h2 : fok t k = true := fok_mk hh.1 hk
  obtain ⟨e1, e2, e3, e4, e5⟩ := f_in h
  obtain ⟨g1, g2, g3, g4, g5⟩ := f_in h2
  exact ⟨h2, by rw [g1, e1], by rw [g2, e2], by rw [g3, e3], by rw [g4, e4], g5⟩
theorem f_week {t n : Int} (h : fok t n = true) (ht : t + 604800 ≤ 3786479999) : fok (t + 604800) n = true ∧ M.wday (M.dayOf (fy (t + 604800) n) (fm (t + 604800) n) (fd (t + 604800) n)) = M.wday (M.dayOf (fy t n) (fm t n) (fd t n)) ∧ fs (t + 604800) n = fs t n := by
  have hh := fok_of h
  have hk : fok (t + 604800) n = true := fok_mk (by omega) hh.2
  obtain ⟨e1, e2, e3, e4, e5⟩ := f_in h
  obtain ⟨g1, g2, g3, g4, g5⟩ := f_in hk
  refine ⟨hk, ?_, by omega⟩
  rw [f_dayOf h, f_dayOf hk, M.wday_in _ (by omega), M.wday_in _ (by omega)]
  omega
theorem f_gps {d s : Int} (h : (5 ≤ d ∧ d ≤ 43829) ∧ 0 ≤ s ∧ s ≤ 86399) : fok (M.gps d s) 4 = true ∧ M.dayOf (fy (M.gps d s) 4) (fm (M.gps d s) 4) (fd (M.gps d s) 4) = d ∧ fs (M.gps d s) 4 = s := by
  have e := M.gps_in d s h
  have hk : fok (M.gps d s) 4 = true := fok_mk (by omega) (by omega)
  obtain ⟨e1, e2, e3, e4, e5⟩ := f_in hk
  refine ⟨hk, ?_, by omega⟩
  rw [f_dayOf hk]; omega
theorem f_bd (t n : Int) : (0 ≤ fs t n ∧ fs t n ≤ 86399) ∧ 0 ≤ fn t n ∧ fn t n ≤ 32 := by
  cases h : fok t n
  · obtain ⟨e1, e2, e3, e4, e5⟩ := f_out h; omega
  · obtain ⟨e1, e2, e3, e4, e5⟩ := f_in h
    have := fok_of h; omega
end Go.Proofs.YtpfdjmffgbbmdaaGreatDoor.X

/-
  The plain mathematics of the texts of fixes: digits, the text of a fix, and what a scanner reads out of a text. No program is read here.
-/
namespace Go.Proofs.YtpfdjmffgbbmdaaGreatDoor.X
open Go.Lib
/-- Two digits. -/
def d2 (k : Nat) : List UInt8 := [UInt8.ofNat (48 + k / 10), UInt8.ofNat (48 + k % 10)]
theorem d2_len (k : Nat) : (d2 k).length = 2 := rfl
theorem dec_small {u : Nat} (h : u < 10) : decDigits u = [UInt8.ofNat (48 + u)] := by rw [decDigits, dif_pos h]
theorem dec_big {u : Nat} (h : ¬ u < 10) : decDigits u = decDigits (u / 10) ++ [UInt8.ofNat (48 + u % 10)] := by rw [decDigits, dif_neg h]
theorem dec_two {u : Nat} (h : 10 ≤ u) (h' : u < 100) : decDigits u = d2 u := by
  rw [dec_big (by omega), dec_small (by omega)]; rfl
theorem dec_four {u : Nat} (h : 1000 ≤ u) (h' : u < 10000) : decDigits u = [UInt8.ofNat (48 + u / 1000), UInt8.ofNat (48 + u / 100 % 10), UInt8.ofNat (48 + u / 10 % 10), UInt8.ofNat (48 + u % 10)] := by
  rw [dec_big (by omega), dec_big (u := u / 10) (by omega), dec_big (u := u / 10 / 10) (by omega), dec_small (by omega)]
  simp only [List.cons_append, List.nil_append, Nat.div_div_eq_div_mul]
/-- The text of a fix. -/
def hh (s : Int) : Nat := (sm s / 3600).toNat
def hm (s : Int) : Nat := (sm s / 60 % 60).toNat
def hs (s : Int) : Nat := (sm s % 60 + s - sm s).toNat
def tx (y m d s n : Int) : List UInt8 := [70, 73, 88, 44] ++ d2 (hh s) ++ d2 (hm s) ++ d2 (hs s) ++ [44] ++ d2 d.toNat ++ [44] ++ d2 m.toNat ++ [44] ++ decDigits y.toNat ++ [44] ++ decDigits n.toNat
theorem h_bd {s : Int} (h : 0 ≤ s ∧ s ≤ 86400) : hh s < 24 ∧ hm s < 60 ∧ hs s ≤ 60 ∧ ((hh s * 60 + hm s) * 60 + hs s : Int) = s := by
  unfold hh hm hs sm
  split <;> omega
/-- A digit. -/
def isD (b : UInt8) : Bool := decide (48 ≤ b.toNat ∧ b.toNat ≤ 57)
theorem isD_of {b : UInt8} (h : isD b = true) : 48 ≤ b.toNat ∧ b.toNat ≤ 57 := of_decide_eq_true h
theorem dig {k : Nat} (h : k < 10) : isD (UInt8.ofNat (48 + k)) = true ∧ (UInt8.ofNat (48 + k)).toNat = 48 + k := by
  have : ∀ k, k < 10 → isD (UInt8.ofNat (48 + k)) = true ∧ (UInt8.ofNat (48 + k)).toNat = 48 + k := by decide
  exact this k h
/-- The number that comes next, of at most k digits, and what is left. -/
def num : Nat → Nat → List UInt8 → Nat × List UInt8
  | 0, n, l => (n, l)
  | _ + 1, n, [] => (n, [])
  | k + 1, n, b :: l => if isD b = true then num k (10 * n + (b.toNat - 48)) l else (n, b :: l)
theorem num_nil (k n : Nat) : num k n [] = (n, []) := by cases k <;> rfl
theorem num_yes {k n : Nat} {b : UInt8} {l : List UInt8} (h : isD b = true) : num (k + 1) n (b :: l) = num k (10 * n + (b.toNat - 48)) l := if_pos h
theorem num_no {k n : Nat} {b : UInt8} {l : List UInt8} (h : isD b = false) : num (k + 1) n (b :: l) = (n, b :: l) := if_neg (by rw [h]; decide)
theorem num_bd : ∀ (k n : Nat) (l : List UInt8), (num k n l).1 < (n + 1) * 10 ^ k
  | 0, n, l => by show n < (n + 1) * 10 ^ 0; omega
  | k + 1, n, [] => by
    show n < (n + 1) * 10 ^ (k + 1)
    have : 1 ≤ 10 ^ (k + 1) := Nat.one_le_pow _ _ (by decide)
    calc n < (n + 1) * 1 := by omega
      _ ≤ _ := Nat.mul_le_mul_left _ this
  | k + 1, n, b :: l => by
    rcases h : isD b with _ | _
    · rw [num_no h]
      show n < _
      have : 1 ≤ 10 ^ (k + 1) := Nat.one_le_pow _ _ (by decide)
      calc n < (n + 1) * 1 := by omega
        _ ≤ _ := Nat.mul_le_mul_left _ this
    · rw [num_yes h]
      have hb := isD_of h
      have := num_bd k (10 * n + (b.toNat - 48)) l
      refine Nat.lt_of_lt_of_le this ?_
      rw [Nat.pow_succ, Nat.mul_comm (10 ^ k) 10, ← Nat.mul_assoc]
      exact Nat.mul_le_mul_right _ (by omega)
theorem num_len : ∀ (k n : Nat) (l : List UInt8), (num k n l).2.length ≤ l.length
  | 0, n, l => Nat.le_refl _
  | k + 1, n, [] => Nat.le_refl _
  | k + 1, n, b :: l => by
    rcases h : isD b with _ | _
    · rw [num_no h]; exact Nat.le_refl _
    · rw [num_yes h]; exact Nat.le_trans (num_len k _ l) (by simp)
theorem num_d2 {k : Nat} (h : k < 100) (l : List UInt8) : num 2 0 (d2 k ++ l) = (k, l) := by
  have h1 := dig (k := k / 10) (by omega)
  have h2 := dig (k := k % 10) (by omega)
  unfold d2
  show num 2 0 (UInt8.ofNat (48 + k / 10) :: (UInt8.ofNat (48 + k % 10) :: l)) = (k, l)
  rw [num_yes h1.1, num_yes h2.1, h1.2, h2.2]
  show (_, l) = (k, l)
  congr 1; omega
theorem num_dec4 {u : Nat} (h : 1000 ≤ u) (h' : u < 10000) (l : List UInt8) : num 4 0 (decDigits u ++ l) = (u, l) := by
  have h1 := dig (k := u / 1000) (by omega)
  have h2 := dig (k := u / 100 % 10) (by omega)
  have h3 := dig (k := u / 10 % 10) (by omega)
  have h4 := dig (k := u % 10) (by omega)
  rw [dec_four h h']
  show num 4 0 (_ :: (_ :: (_ :: (_ :: l)))) = (u, l)
  rw [num_yes h1.1, num_yes h2.1, num_yes h3.1, num_yes h4.1, h1.2, h2.2, h3.2, h4.2]
  show (_, l) = (u, l)
  congr 1; omega
theorem num_dec2 {u : Nat} (h : u < 100) : num 2 0 (decDigits u) = (u, []) := by
  by_cases h1 : u < 10
  · have h2 := dig h1
    rw [dec_small h1, num_yes h2.1, h2.2, num_nil]
    congr 1; omega
  · rw [dec_two (by omega) h]
    have := num_d2 h []
    rwa [List.append_nil] at this
/-- A text is left out, if it comes next. -/
theorem skp_yes (p l : List UInt8) : trimPrefix (p ++ l) p = l := by
  unfold trimPrefix hasPrefix
  rw [if_pos (by simp), List.drop_left]
/-- What a scanner reads: the hour, the minute, the second, the day, the month, the year, how many. -/
def s1 (l : List UInt8) : List UInt8 := trimPrefix l [70, 73, 88, 44]
def r1 (l : List UInt8) : Nat × List UInt8 := num 2 0 (s1 l)
def r2 (l : List UInt8) : Nat × List UInt8 := num 2 0 (r1 l).2
def r3 (l : List UInt8) : Nat × List UInt8 := num 2 0 (r2 l).2
def r4 (l : List UInt8) : Nat × List UInt8 := num 2 0 (trimPrefix (r3 l).2 [44])
def r5 (l : List UInt8) : Nat × List UInt8 := num 2 0 (trimPrefix (r4 l).2 [44])
def r6 (l : List UInt8) : Nat × List UInt8 := num 4 0 (trimPrefix (r5 l).2 [44])
def r7 (l : List UInt8) : Nat × List UInt8 := num 2 0 (trimPrefix (r6 l).2 [44])
def gs (l : List UInt8) : Int := ((r1 l).1 * 60 + (r2 l).1) * 60 + (r3 l).1
def gd (l : List UInt8) : Int := (r4 l).1
def gm (l : List UInt8) : Int := (r5 l).1
def gy (l : List UInt8) : Int := (r6 l).1
def gn (l : List UInt8) : Int := (r7 l).1
theorem r_bd (l : List UInt8) : (r1 l).1 < 100 ∧ (r2 l).1 < 100 ∧ (r3 l).1 < 100 ∧ (r4 l).1 < 100 ∧ (r5 l).1 < 100 ∧ (r6 l).1 < 10000 ∧ (r7 l).1 < 100 :=
  ⟨num_bd 2 0 _, num_bd 2 0 _, num_bd 2 0 _, num_bd 2 0 _, num_bd 2 0 _, num_bd 4 0 _, num_bd 2 0 _⟩
theorem vld_bd {y m d : Int} (h : M.vld y m d = true) : (1980 ≤ y ∧ y ≤ 2099) ∧ (1 ≤ m ∧ m ≤ 12) ∧ 1 ≤ d ∧ d ≤ 31 := by
  simp only [M.vld, decide_eq_true_eq] at h
  have := M.dim_bd y m
  omega
/-- The scanner reads what the text says. -/
theorem scan_tx {y m d s n : Int} (h : vf y m d s n = true) : gy (tx y m d s n) = y ∧ gm (tx y m d s n) = m ∧ gd (tx y m d s n) = d ∧ gs (tx y m d s n) = s ∧ gn (tx y m d s n) = n := by
  obtain ⟨hv, h1, h2⟩ := vf_of h
  obtain ⟨b1, b2, b3⟩ := vld_bd hv
  obtain ⟨c1, c2, c3, c4⟩ := h_bd h1
  have e1 : r1 (tx y m d s n) = (hh s, d2 (hm s) ++ (d2 (hs s) ++ ([44] ++ (d2 d.toNat ++ ([44] ++ (d2 m.toNat ++ ([44] ++ (decDigits y.toNat ++ ([44] ++ decDigits n.toNat))))))))) := by
    unfold r1 s1 tx
    simp only [List.append_assoc]
    rw [skp_yes, num_d2 (by omega)]
  have e2 : r2 (tx y m d s n) = (hm s, d2 (hs s) ++ ([44] ++ (d2 d.toNat ++ ([44] ++ (d2 m.toNat ++ ([44] ++ (decDigits y.toNat ++ ([44] ++ decDigits n.toNat)))))))) := by
    unfold r2; rw [e1, num_d2 (by omega)]
  have e3 : r3 (tx y m d s n) = (hs s, [44] ++ (d2 d.toNat ++ ([44] ++ (d2 m.toNat ++ ([44] ++ (decDigits y.toNat ++ ([44] ++ decDigits n.toNat))))))) := by
    unfold r3; rw [e2, num_d2 (by omega)]
  have e4 : r4 (tx y m d s n) = (d.toNat, [44] ++ (d2 m.toNat ++ ([44] ++ (decDigits y.toNat ++ ([44] ++ decDigits n.toNat))))) := by
    unfold r4; rw [e3, skp_yes, num_d2 (by omega)]
  have e5 : r5 (tx y m d s n) = (m.toNat, [44] ++ (decDigits y.toNat ++ ([44] ++ decDigits n.toNat))) := by
    unfold r5; rw [e4, skp_yes, num_d2 (by omega)]
  have e6 : r6 (tx y m d s n) = (y.toNat, [44] ++ decDigits n.toNat) := by
    unfold r6; rw [e5, skp_yes, num_dec4 (by omega) (by omega)]
  have e7 : r7 (tx y m d s n) = (n.toNat, []) := by
    unfold r7; rw [e6, skp_yes, num_dec2 (by omega)]
  unfold gy gm gd gs gn
  rw [e1, e2, e3, e4, e5, e6, e7]
  refine ⟨?_, ?_, ?_, ?_, ?_⟩ <;> (simp only; omega)
/-- The bytes of the text may stand in a sentence. -/
theorem dec_len2 {u : Nat} (h : u < 100) : 1 ≤ (decDigits u).length ∧ (decDigits u).length ≤ 2 := by
  by_cases h1 : u < 10
  · rw [dec_small h1]; simp
  · rw [dec_two (by omega) h, d2_len]; omega
theorem tx_len {y m d s n : Int} (h : vf y m d s n = true) : 23 ≤ (tx y m d s n).length ∧ (tx y m d s n).length ≤ 24 := by
  obtain ⟨hv, h1, h2⟩ := vf_of h
  obtain ⟨b1, b2, b3⟩ := vld_bd hv
  have := dec_len2 (u := n.toNat) (by omega)
  have h4 : (decDigits y.toNat).length = 4 := by rw [dec_four (by omega) (by omega)]; rfl
  unfold tx
  simp only [List.length_append, List.length_cons, List.length_nil, d2_len, h4]
  omega
def okB (b : UInt8) : Prop := S.okN b.toNat
instance (b : UInt8) : Decidable (okB b) := by unfold okB; infer_instance
theorem okB_dig {k : Nat} (h : k < 10) : okB (UInt8.ofNat (48 + k)) := by
  unfold okB S.okN; rw [(dig h).2]; omega
theorem ok_d2 {k : Nat} (h : k < 100) : ∀ b ∈ d2 k, okB b := by
  intro b hb
  unfold d2 at hb
  rcases List.mem_cons.mp hb with rfl | hb
  · exact okB_dig (by omega)
  · rcases List.mem_cons.mp hb with rfl | hb
    · exact okB_dig (by omega)
    · simp at hb
theorem ok_dec : ∀ (u : Nat), ∀ b ∈ decDigits u, okB b := by
  intro u
  induction u using Nat.strongRecOn with
  | _ u ih =>
    intro b hb
    by_cases h : u < 10
    · rw [dec_small h] at hb
      rcases List.mem_cons.mp hb with rfl | hb
      · exact okB_dig h
      · simp at hb
    · rw [dec_big h] at hb
      rcases List.mem_append.mp hb with hb | hb
      · exact ih (u / 10) (by omega) b hb
      · rcases List.mem_cons.mp hb with rfl | hb
        · exact okB_dig (by omega)
        · simp at hb
theorem ok_tx {y m d s n : Int} (h : vf y m d s n = true) : ∀ b ∈ tx y m d s n, okB b := by
  obtain ⟨hv, h1, h2⟩ := vf_of h
  obtain ⟨b1, b2, b3⟩ := vld_bd hv
  obtain ⟨c1, c2, c3, c4⟩ := h_bd h1
  have o1 := ok_d2 (k := hh s) (by omega)
  have o2 := ok_d2 (k := hm s) (by omega)
  have o3 := ok_d2 (k := hs s) (by omega)
  have o4 := ok_d2 (k := d.toNat) (by omega)
  have o5 := ok_d2 (k := m.toNat) (by omega)
  have o6 := ok_dec y.toNat
  have o7 := ok_dec n.toNat
  have oc : ∀ b ∈ ([44] : List UInt8), okB b := by decide
  have of_ : ∀ b ∈ ([70, 73, 88, 44] : List UInt8), okB b := by decide
  intro b hb
  unfold tx at hb
  simp only [List.mem_append] at hb
  rcases hb with (((((((((((hb | hb) | hb) | hb) | hb) | hb) | hb) | hb) | hb) | hb) | hb) | hb)
  · exact of_ b hb
  · exact o1 b hb
  · exact o2 b hb
  · exact o3 b hb
  · exact oc b hb
  · exact o4 b hb
  · exact oc b hb
  · exact o5 b hb
  · exact oc b hb
  · exact o6 b hb
  · exact oc b hb
  · exact o7 b hb
theorem body_tx {y m d s n : Int} (h : vf y m d s n = true) : S.body (S.mk (tx y m d s n)) = true := by
  have hl := tx_len h
  refine S.body_yes (by rw [S.size_mk]; omega) (by rw [S.size_mk]; omega) (fun i hi => ?_)
  rw [S.size_mk] at hi
  rw [S.at_mk, List.getD_eq_getElem?_getD, List.getElem?_eq_getElem hi]
  exact ok_tx h _ (List.getElem_mem hi)
/-- The sentence of a fix. -/
def ff (y m d s n : Int) : ByteArray := if vf y m d s n = true then S.frame (S.mk (tx y m d s n)) else S.mk []
theorem ff_yes {y m d s n : Int} (h : vf y m d s n = true) : ff y m d s n = S.frame (S.mk (tx y m d s n)) := if_pos h
theorem ff_no {y m d s n : Int} (h : vf y m d s n = false) : ff y m d s n = S.mk [] := if_neg (by rw [h]; decide)
theorem ff_size {y m d s n : Int} (h : vf y m d s n = true) : 27 ≤ (ff y m d s n).size ∧ (ff y m d s n).size ≤ 28 := by
  rw [ff_yes h, S.frame_size (body_tx h), S.size_mk]; have := tx_len h; omega
theorem ff_ne {y m d s n : Int} (h : vf y m d s n = true) : ff y m d s n ≠ S.mk [] := fun e => by
  have := ff_size h
  rw [e, S.size_mk] at this
  simp at this
/-- What is read out of a sentence. -/
def pk (t : List UInt8) : Bool := decide (vf (gy t) (gm t) (gd t) (gs t) (gn t) = true ∧ tx (gy t) (gm t) (gd t) (gs t) (gn t) = t)
theorem pk_of {t : List UInt8} (h : pk t = true) : vf (gy t) (gm t) (gd t) (gs t) (gn t) = true ∧ tx (gy t) (gm t) (gd t) (gs t) (gn t) = t := of_decide_eq_true h
theorem pk_tx {y m d s n : Int} (h : vf y m d s n = true) : pk (tx y m d s n) = true := by
  obtain ⟨e1, e2, e3, e4, e5⟩ := scan_tx h
  unfold pk
  rw [e1, e2, e3, e4, e5]
  exact decide_eq_true ⟨h, rfl⟩
theorem pk_no {t : List UInt8} (h : pk t = false) {y m d s n : Int} (hv : vf y m d s n = true) : tx y m d s n ≠ t := fun e => by
  have := pk_tx hv
  rw [e, h] at this
  cases this
def pB (s : ByteArray) : Bool := S.rdB s && pk (S.lst (S.rdS s))
theorem pB_of {s : ByteArray} (h : pB s = true) : S.rdB s = true ∧ pk (S.lst (S.rdS s)) = true := by unfold pB at h; simpa using h
theorem pB_mk {s : ByteArray} (h : S.rdB s = true) (h' : pk (S.lst (S.rdS s)) = true) : pB s = true := by unfold pB; rw [h, h']; rfl
theorem pB_no1 {s : ByteArray} (h : S.rdB s = false) : pB s = false := by unfold pB; rw [h]; rfl
theorem pB_no2 {s : ByteArray} (h : pk (S.lst (S.rdS s)) = false) : pB s = false := by unfold pB; rw [h]; simp
def py (s : ByteArray) : Int := if pB s = true then gy (S.lst (S.rdS s)) else 0
def pm (s : ByteArray) : Int := if pB s = true then gm (S.lst (S.rdS s)) else 0
def pd (s : ByteArray) : Int := if pB s = true then gd (S.lst (S.rdS s)) else 0
def ps (s : ByteArray) : Int := if pB s = true then gs (S.lst (S.rdS s)) else 0
def pn (s : ByteArray) : Int := if pB s = true then gn (S.lst (S.rdS s)) else 0
theorem p_in {s : ByteArray} (h : pB s = true) : py s = gy (S.lst (S.rdS s)) ∧ pm s = gm (S.lst (S.rdS s)) ∧ pd s = gd (S.lst (S.rdS s)) ∧ ps s = gs (S.lst (S.rdS s)) ∧ pn s = gn (S.lst (S.rdS s)) := ⟨if_pos h, if_pos h, if_pos h, if_pos h, if_pos h⟩
theorem p_out {s : ByteArray} (h : pB s = false) : py s = 0 ∧ pm s = 0 ∧ pd s = 0 ∧ ps s = 0 ∧ pn s = 0 := by
  have k : ¬ pB s = true := by rw [h]; decide
  exact ⟨if_neg k, if_neg k, if_neg k, if_neg k, if_neg k⟩
/-- What is accepted is valid, and its sentence is the one that was read. -/
theorem p_vf {s : ByteArray} (h : pB s = true) : vf (py s) (pm s) (pd s) (ps s) (pn s) = true ∧ ff (py s) (pm s) (pd s) (ps s) (pn s) = s := by
  obtain ⟨e1, e2, e3, e4, e5⟩ := p_in h
  obtain ⟨hr, hk⟩ := pB_of h
  obtain ⟨hv, ht⟩ := pk_of hk
  rw [e1, e2, e3, e4, e5]
  refine ⟨hv, ?_⟩
  rw [ff_yes hv, ht, S.mk_lst]
  exact S.rd_frame hr
/-- A fix comes back out of its sentence. -/
theorem p_ff {y m d s n : Int} (h : vf y m d s n = true) : pB (ff y m d s n) = true ∧ py (ff y m d s n) = y ∧ pm (ff y m d s n) = m ∧ pd (ff y m d s n) = d ∧ ps (ff y m d s n) = s ∧ pn (ff y m d s n) = n := by
  have hr := S.rd_of_frame (body_tx h)
  rw [← ff_yes h] at hr
  have hb : pB (ff y m d s n) = true := pB_mk hr.1 (by rw [hr.2, S.lst_mk]; exact pk_tx h)
  obtain ⟨e1, e2, e3, e4, e5⟩ := p_in hb
  obtain ⟨g1, g2, g3, g4, g5⟩ := scan_tx h
  rw [hr.2, S.lst_mk] at e1 e2 e3 e4 e5
  exact ⟨hb, e1.trans g1, e2.trans g2, e3.trans g3, e4.trans g4, e5.trans g5⟩
/-- The program's way: the sentence of what the scanner reads is the sentence. -/
theorem pB_iff {s : ByteArray} (hr : S.rdB s = true) : pB s = true ↔ ff (gy (S.lst (S.rdS s))) (gm (S.lst (S.rdS s))) (gd (S.lst (S.rdS s))) (gs (S.lst (S.rdS s))) (gn (S.lst (S.rdS s))) = s := by
  constructor
  · intro h
    obtain ⟨e1, e2, e3, e4, e5⟩ := p_in h
    have := (p_vf h).2
    rwa [e1, e2, e3, e4, e5] at this
  · intro h
    rcases hv : vf (gy (S.lst (S.rdS s))) (gm (S.lst (S.rdS s))) (gd (S.lst (S.rdS s))) (gs (S.lst (S.rdS s))) (gn (S.lst (S.rdS s))) with _ | _
    · rw [ff_no hv] at h
      have h5 := (S.rdB_of hr).1
      rw [← h, S.size_mk] at h5
      simp at h5
    · have := (p_ff hv).1
      rwa [h] at this
end Go.Proofs.YtpfdjmffgbbmdaaGreatDoor.X

/-
  The plain mathematics of the model's way to read a fix: a text cut at its commas, numbers of digits. No program is read here.
-/
namespace Go.Proofs.YtpfdjmffgbbmdaaGreatDoor.X
open Go.Lib
set_option linter.unusedVariables false
/-- A text cut at every byte of a kind. -/
def sp (c : UInt8) : List UInt8 → List UInt8 → List (List UInt8)
  | [], acc => [acc]
  | b :: t, acc => if b = c then acc :: sp c t [] else sp c t (acc ++ [b])
theorem sp_yes (c : UInt8) (t acc : List UInt8) : sp c (c :: t) acc = acc :: sp c t [] := if_pos rfl
theorem sp_no {c b : UInt8} (h : b ≠ c) (t acc : List UInt8) : sp c (b :: t) acc = sp c t (acc ++ [b]) := if_neg h
theorem sp_len (c : UInt8) : ∀ l acc, 1 ≤ (sp c l acc).length ∧ (sp c l acc).length ≤ l.length + 1
  | [], _ => by simp [sp]
  | b :: t, acc => by
    unfold sp
    split
    · have := sp_len c t []; simp; omega
    · have := sp_len c t (acc ++ [b]); simp; omega
theorem sp_app {c : UInt8} : ∀ (a : List UInt8) (t acc : List UInt8), (∀ b ∈ a, b ≠ c) → sp c (a ++ c :: t) acc = (acc ++ a) :: sp c t []
  | [], t, acc, _ => by rw [List.nil_append, sp_yes, List.append_nil]
  | b :: a, t, acc, h => by
    rw [List.cons_append, sp_no (h b (by simp)), sp_app a t _ (fun x hx => h x (by simp [hx]))]
    simp
theorem sp_last {c : UInt8} : ∀ (a acc : List UInt8), (∀ b ∈ a, b ≠ c) → sp c a acc = [acc ++ a]
  | [], acc, _ => by simp [sp]
  | b :: a, acc, h => by
    rw [sp_no (h b (by simp)), sp_last a _ (fun x hx => h x (by simp [hx]))]
    simp
/-- The number that digits are. -/
def vl : Nat → List UInt8 → Nat
  | n, [] => n
  | n, b :: t => vl (10 * n + (b.toNat - 48)) t
theorem vl_snoc : ∀ (l : List UInt8) (n : Nat) (b : UInt8), vl n (l ++ [b]) = 10 * vl n l + (b.toNat - 48)
  | [], n, b => rfl
  | a :: l, n, b => vl_snoc l _ b
theorem vl_bd : ∀ (l : List UInt8) (n : Nat), (∀ b ∈ l, isD b = true) → vl n l < (n + 1) * 10 ^ l.length
  | [], n, _ => by show n < (n + 1) * 10 ^ 0; omega
  | b :: l, n, h => by
    have hb := isD_of (h b (by simp))
    have := vl_bd l (10 * n + (b.toNat - 48)) (fun x hx => h x (by simp [hx]))
    show vl (10 * n + (b.toNat - 48)) l < _
    refine Nat.lt_of_lt_of_le this ?_
    rw [List.length_cons, Nat.pow_succ, Nat.mul_comm (10 ^ l.length) 10, ← Nat.mul_assoc]
    exact Nat.mul_le_mul_right _ (by omega)
/-- The number of at most k digits, -1 for other texts. -/
def rd (k : Nat) (l : List UInt8) : Int := if (1 ≤ l.length ∧ l.length ≤ k) ∧ ∀ b ∈ l, isD b = true then (vl 0 l : Int) else -1
theorem rd_yes {k : Nat} {l : List UInt8} (h : 1 ≤ l.length) (h' : l.length ≤ k) (hd : ∀ b ∈ l, isD b = true) : rd k l = vl 0 l := if_pos ⟨⟨h, h'⟩, hd⟩
theorem rd_long {k : Nat} {l : List UInt8} (h : ¬ (1 ≤ l.length ∧ l.length ≤ k)) : rd k l = -1 := if_neg (fun q => h q.1)
theorem rd_bad {k : Nat} {l : List UInt8} {b : UInt8} (hb : b ∈ l) (h : isD b = false) : rd k l = -1 := if_neg (fun q => by have := q.2 b hb; rw [h] at this; cases this)
theorem rd_bd (k : Nat) (l : List UInt8) : -1 ≤ rd k l ∧ rd k l < 10 ^ k := by
  unfold rd
  split
  · rename_i h
    have := vl_bd l 0 h.2
    have h2 : 10 ^ l.length ≤ 10 ^ k := Nat.pow_le_pow_right (by omega) h.1.2
    have h3 : ((10 ^ k : Nat) : Int) = (10 : Int) ^ k := by simp
    omega
  · have h3 : ((10 ^ k : Nat) : Int) = (10 : Int) ^ k := by simp
    have : 0 < 10 ^ k := Nat.pos_of_ne_zero (by simp)
    omega
theorem d2_dig {k : Nat} (h : k < 100) : ∀ b ∈ d2 k, isD b = true := by
  intro b hb
  unfold d2 at hb
  rcases List.mem_cons.mp hb with rfl | hb
  · exact (dig (by omega)).1
  · rcases List.mem_cons.mp hb with rfl | hb
    · exact (dig (by omega)).1
    · simp at hb
theorem dec_dig : ∀ (u : Nat), ∀ b ∈ decDigits u, isD b = true := by
  intro u
  induction u using Nat.strongRecOn with
  | _ u ih =>
    intro b hb
    by_cases h : u < 10
    · rw [dec_small h] at hb
      rcases List.mem_cons.mp hb with rfl | hb
      · exact (dig h).1
      · simp at hb
    · rw [dec_big h] at hb
      rcases List.mem_append.mp hb with hb | hb
      · exact ih (u / 10) (by omega) b hb
      · rcases List.mem_cons.mp hb with rfl | hb
        · exact (dig (by omega)).1
        · simp at hb
theorem vl_dec : ∀ (u : Nat), vl 0 (decDigits u) = u := by
  intro u
  induction u using Nat.strongRecOn with
  | _ u ih =>
    by_cases h : u < 10
    · rw [dec_small h]
      show 10 * 0 + ((UInt8.ofNat (48 + u)).toNat - 48) = u
      rw [(dig h).2]; omega
    · rw [dec_big h, vl_snoc, ih (u / 10) (by omega), (dig (k := u % 10) (by omega)).2]
      omega
theorem vl_d2 {k : Nat} (h : k < 100) : vl 0 (d2 k) = k := by
  show 10 * (10 * 0 + ((UInt8.ofNat (48 + k / 10)).toNat - 48)) + ((UInt8.ofNat (48 + k % 10)).toNat - 48) = k
  rw [(dig (k := k / 10) (by omega)).2, (dig (k := k % 10) (by omega)).2]
  omega
theorem rd_d2 {k : Nat} (h : k < 100) : rd 2 (d2 k) = k := by rw [rd_yes (by rw [d2_len]; omega) (by rw [d2_len]; omega) (d2_dig h), vl_d2 h]
theorem rd_dec {k u : Nat} (h : (decDigits u).length ≤ k) (h' : 1 ≤ (decDigits u).length) : rd k (decDigits u) = u := by rw [rd_yes h' h (dec_dig u), vl_dec]
theorem dig_no {b : UInt8} (h : isD b = true) : b ≠ 44 := fun e => by rw [e] at h; exact absurd h (by decide)
/-- The pieces of the text of a fix. -/
theorem sp_tx {y m d s n : Int} (h : vf y m d s n = true) : sp 44 (tx y m d s n) [] = [[70, 73, 88], d2 (hh s) ++ d2 (hm s) ++ d2 (hs s), d2 d.toNat, d2 m.toNat, decDigits y.toNat, decDigits n.toNat] := by
  obtain ⟨hv, h1, h2⟩ := vf_of h
  obtain ⟨b1, b2, b3⟩ := vld_bd hv
  obtain ⟨c1, c2, c3, c4⟩ := h_bd h1
  have e : tx y m d s n = [70, 73, 88] ++ 44 :: ((d2 (hh s) ++ d2 (hm s) ++ d2 (hs s)) ++ 44 :: (d2 d.toNat ++ 44 :: (d2 m.toNat ++ 44 :: (decDigits y.toNat ++ 44 :: decDigits n.toNat)))) := by
    unfold tx; simp
  rw [e, sp_app _ _ _ (by decide), sp_app _ _ _ ?_, sp_app _ _ _ (fun b hb => dig_no (d2_dig (by omega) b hb)), sp_app _ _ _ (fun b hb => dig_no (d2_dig (by omega) b hb)), sp_app _ _ _ (fun b hb => dig_no (dec_dig _ b hb)), sp_last _ _ (fun b hb => dig_no (dec_dig _ b hb))]
  · simp
  · intro b hb
    simp only [List.mem_append] at hb
    rcases hb with (hb | hb) | hb
    · exact dig_no (d2_dig (by omega) b hb)
    · exact dig_no (d2_dig (by omega) b hb)
    · exact dig_no (d2_dig (by omega) b hb)
/-- A piece, or nothing. -/
def pc (t : List UInt8) (i : Nat) : List UInt8 := (sp 44 t []).getD i []
def q1 (t : List UInt8) : Bool := decide ((sp 44 t []).length = 6 ∧ pc t 0 = [70, 73, 88] ∧ (pc t 1).length = 6)
theorem q1_of {t : List UInt8} (h : q1 t = true) : (sp 44 t []).length = 6 ∧ pc t 0 = [70, 73, 88] ∧ (pc t 1).length = 6 := of_decide_eq_true h
def qh (t : List UInt8) : Int := rd 2 ((pc t 1).take 2)
def qm (t : List UInt8) : Int := rd 2 (((pc t 1).drop 2).take 2)
def qs (t : List UInt8) : Int := rd 2 ((pc t 1).drop 4)
def qd (t : List UInt8) : Int := rd 2 (pc t 2)
def qo (t : List UInt8) : Int := rd 2 (pc t 3)
def qy (t : List UInt8) : Int := rd 4 (pc t 4)
def qn (t : List UInt8) : Int := rd 2 (pc t 5)
def qt (t : List UInt8) : Int := 3600 * qh t + 60 * qm t + qs t
def qk (t : List UInt8) : Prop := q1 t = true ∧ 0 ≤ qh t ∧ 0 ≤ qm t ∧ 0 ≤ qs t ∧ vf (qy t) (qo t) (qd t) (qt t) (qn t) = true ∧ tx (qy t) (qo t) (qd t) (qt t) (qn t) = t
/-- What the model accepts it reads as the scanner does. -/
theorem qk_pk {t : List UInt8} (h : qk t) : pk t = true ∧ gy t = qy t ∧ gm t = qo t ∧ gd t = qd t ∧ gs t = qt t ∧ gn t = qn t := by
  obtain ⟨-, -, -, -, hv, ht⟩ := h
  have h1 := pk_tx hv
  have h2 := scan_tx hv
  rw [ht] at h1 h2
  exact ⟨h1, h2⟩
theorem qk_tx {y m d s n : Int} (h : vf y m d s n = true) : qk (tx y m d s n) := by
  obtain ⟨hv, h1, h2⟩ := vf_of h
  obtain ⟨b1, b2, b3⟩ := vld_bd hv
  obtain ⟨c1, c2, c3, c4⟩ := h_bd h1
  have hs6 := sp_tx h
  have p0 : pc (tx y m d s n) 0 = [70, 73, 88] := by unfold pc; rw [hs6]; rfl
  have p1 : pc (tx y m d s n) 1 = d2 (hh s) ++ d2 (hm s) ++ d2 (hs s) := by unfold pc; rw [hs6]; rfl
  have p2 : pc (tx y m d s n) 2 = d2 d.toNat := by unfold pc; rw [hs6]; rfl
  have p3 : pc (tx y m d s n) 3 = d2 m.toNat := by unfold pc; rw [hs6]; rfl
  have p4 : pc (tx y m d s n) 4 = decDigits y.toNat := by unfold pc; rw [hs6]; rfl
  have p5 : pc (tx y m d s n) 5 = decDigits n.toNat := by unfold pc; rw [hs6]; rfl
  have eh : qh (tx y m d s n) = hh s := by
    unfold qh; rw [p1, show (d2 (hh s) ++ d2 (hm s) ++ d2 (hs s)).take 2 = d2 (hh s) from rfl]; exact rd_d2 (by omega)
  have em : qm (tx y m d s n) = hm s := by
    unfold qm; rw [p1, show ((d2 (hh s) ++ d2 (hm s) ++ d2 (hs s)).drop 2).take 2 = d2 (hm s) from rfl]; exact rd_d2 (by omega)
  have es : qs (tx y m d s n) = hs s := by
    unfold qs; rw [p1, show (d2 (hh s) ++ d2 (hm s) ++ d2 (hs s)).drop 4 = d2 (hs s) from rfl]; exact rd_d2 (by omega)
  have ed : qd (tx y m d s n) = d := by unfold qd; rw [p2, rd_d2 (by omega)]; omega
  have eo : qo (tx y m d s n) = m := by unfold qo; rw [p3, rd_d2 (by omega)]; omega
  have hl4 : (decDigits y.toNat).length = 4 := by rw [dec_four (by omega) (by omega)]; rfl
  have hl2 := dec_len2 (u := n.toNat) (by omega)
  have ey : qy (tx y m d s n) = y := by unfold qy; rw [p4, rd_dec (by omega) (by omega)]; omega
  have en : qn (tx y m d s n) = n := by unfold qn; rw [p5, rd_dec hl2.2 hl2.1]; omega
  have et : qt (tx y m d s n) = s := by unfold qt; rw [eh, em, es]; omega
  refine ⟨decide_eq_true ⟨by rw [hs6]; rfl, p0, by rw [p1]; rfl⟩, by rw [eh]; omega, by rw [em]; omega, by rw [es]; omega, ?_, ?_⟩
  · rw [ey, eo, ed, et, en]; exact h
  · rw [ey, eo, ed, et, en]
theorem pk_qk {t : List UInt8} (h : pk t = true) : qk t := by
  obtain ⟨hv, ht⟩ := pk_of h
  have := qk_tx hv
  rwa [ht] at this
end Go.Proofs.YtpfdjmffgbbmdaaGreatDoor.X

/-
  The plain mathematics of a session's lines: words, and the numbers that words are. No program is read here.
-/
namespace Go.Proofs.YtpfdjmffgbbmdaaGreatDoor.X
open Go.Lib
set_option linter.unusedVariables false
theorem sp_acc (c : UInt8) : ∀ l acc, ∃ p r, sp c l [] = p :: r ∧ sp c l acc = (acc ++ p) :: r
  | [], acc => ⟨[], [], rfl, by simp [sp]⟩
  | b :: t, acc => by
    by_cases h : b = c
    · subst h
      exact ⟨[], sp b t [], sp_yes b t [], by rw [sp_yes]; simp⟩
    · obtain ⟨p, r, h1, h2⟩ := sp_acc c t [b]
      obtain ⟨p', r', h3, h4⟩ := sp_acc c t (acc ++ [b])
      rw [h1] at h3
      injection h3 with e1 e2
      subst e1 e2
      exact ⟨b :: p, r, by rw [sp_no h]; simpa using h2, by rw [sp_no h, h4]; simp⟩
theorem ib_cons_ne {b c : UInt8} (h : b ≠ c) (l : List UInt8) : indexByte (b :: l) c = if indexByte l c = -1 then -1 else indexByte l c + 1 := by
  rw [show indexByte (b :: l) c = if b == c then 0 else if indexByte l c == -1 then -1 else indexByte l c + 1 from rfl, if_neg (by simpa using h)]
  by_cases k : indexByte l c = -1
  · simp [k]
  · simp [k]
theorem splitK_ne {b c : UInt8} (h : b ≠ c) (k : Nat) (t : List UInt8) : ∃ p r, splitK [c] 0 k t = p :: r ∧ splitK [c] 0 k (b :: t) = (b :: p) :: r := by
  cases k with
  | zero => exact ⟨t, [], rfl, rfl⟩
  | succ k =>
    unfold splitK
    rw [index_one, index_one, ib_cons_ne h]
    have hg := indexByte_ge t c
    by_cases e : indexByte t c = -1
    · rw [if_pos (by simpa using e), if_pos (by simp [e])]
      exact ⟨t, [], rfl, rfl⟩
    · rw [if_neg (by simpa using e), if_neg (by simp [e]; omega), if_neg e]
      refine ⟨_, _, rfl, ?_⟩
      obtain ⟨i, hi⟩ : ∃ i : Nat, indexByte t c = i := ⟨(indexByte t c).toNat, by omega⟩
      rw [hi, show ((i : Int) + 1).toNat = i + 1 by omega, show ((i : Int)).toNat = i by omega]
      simp
theorem splitK_eq (c : UInt8) (k : Nat) (t : List UInt8) : splitK [c] 0 (1 + k) (c :: t) = [] :: splitK [c] 0 k t := by
  rw [Nat.add_comm]
  have e : index (c :: t) [c] = 0 := by rw [index_one]; unfold indexByte; simp
  rw [splitK, e]
  simp
/-- Words, by the library and by hand. -/
theorem split_sp (c : UInt8) : ∀ l, splitK [c] 0 (count l [c]) l = sp c l []
  | [] => by
    have : count ([] : List UInt8) [c] = 0 := by rw [count_one]; rfl
    rw [this]; rfl
  | b :: t => by
    by_cases h : b = c
    · subst h
      rw [count_cons_eq, splitK_eq, sp_yes, split_sp]
    · rw [count_cons_ne b c t h]
      obtain ⟨p, r, h1, h2⟩ := splitK_ne h (count t [c]) t
      rw [split_sp c t] at h1
      obtain ⟨p', r', h3, h4⟩ := sp_acc c t [b]
      rw [h1] at h3
      injection h3 with e1 e2
      subst e1 e2
      rw [h2, sp_no h]
      simpa using h4.symm
theorem splitB_sp (c : UInt8) (s : ByteArray) : splitB ⟨#[c]⟩ 0 (countB s ⟨#[c]⟩) s = (sp c (S.lst s) []).map S.mk := by
  have h := splitB_data ⟨#[c]⟩ 0 (countB s ⟨#[c]⟩) s
  have h2 : splitK [c] 0 (countB s ⟨#[c]⟩) s.data.toList = sp c (S.lst s) [] := split_sp c _
  rw [show (⟨#[c]⟩ : ByteArray).data.toList = [c] from rfl, h2] at h
  rw [← h, List.map_map]
  conv => lhs; rw [← List.map_id (splitB ⟨#[c]⟩ 0 (countB s ⟨#[c]⟩) s)]
  apply List.map_congr_left
  intro a _
  exact (S.mk_lst a).symm
theorem countB_sp (c : UInt8) (s : ByteArray) : countB s ⟨#[c]⟩ + 1 = (sp c (S.lst s) []).length := by
  have h := splitB_all ⟨#[c]⟩ (Nat.le_refl 1) 0 (countB s ⟨#[c]⟩) s rfl
  rw [splitB_sp, List.length_map] at h
  exact h.symm
/-! ### the number that a word is -/
theorem num_all : ∀ (l : List UInt8) (k n : Nat), l.length ≤ k → (∀ b ∈ l, isD b = true) → num k n l = (vl n l, [])
  | [], k, n, _, _ => num_nil k n
  | b :: l, 0, n, h, _ => by simp at h
  | b :: l, k + 1, n, h, hd => by
    rw [num_yes (hd b (by simp)), num_all l k _ (by simpa using h) (fun x hx => hd x (by simp [hx]))]
    rfl
theorem dec_ne (u : Nat) : 1 ≤ (decDigits u).length := by
  by_cases h : u < 10
  · rw [dec_small h]; simp
  · rw [dec_big h]; simp
theorem dec_lenk : ∀ (k u : Nat), u < 10 ^ (k + 1) → (decDigits u).length ≤ k + 1
  | 0, u, h => by rw [dec_small (by simpa using h)]; simp
  | k + 1, u, h => by
    by_cases h10 : u < 10
    · rw [dec_small h10]; simp
    · rw [dec_big h10, List.length_append]
      have := dec_lenk k (u / 10) (by rw [Nat.pow_succ] at h; omega)
      simp; omega
/-- The number that a word is, -1 for other words. -/
def wn (l : List UInt8) : Int := if decDigits (num 10 0 l).1 = l then ((num 10 0 l).1 : Int) else -1
theorem wn_yes {l : List UInt8} (h : decDigits (num 10 0 l).1 = l) : wn l = (num 10 0 l).1 := if_pos h
theorem wn_no {l : List UInt8} (h : decDigits (num 10 0 l).1 ≠ l) : wn l = -1 := if_neg h
theorem wn_num {l : List UInt8} (h : decDigits (num 10 0 l).1 = l) : rd 10 l = (num 10 0 l).1 := by
  have hb := num_bd 10 0 l
  have h1 := dec_ne (num 10 0 l).1
  have h2 := dec_lenk 9 (num 10 0 l).1 (by simpa using hb)
  have h3 := dec_dig (num 10 0 l).1
  rw [h] at h1 h2 h3
  rw [rd_yes h1 h2 h3, num_all l 10 0 h2 h3]
/-- The number as the model reads it. -/
theorem wn_rd (l : List UInt8) : wn l = if 0 ≤ rd 10 l ∧ decDigits (rd 10 l).toNat = l then rd 10 l else -1 := by
  by_cases h : decDigits (num 10 0 l).1 = l
  · have e := wn_num h
    rw [wn_yes h, e, if_pos ⟨by omega, by rw [show (((num 10 0 l).1 : Nat) : Int).toNat = (num 10 0 l).1 by omega]; exact h⟩]
  · rw [wn_no h, if_neg]
    rintro ⟨h0, hd⟩
    by_cases q : (1 ≤ l.length ∧ l.length ≤ 10) ∧ ∀ b ∈ l, isD b = true
    · rw [rd_yes q.1.1 q.1.2 q.2] at hd
      rw [num_all l 10 0 q.1.2 q.2] at h
      exact h (by simpa using hd)
    · have : rd 10 l = -1 := if_neg q
      omega
theorem wn_bd (l : List UInt8) : -1 ≤ wn l ∧ wn l < 10000000000 := by
  have hb := num_bd 10 0 l
  unfold wn
  split <;> omega
end Go.Proofs.YtpfdjmffgbbmdaaGreatDoor.X

/-
  Plain mathematics of holdover (chapter 9): valid states, the error at a time, levels, until when a clock holds, satellites seen again.
-/
namespace Go.Proofs.YtpfdjmffgbbmdaaGreatDoor
namespace H
set_option linter.unusedVariables false
def vs (e w s : Int) : Bool := decide ((0 ≤ e ∧ e ≤ 1000000) ∧ (0 ≤ w ∧ w ≤ 1000) ∧ (0 ≤ s ∧ s ≤ 3786479999))
theorem vs_of {e w s : Int} (h : vs e w s = true) : (0 ≤ e ∧ e ≤ 1000000) ∧ (0 ≤ w ∧ w ≤ 1000) ∧ (0 ≤ s ∧ s ≤ 3786479999) := of_decide_eq_true h
theorem vs_yes {e w s : Int} (h : (0 ≤ e ∧ e ≤ 1000000) ∧ (0 ≤ w ∧ w ≤ 1000) ∧ (0 ≤ s ∧ s ≤ 3786479999)) : vs e w s = true := decide_eq_true h
theorem vs_no {e w s : Int} (h : ¬ ((0 ≤ e ∧ e ≤ 1000000) ∧ (0 ≤ w ∧ w ≤ 1000) ∧ (0 ≤ s ∧ s ≤ 3786479999))) : vs e w s = false := decide_eq_false h
/-- The state is valid, and the time is told. -/
def ok (e w s t : Int) : Bool := decide (vs e w s = true ∧ s ≤ t ∧ t ≤ 3786479999)
theorem ok_of {e w s t : Int} (h : ok e w s t = true) : vs e w s = true ∧ s ≤ t ∧ t ≤ 3786479999 := of_decide_eq_true h
theorem ok_yes {e w s t : Int} (h : vs e w s = true ∧ s ≤ t ∧ t ≤ 3786479999) : ok e w s t = true := decide_eq_true h
theorem ok_no {e w s t : Int} (h : ¬ (vs e w s = true ∧ s ≤ t ∧ t ≤ 3786479999)) : ok e w s t = false := decide_eq_false h
/-- The error of a valid state. -/
def er (e w s t : Int) : Int := min (e + w * (t - s)) 1000000
def ea (e w s t : Int) : Int := if ok e w s t = true then er e w s t else -1
theorem ea_yes {e w s t : Int} (h : ok e w s t = true) : ea e w s t = er e w s t := if_pos h
theorem ea_no {e w s t : Int} (h : ok e w s t = false) : ea e w s t = -1 := if_neg (by simp [h])
theorem mul_in {w d : Int} (hw : 0 ≤ w ∧ w ≤ 1000) (hd : 0 ≤ d ∧ d ≤ 3786479999) : 0 ≤ w * d ∧ w * d ≤ 3786479999000 := by
  have h0 := Int.mul_nonneg hw.1 hd.1
  have h1 : w * d ≤ 1000 * d := Int.mul_le_mul_of_nonneg_right hw.2 hd.1
  omega
theorem er_bd {e w s t : Int} (h : ok e w s t = true) : e ≤ er e w s t ∧ 0 ≤ er e w s t ∧ er e w s t ≤ 1000000 := by
  obtain ⟨hv, h1, h2⟩ := ok_of h
  obtain ⟨he, hw, hs⟩ := vs_of hv
  have := mul_in hw (d := t - s) (by omega)
  unfold er; omega
theorem ea_bd {e w s t : Int} (h : ok e w s t = true) : e ≤ ea e w s t ∧ 0 ≤ ea e w s t ∧ ea e w s t ≤ 1000000 := by rw [ea_yes h]; exact er_bd h
theorem er_self {e w s : Int} (h : vs e w s = true) : er e w s s = e := by
  have := (vs_of h).1
  unfold er; simp; omega
theorem ok_self {e w s : Int} (h : vs e w s = true) : ok e w s s = true := ok_yes ⟨h, by omega, (vs_of h).2.2.2⟩
theorem ok_next {e w s t : Int} (h : ok e w s t = true) (ht : t ≠ 3786479999) : ok e w s (t + 1) = true := by
  obtain ⟨hv, h1, h2⟩ := ok_of h
  exact ok_yes ⟨hv, by omega, by omega⟩
theorem er_next {e w s t : Int} (h : ok e w s t = true) : er e w s t ≤ er e w s (t + 1) ∧ er e w s (t + 1) ≤ er e w s t + w := by
  obtain ⟨hv, h1, h2⟩ := ok_of h
  obtain ⟨he, hw, hs⟩ := vs_of hv
  have hm : w * (t + 1 - s) = w * (t - s) + w := by rw [show t + 1 - s = (t - s) + 1 by omega, Int.mul_add, Int.mul_one]
  unfold er; rw [hm]; omega
/-- The level of a state at a time. -/
def lv (e w s t : Int) : Int := if t - s ≤ 60 ∧ er e w s t ≤ 1000 then 2 else if er e w s t ≤ 100000 then 1 else 0
def la (e w s t : Int) : Int := if ok e w s t = true then lv e w s t else -1
theorem la_yes {e w s t : Int} (h : ok e w s t = true) : la e w s t = lv e w s t := if_pos h
theorem la_no {e w s t : Int} (h : ok e w s t = false) : la e w s t = -1 := if_neg (by simp [h])
theorem lv_bd (e w s t : Int) : 0 ≤ lv e w s t ∧ lv e w s t ≤ 2 := by unfold lv; repeat (first | omega | split)
theorem lv_two {e w s t : Int} : lv e w s t = 2 ↔ t - s ≤ 60 ∧ er e w s t ≤ 1000 := by
  unfold lv
  split
  · constructor <;> omega
  · split <;> constructor <;> omega
theorem lv_zero {e w s t : Int} : lv e w s t = 0 ↔ 100000 < er e w s t := by
  unfold lv
  split
  · constructor <;> omega
  · split <;> constructor <;> omega
theorem lv_next {e w s t : Int} (h : ok e w s t = true) : lv e w s (t + 1) ≤ lv e w s t := by
  have := er_next h
  unfold lv
  repeat (first | omega | split)
/-- Until when a state holds. -/
def hk (e w s : Int) : Bool := decide (vs e w s = true ∧ e ≤ 100000)
theorem hk_of {e w s : Int} (h : hk e w s = true) : vs e w s = true ∧ e ≤ 100000 := of_decide_eq_true h
theorem hk_yes {e w s : Int} (h : vs e w s = true ∧ e ≤ 100000) : hk e w s = true := decide_eq_true h
theorem hk_no {e w s : Int} (h : ¬ (vs e w s = true ∧ e ≤ 100000)) : hk e w s = false := decide_eq_false h
def hn (e w s : Int) : Int := if w = 0 then 3786479999 else min (s + (100000 - e) / w) 3786479999
def hu (e w s : Int) : Int := if hk e w s = true then hn e w s else -1
theorem hu_yes {e w s : Int} (h : hk e w s = true) : hu e w s = hn e w s := if_pos h
theorem hu_no {e w s : Int} (h : hk e w s = false) : hu e w s = -1 := if_neg (by simp [h])
theorem quo {e w : Int} (he : 0 ≤ e ∧ e ≤ 100000) (hw : 1 ≤ w) : 0 ≤ (100000 - e) / w ∧ (100000 - e) / w ≤ 100000 ∧ w * ((100000 - e) / w) ≤ 100000 - e ∧ 100000 - e < w * ((100000 - e) / w) + w := by
  have h1 := Int.mul_ediv_add_emod (100000 - e) w
  have h2 := Int.emod_nonneg (100000 - e) (show w ≠ 0 by omega)
  have h3 := Int.emod_lt_of_pos (100000 - e) (show 0 < w by omega)
  have h4 : 0 ≤ (100000 - e) / w := Int.ediv_nonneg (by omega) (by omega)
  have h5 : (100000 - e) / w ≤ 100000 - e := Int.ediv_le_self _ (by omega)
  omega
theorem hn_bd {e w s : Int} (h : hk e w s = true) : s ≤ hn e w s ∧ hn e w s ≤ 3786479999 := by
  obtain ⟨hv, h1⟩ := hk_of h
  obtain ⟨he, hw, hs⟩ := vs_of hv
  unfold hn
  split
  · omega
  · have := quo (e := e) (w := w) (by omega) (by omega)
    omega
theorem hn_ok {e w s : Int} (h : hk e w s = true) : ok e w s (hn e w s) = true := by
  have := hn_bd h
  exact ok_yes ⟨(hk_of h).1, by omega, by omega⟩
theorem hn_here {e w s : Int} (h : hk e w s = true) : 0 < lv e w s (hn e w s) := by
  obtain ⟨hv, h1⟩ := hk_of h
  obtain ⟨he, hw, hs⟩ := vs_of hv
  have hb := lv_bd e w s (hn e w s)
  suffices hne : lv e w s (hn e w s) ≠ 0 by omega
  rw [Ne, lv_zero]
  unfold er
  by_cases h0 : w = 0
  · subst h0; simp; omega
  · have hq := quo (e := e) (w := w) (by omega) (by omega)
    have hle : hn e w s - s ≤ (100000 - e) / w := by unfold hn; rw [if_neg h0]; omega
    have hm := Int.mul_le_mul_of_nonneg_left hle hw.1
    omega
theorem hn_next {e w s : Int} (h : hk e w s = true) (hne : hn e w s ≠ 3786479999) : lv e w s (hn e w s + 1) = 0 := by
  obtain ⟨hv, h1⟩ := hk_of h
  obtain ⟨he, hw, hs⟩ := vs_of hv
  rw [lv_zero]
  by_cases h0 : w = 0
  · exact absurd (show hn e w s = 3786479999 by unfold hn; rw [if_pos h0]) hne
  · have hq := quo (e := e) (w := w) (by omega) (by omega)
    have heq : hn e w s = s + (100000 - e) / w := by
      have : hn e w s = min (s + (100000 - e) / w) 3786479999 := by unfold hn; rw [if_neg h0]
      omega
    unfold er
    rw [heq, show s + (100000 - e) / w + 1 - s = (100000 - e) / w + 1 by omega, Int.mul_add, Int.mul_one]
    omega
theorem hn_none {e w s : Int} (h : vs e w s = true) : hk e w s = false ↔ lv e w s s = 0 := by
  rw [lv_zero, er_self h]
  have : hk e w s = false ↔ ¬ (vs e w s = true ∧ e ≤ 100000) := by unfold hk; simp
  rw [this]; simp [h]
theorem hn_less {e w s : Int} (h : hk e w s = true) (h0 : w ≠ 0) : hk e (w - 1) s = true ∧ hn e w s ≤ hn e (w - 1) s := by
  obtain ⟨hv, h1⟩ := hk_of h
  obtain ⟨he, hw, hs⟩ := vs_of hv
  refine ⟨hk_yes ⟨vs_yes ⟨he, by omega, hs⟩, h1⟩, ?_⟩
  by_cases h2 : w - 1 = 0
  · have := hn_bd h
    rw [show hn e (w - 1) s = 3786479999 by unfold hn; rw [if_pos h2]]
    omega
  · have a : hn e w s = min (s + (100000 - e) / w) 3786479999 := by unfold hn; rw [if_neg h0]
    have b : hn e (w - 1) s = min (s + (100000 - e) / (w - 1)) 3786479999 := by unfold hn; rw [if_neg h2]
    have hq := quo (e := e) (w := w) (by omega) (by omega)
    have hle : (100000 - e) / w ≤ (100000 - e) / (w - 1) := by
      rw [Int.le_ediv_iff_mul_le (by omega), Int.mul_comm, Int.sub_mul]
      omega
    omega
/-- Satellites are seen again. -/
def sk (e w s t x : Int) : Bool := decide (ok e w s t = true ∧ 0 ≤ x ∧ x ≤ 1000000)
theorem sk_of {e w s t x : Int} (h : sk e w s t x = true) : ok e w s t = true ∧ 0 ≤ x ∧ x ≤ 1000000 := of_decide_eq_true h
theorem sk_yes {e w s t x : Int} (h : ok e w s t = true ∧ 0 ≤ x ∧ x ≤ 1000000) : sk e w s t x = true := decide_eq_true h
theorem sk_no {e w s t x : Int} (h : ¬ (ok e w s t = true ∧ 0 ≤ x ∧ x ≤ 1000000)) : sk e w s t x = false := decide_eq_false h
def se (e w s t x : Int) : Int := if sk e w s t x = true then min x (er e w s t) else 0
def sw (e w s t x : Int) : Int := if sk e w s t x = true then w else 0
def ss (e w s t x : Int) : Int := if sk e w s t x = true then t else 0
theorem s_yes {e w s t x : Int} (h : sk e w s t x = true) : se e w s t x = min x (er e w s t) ∧ sw e w s t x = w ∧ ss e w s t x = t := ⟨if_pos h, if_pos h, if_pos h⟩
theorem s_no {e w s t x : Int} (h : sk e w s t x = false) : se e w s t x = 0 ∧ sw e w s t x = 0 ∧ ss e w s t x = 0 := ⟨if_neg (by simp [h]), if_neg (by simp [h]), if_neg (by simp [h])⟩
theorem s_valid {e w s t x : Int} (h : sk e w s t x = true) : vs (min x (er e w s t)) w t = true := by
  obtain ⟨ho, hx⟩ := sk_of h
  have hb := er_bd ho
  obtain ⟨hv, h1, h2⟩ := ok_of ho
  obtain ⟨he, hw, hs⟩ := vs_of hv
  exact vs_yes ⟨by omega, hw, by omega, h2⟩
theorem s_later {e w s t x u : Int} (h : sk e w s t x = true) (hu : t ≤ u) : er (min x (er e w s t)) w t u ≤ er e w s u := by
  obtain ⟨ho, hx⟩ := sk_of h
  obtain ⟨hv, h1, h2⟩ := ok_of ho
  obtain ⟨he, hw, hs⟩ := vs_of hv
  have hm : w * (u - s) = w * (u - t) + w * (t - s) := by rw [← Int.mul_add]; congr 1; omega
  unfold er
  rw [hm]
  omega
theorem s_self {e w s t x : Int} (h : sk e w s t x = true) : ok (min x (er e w s t)) w t t = true ∧ er (min x (er e w s t)) w t t = min x (er e w s t) := by
  have hv := s_valid h
  exact ⟨ok_self hv, er_self hv⟩
end H
end Go.Proofs.YtpfdjmffgbbmdaaGreatDoor

/-
  The plain arithmetic of samples: valid samples, the fastest of them, how much their offsets differ, the offset in the middle. No program is read here.
-/
namespace Go.Proofs.YtpfdjmffgbbmdaaGreatDoor.Q

/-- A sample: offset, delay, time. -/
abbrev Sm := Int × Int × Int
def of (l : List Sm) (i : Nat) : Int := (l.getD i (0, 0, 0)).1
def de (l : List Sm) (i : Nat) : Int := (l.getD i (0, 0, 0)).2.1
def tm (l : List Sm) (i : Nat) : Int := (l.getD i (0, 0, 0)).2.2
theorem get (l : List Sm) (i : Nat) (h : i < l.length) : l[i]? = some (of l i, de l i, tm l i) := by
  unfold of de tm; rw [List.getD_eq_getElem?_getD, List.getElem?_eq_getElem h]; rfl
def ok1 (a b c : Int) : Prop := (-1000000 ≤ a ∧ a ≤ 1000000) ∧ (0 ≤ b ∧ b ≤ 1000000) ∧ 0 ≤ c ∧ c ≤ 3786479999
instance (a b c : Int) : Decidable (ok1 a b c) := by unfold ok1; infer_instance
def okAt (l : List Sm) (i : Nat) : Prop := ok1 (of l i) (de l i) (tm l i) ∧ (0 < i → tm l (i - 1) < tm l i)
instance (l : List Sm) (i : Nat) : Decidable (okAt l i) := by unfold okAt; infer_instance
def okTo (l : List Sm) (k : Nat) : Prop := ∀ i, i < k → okAt l i
instance (l : List Sm) (k : Nat) : Decidable (okTo l k) := by unfold okTo; infer_instance
def vq (l : List Sm) : Bool := decide ((1 ≤ l.length ∧ l.length ≤ 8) ∧ okTo l l.length)
theorem vq_yes {l : List Sm} (h : 1 ≤ l.length) (h' : l.length ≤ 8) (k : okTo l l.length) : vq l = true := decide_eq_true ⟨⟨h, h'⟩, k⟩
theorem vq_long {l : List Sm} (h : ¬ (1 ≤ l.length ∧ l.length ≤ 8)) : vq l = false := decide_eq_false (fun k => h k.1)
theorem vq_bad {l : List Sm} (i : Nat) (hi' : i < l.length) (h : ¬ okAt l i) : vq l = false := decide_eq_false (fun k => h (k.2 i hi'))
theorem vq_of {l : List Sm} (h : vq l = true) : (1 ≤ l.length ∧ l.length ≤ 8) ∧ okTo l l.length := of_decide_eq_true h
theorem okTo_succ {l : List Sm} {k : Nat} (h : okTo l k) (h' : okAt l k) : okTo l (k + 1) := fun i hi' => by
  rcases Nat.lt_or_ge i k with a | a
  · exact h i a
  · obtain rfl : i = k := by omega
    exact h'
theorem asc {l : List Sm} {n : Nat} (h : okTo l n) : ∀ j i : Nat, i < j → j < n → tm l i < tm l j
  | 0, i, hi', _ => absurd hi' (by omega)
  | j + 1, i, hi', hj => by
    have h1 := (h (j + 1) hj).2 (by omega)
    simp only [Nat.add_sub_cancel] at h1
    rcases Nat.lt_or_ge i j with a | a
    · have := asc h j i a (by omega); omega
    · obtain rfl : i = j := by omega
      exact h1
/-- The last one of the fastest among the first k + 1. -/
def bestTo (l : List Sm) : Nat → Nat
  | 0 => 0
  | k + 1 => if de l (k + 1) ≤ de l (bestTo l k) then k + 1 else bestTo l k
def best (l : List Sm) : Nat := bestTo l (l.length - 1)
structure Best (l : List Sm) (b k : Nat) : Prop where
  le : b ≤ k
  min_ : ∀ j, j ≤ k → de l b ≤ de l j
  last : ∀ j, j ≤ k → b < j → de l b < de l j
theorem bestTo_is (l : List Sm) : ∀ k, Best l (bestTo l k) k
  | 0 => ⟨Nat.le_refl _, fun j hj => by obtain rfl : j = 0 := by omega
                                        exact Int.le_refl _, fun j hj hb => by unfold bestTo at hb; omega⟩
  | k + 1 => by
    have ih := bestTo_is l k
    unfold bestTo
    split
    · rename_i h
      refine ⟨Nat.le_refl _, fun j hj => ?_, fun j hj hb => by omega⟩
      rcases Nat.lt_or_ge k j with a | a
      · obtain rfl : j = k + 1 := by omega
        exact Int.le_refl _
      · have := ih.min_ j a; omega
    · rename_i h
      refine ⟨by have := ih.le; omega, fun j hj => ?_, fun j hj hb => ?_⟩
      · rcases Nat.lt_or_ge k j with a | a
        · obtain rfl : j = k + 1 := by omega
          omega
        · exact ih.min_ j a
      · rcases Nat.lt_or_ge k j with a | a
        · obtain rfl : j = k + 1 := by omega
          omega
        · exact ih.last j a hb
theorem Best.same {l : List Sm} {a b k : Nat} (h : Best l a k) (h' : Best l b k) : a = b := by
  rcases Nat.lt_trichotomy a b with x | x | x
  · have := h.last b h'.le x; have := h'.min_ a h.le; omega
  · exact x
  · have := h'.last a h.le x; have := h.min_ b h'.le; omega
theorem best_lt {l : List Sm} (h : 0 < l.length) : best l < l.length := by have := (bestTo_is l (l.length - 1)).le; unfold best; omega
/-- The sum of the differences to a number. -/
def abs (n : Int) : Int := if n < 0 then -n else n
theorem abs_nn (n : Int) : 0 ≤ abs n := by unfold abs; split <;> omega
def sumTo (l : List Sm) (b : Int) : Nat → Int
  | 0 => 0
  | k + 1 => sumTo l b k + abs (of l k - b)
theorem sumTo_bd {l : List Sm} {b : Int} (hb : -1000000 ≤ b ∧ b ≤ 1000000) : ∀ k, (∀ i, i < k → -1000000 ≤ of l i ∧ of l i ≤ 1000000) → 0 ≤ sumTo l b k ∧ sumTo l b k ≤ 2000000 * (k : Int)
  | 0, _ => by unfold sumTo; omega
  | k + 1, h => by
    have h1 := sumTo_bd hb k (fun i hi' => h i (by omega))
    have h2 := h k (by omega)
    have h3 : 0 ≤ abs (of l k - b) ∧ abs (of l k - b) ≤ 2000000 := by unfold abs; split <;> omega
    unfold sumTo; push_cast; omega
def jit (l : List Sm) : Int := sumTo l (of l (best l)) l.length / (l.length : Int)
def jf (l : List Sm) : Int := if vq l = true then jit l else -1
theorem jf_yes {l : List Sm} (h : vq l = true) : jf l = jit l := if_pos h
theorem jf_no {l : List Sm} (h : vq l = false) : jf l = -1 := if_neg (by rw [h]; decide)
def bo (l : List Sm) : Int := if vq l = true then of l (best l) else 0
def bd (l : List Sm) : Int := if vq l = true then de l (best l) else 0
def bt (l : List Sm) : Int := if vq l = true then tm l (best l) else 0
theorem b_yes {l : List Sm} (h : vq l = true) : bo l = of l (best l) ∧ bd l = de l (best l) ∧ bt l = tm l (best l) := ⟨if_pos h, if_pos h, if_pos h⟩
theorem b_no {l : List Sm} (h : vq l = false) : bo l = 0 ∧ bd l = 0 ∧ bt l = 0 := ⟨if_neg (by rw [h]; decide), if_neg (by rw [h]; decide), if_neg (by rw [h]; decide)⟩
theorem abs_max (n : Int) : abs n = max n (-n) := by unfold abs; split <;> omega
end Go.Proofs.YtpfdjmffgbbmdaaGreatDoor.Q

/-
  The plain arithmetic of buckets (chapter 15): valid buckets, tokens, a bucket's place. No program is read here.
-/
namespace Go.Proofs.YtpfdjmffgbbmdaaGreatDoor.B
set_option linter.unusedVariables false
/-- A bucket: client, tokens, since when. -/
abbrev Bk := Int × Int × Int
def ok1 (c k t : Int) : Prop := (0 ≤ c ∧ c ≤ 99) ∧ (0 ≤ k ∧ k ≤ 5) ∧ (0 ≤ t ∧ t ≤ 3786479999)
instance (a b c : Int) : Decidable (ok1 a b c) := by unfold ok1; infer_instance
def okAt (l : List Bk) (i : Nat) : Prop := ok1 (Q.of l i) (Q.de l i) (Q.tm l i) ∧ (0 < i → Q.of l (i - 1) < Q.of l i)
instance (l : List Bk) (i : Nat) : Decidable (okAt l i) := by unfold okAt; infer_instance
def okTo (l : List Bk) (k : Nat) : Prop := ∀ i, i < k → okAt l i
instance (l : List Bk) (k : Nat) : Decidable (okTo l k) := by unfold okTo; infer_instance
theorem okTo_succ {l : List Bk} {k : Nat} (h : okTo l k) (h' : okAt l k) : okTo l (k + 1) := fun i hi => by
  rcases Nat.lt_or_ge i k with a | a
  · exact h i a
  · obtain rfl : i = k := by omega
    exact h'
def bv (l : List Bk) : Bool := decide (l.length ≤ 8 ∧ okTo l l.length)
theorem bv_of {l : List Bk} (h : bv l = true) : l.length ≤ 8 ∧ okTo l l.length := of_decide_eq_true h
theorem bv_yes {l : List Bk} (h : l.length ≤ 8) (k : okTo l l.length) : bv l = true := decide_eq_true ⟨h, k⟩
theorem bv_long {l : List Bk} (h : 8 < l.length) : bv l = false := decide_eq_false (fun k => by omega)
theorem bv_bad {l : List Bk} (i : Nat) (hi : i < l.length) (h : ¬ okAt l i) : bv l = false := decide_eq_false (fun k => h (k.2 i hi))
theorem rng {l : List Bk} (h : bv l = true) {i : Nat} (hi : i < l.length) : ok1 (Q.of l i) (Q.de l i) (Q.tm l i) := ((bv_of h).2 i hi).1
/-- The clients ascend. -/
def Asc (l : List Bk) : Prop := l.Pairwise (fun p q => p.1 < q.1)
theorem okTo_lt {l : List Bk} {n : Nat} (h : okTo l n) : ∀ j i : Nat, i < j → j < n → Q.of l i < Q.of l j
  | 0, i, hi, _ => absurd hi (by omega)
  | j + 1, i, hi, hj => by
    have h1 := (h (j + 1) hj).2 (by omega)
    simp only [Nat.add_sub_cancel] at h1
    rcases Nat.lt_or_ge i j with a | a
    · have := okTo_lt h j i a (by omega); omega
    · obtain rfl : i = j := by omega
      exact h1
theorem getp (l : List Bk) (i : Nat) (h : i < l.length) : l[i] = (Q.of l i, Q.de l i, Q.tm l i) := by
  have := Q.get l i h
  rw [List.getElem?_eq_getElem h] at this
  injection this
theorem bv_asc {l : List Bk} (h : bv l = true) : Asc l := by
  unfold Asc
  rw [List.pairwise_iff_getElem]
  intro i j hi hj hij
  rw [getp l i hi, getp l j hj]
  exact okTo_lt (bv_of h).2 j i hij hj
/-- Valid, said of the members. -/
theorem bv_mem {l : List Bk} (h : bv l = true) {p : Bk} (hp : p ∈ l) : ok1 p.1 p.2.1 p.2.2 := by
  obtain ⟨i, hi, e⟩ := List.getElem_of_mem hp
  rw [getp l i hi] at e
  have := rng h hi
  rw [← e]; exact this
theorem bv_make {l : List Bk} (h8 : l.length ≤ 8) (hm : ∀ p ∈ l, ok1 p.1 p.2.1 p.2.2) (ha : Asc l) : bv l = true := by
  refine bv_yes h8 (fun i hi => ⟨?_, fun h0 => ?_⟩)
  · have := hm _ (List.getElem_mem hi)
    rw [getp l i hi] at this
    exact this
  · unfold Asc at ha
    rw [List.pairwise_iff_getElem] at ha
    have := ha (i - 1) i (by omega) hi (by omega)
    rw [getp l (i - 1) (by omega), getp l i hi] at this
    exact this
/-- The tokens of a bucket at a time. -/
def tk (p : Bk) (t : Int) : Int := min 5 (p.2.1 + max 0 (t - p.2.2) / 8)
theorem tk_le (p : Bk) (t : Int) : tk p t ≤ 5 := by unfold tk; omega
theorem tk_pos {p : Bk} (h : 0 ≤ p.2.1) (t : Int) : 0 ≤ tk p t := by unfold tk; omega
theorem tk_new {t : Int} (h : 0 ≤ t) (c : Int) : tk (c, 5, 0) t = 5 := by unfold tk; simp only; omega
def fnd (l : List Bk) (c : Int) : Option Bk := l.find? (fun p => p.1 == c)
/-- The bucket of a client, or a full one. -/
def bk (l : List Bk) (c : Int) : Bk := (fnd l c).getD (c, 5, 0)
theorem fnd_mem {l : List Bk} {c : Int} {p : Bk} (h : fnd l c = some p) : p ∈ l ∧ p.1 = c := by
  unfold fnd at h
  exact ⟨List.mem_of_find?_eq_some h, by simpa using List.find?_some h⟩
theorem fnd_none {l : List Bk} {c : Int} (h : fnd l c = none) : ∀ p ∈ l, p.1 ≠ c := by
  unfold fnd at h
  intro p hp
  have := List.find?_eq_none.1 h p hp
  simpa using this
theorem fnd_of {l : List Bk} (ha : Asc l) {p : Bk} (hp : p ∈ l) : fnd l p.1 = some p := by
  rcases h : fnd l p.1 with _ | q
  · exact absurd rfl (fnd_none h p hp)
  · obtain ⟨hq, e⟩ := fnd_mem h
    congr 1
    obtain ⟨i, hi, ei⟩ := List.getElem_of_mem hp
    obtain ⟨j, hj, ej⟩ := List.getElem_of_mem hq
    unfold Asc at ha
    rw [List.pairwise_iff_getElem] at ha
    rcases Nat.lt_trichotomy i j with a | a | a
    · have := ha i j hi hj a; rw [ei, ej] at this; omega
    · subst a; rw [← ei, ← ej]
    · have := ha j i hj hi a; rw [ei, ej] at this; omega
theorem bk_ok {l : List Bk} (h : bv l = true) (c : Int) : (bk l c).1 = c ∧ (0 ≤ (bk l c).2.1 ∧ (bk l c).2.1 ≤ 5) ∧ (0 ≤ (bk l c).2.2 ∧ (bk l c).2.2 ≤ 3786479999) := by
  unfold bk
  rcases hf : fnd l c with _ | p
  · simp
  · obtain ⟨hp, e⟩ := fnd_mem hf
    have := bv_mem h hp
    exact ⟨e, this.2.1, this.2.2⟩
/-- A bucket at its place. -/
def put (l : List Bk) (p : Bk) : List Bk := l.filter (fun q => decide (q.1 < p.1)) ++ p :: l.filter (fun q => decide (p.1 < q.1))
theorem put_mem {l : List Bk} {p q : Bk} : q ∈ put l p ↔ q = p ∨ (q ∈ l ∧ q.1 ≠ p.1) := by
  unfold put
  simp only [List.mem_append, List.mem_cons, List.mem_filter, decide_eq_true_eq]
  constructor
  · rintro (⟨a, b⟩ | a | ⟨a, b⟩)
    · exact .inr ⟨a, by omega⟩
    · exact .inl a
    · exact .inr ⟨a, by omega⟩
  · rintro (a | ⟨a, b⟩)
    · exact .inr (.inl a)
    · rcases Int.lt_or_gt_of_ne b with c | c
      · exact .inl ⟨a, c⟩
      · exact .inr (.inr ⟨a, c⟩)
theorem put_asc {l : List Bk} (h : Asc l) (p : Bk) : Asc (put l p) := by
  unfold Asc put at *
  rw [List.pairwise_append]
  refine ⟨h.filter _, List.pairwise_cons.2 ⟨fun q hq => ?_, h.filter _⟩, fun a ha b hb => ?_⟩
  · simp only [List.mem_filter, decide_eq_true_eq] at hq; exact hq.2
  · simp only [List.mem_filter, decide_eq_true_eq] at ha
    rcases List.mem_cons.1 hb with rfl | hb
    · exact ha.2
    · simp only [List.mem_filter, decide_eq_true_eq] at hb; have := ha.2; have := hb.2; omega
theorem filter_len (l : List Bk) (c : Int) : (l.filter (fun q => decide (q.1 < c))).length + (l.filter (fun q => decide (c < q.1))).length ≤ l.length := by
  induction l with
  | nil => simp
  | cons q l ih =>
    simp only [List.filter_cons, List.length_cons]
    by_cases a : q.1 < c
    · have b : ¬ c < q.1 := by omega
      simp [a, b]; omega
    · by_cases b : c < q.1
      · simp [a, b]; omega
      · simp [a, b]; omega
theorem put_len (l : List Bk) (p : Bk) : (put l p).length ≤ l.length + 1 := by
  have := filter_len l p.1
  unfold put
  simp only [List.length_append, List.length_cons]
  omega
theorem put_fnd {l : List Bk} (h : Asc l) (p : Bk) (c : Int) : fnd (put l p) c = if c = p.1 then some p else fnd l c := by
  have ha := put_asc h p
  by_cases e : c = p.1
  · rw [if_pos e, e]; exact fnd_of ha (put_mem.2 (.inl rfl))
  · rw [if_neg e]
    rcases hf : fnd l c with _ | q
    · rcases hg : fnd (put l p) c with _ | r
      · rfl
      · obtain ⟨hr, er⟩ := fnd_mem hg
        rcases put_mem.1 hr with rfl | ⟨hr', _⟩
        · exact absurd er.symm e
        · exact absurd er (fnd_none hf r hr')
    · obtain ⟨hq, eq⟩ := fnd_mem hf
      have := fnd_of ha (put_mem.2 (.inr ⟨hq, by rw [eq]; exact e⟩))
      rw [eq] at this; exact this
theorem put_last {l : List Bk} {p : Bk} (h : ∀ q ∈ l, q.1 < p.1) : put l p = l ++ [p] := by
  unfold put
  rw [List.filter_eq_self.2 (fun q hq => by simpa using h q hq), List.filter_eq_nil_iff.2 (fun q hq => by have := h q hq; simp; omega)]
/-- The tokens of a client. -/
def ta (l : List Bk) (c t : Int) : Int := if bv l = true ∧ (0 ≤ t ∧ t ≤ 3786479999) then tk (bk l c) t else -1
theorem ta_yes {l : List Bk} {c t : Int} (h : bv l = true) (k : 0 ≤ t ∧ t ≤ 3786479999) : ta l c t = tk (bk l c) t := if_pos ⟨h, k⟩
theorem ta_no1 {l : List Bk} {c t : Int} (h : bv l = false) : ta l c t = -1 := if_neg (fun q => by rw [h] at q; cases q.1)
theorem ta_no2 {l : List Bk} {c t : Int} (h : ¬ (0 ≤ t ∧ t ≤ 3786479999)) : ta l c t = -1 := if_neg (fun q => h q.2)
/-- May a client ask at a time? -/
def may (l : List Bk) (c t : Int) : Prop := bv l = true ∧ (0 ≤ c ∧ c ≤ 99) ∧ ((bk l c).2.2 ≤ t ∧ t ≤ 3786479999)
instance (l : List Bk) (c t : Int) : Decidable (may l c t) := by unfold may; infer_instance
def aft (l : List Bk) (c t : Int) : List Bk := put l (c, tk (bk l c) t - 1, t)
/-- The buckets, whether it is answered, whether it may be. -/
def tt (l : List Bk) (c t : Int) : List Bk × Bool × Bool :=
  if may l c t then (if tk (bk l c) t = 0 then (l, false, true) else if bv (aft l c t) = true then (aft l c t, true, true) else ([], false, false)) else ([], false, false)
theorem tt_no {l : List Bk} {c t : Int} (h : ¬ may l c t) : tt l c t = ([], false, false) := if_neg h
theorem tt_zero {l : List Bk} {c t : Int} (h : may l c t) (k : tk (bk l c) t = 0) : tt l c t = (l, false, true) := by unfold tt; rw [if_pos h, if_pos k]
theorem tt_yes {l : List Bk} {c t : Int} (h : may l c t) (k : tk (bk l c) t ≠ 0) (v : bv (aft l c t) = true) : tt l c t = (aft l c t, true, true) := by unfold tt; rw [if_pos h, if_neg k, if_pos v]
theorem tt_bad {l : List Bk} {c t : Int} (k : tk (bk l c) t ≠ 0) (v : bv (aft l c t) = false) : tt l c t = ([], false, false) := by
  by_cases h : may l c t
  · unfold tt; rw [if_pos h, if_neg k, if_neg (by rw [v]; decide)]
  · exact tt_no h
theorem aft_bad {l : List Bk} {c t : Int} (hc : ¬ (0 ≤ c ∧ c ≤ 99)) : bv (aft l c t) = false := by
  rcases h : bv (aft l c t) with _ | _
  · rfl
  · have := bv_mem h (put_mem.2 (.inl rfl))
    exact absurd this.1 hc
/-- The buckets without those that are full. -/
def df (l : List Bk) (t : Int) : List Bk := if bv l = true ∧ (0 ≤ t ∧ t ≤ 3786479999) then l.filter (fun p => decide (tk p t < 5)) else []
theorem df_yes {l : List Bk} {t : Int} (h : bv l = true) (k : 0 ≤ t ∧ t ≤ 3786479999) : df l t = l.filter (fun p => decide (tk p t < 5)) := if_pos ⟨h, k⟩
theorem df_no1 {l : List Bk} {t : Int} (h : bv l = false) : df l t = [] := if_neg (fun q => by rw [h] at q; cases q.1)
theorem df_no2 {l : List Bk} {t : Int} (h : ¬ (0 ≤ t ∧ t ≤ 3786479999)) : df l t = [] := if_neg (fun q => h q.2)
theorem df_len (l : List Bk) (t : Int) : (df l t).length ≤ l.length ∧ (df l t).length ≤ 8 := by
  by_cases h : bv l = true ∧ (0 ≤ t ∧ t ≤ 3786479999)
  · rw [df_yes h.1 h.2]
    have := List.length_filter_le (fun p => decide (tk p t < 5)) l
    have := (bv_of h.1).1
    omega
  · have : df l t = [] := if_neg h
    rw [this]; simp
theorem tt_len (l : List Bk) (c t : Int) : (tt l c t).1.length ≤ l.length + 1 ∧ (tt l c t).1.length ≤ 8 := by
  by_cases h : may l c t
  · by_cases k : tk (bk l c) t = 0
    · rw [tt_zero h k]; have := (bv_of h.1).1; simp only; omega
    · rcases v : bv (aft l c t) with _ | _
      · rw [tt_bad k v]; simp
      · rw [tt_yes h k v]; have := (bv_of v).1; have := put_len l (c, tk (bk l c) t - 1, t); unfold aft at *; simp only; omega
  · rw [tt_no h]; simp
end Go.Proofs.YtpfdjmffgbbmdaaGreatDoor.B

/-
  The plain mathematics of a session (chapter 17): what each line does and answers; a session that stays sound; lines behind lines. No program is read here.
-/
namespace Go.Proofs.YtpfdjmffgbbmdaaGreatDoor.Z
open Go.Lib
set_option linter.unusedVariables false
/-- A session: its time, its buckets, the error and the time of its state (the wander stays 10). -/
structure Q where
  t : Int
  l : List B.Bk
  e : Int
  s : Int
def q0 : Q := ⟨0, [], 1000000, 0⟩
/-- It is sound. -/
structure Ok (q : Q) : Prop where
  t0 : 0 ≤ q.t
  t1 : q.t ≤ 3786479999
  v : H.vs q.e 10 q.s = true
  le : q.s ≤ q.t
  b : q.l.length ≤ 8
theorem ok0 : Ok q0 := ⟨by decide, by decide, H.vs_yes (by decide), by decide, by decide⟩
theorem Ok.ok {q : Q} (h : Ok q) : H.ok q.e 10 q.s q.t = true := H.ok_yes ⟨h.v, h.le, h.t1⟩
def wOk : List UInt8 := [111, 107]
def wNo : List UInt8 := [110, 111]
def wLater : List UInt8 := [108, 97, 116, 101, 114]
def wAlarm : List UInt8 := [97, 108, 97, 114, 109]
def wWhat : List UInt8 := [119, 104, 97, 116]
def kLevel : List UInt8 := [108, 101, 118, 101, 108]
def kDate : List UInt8 := [100, 97, 116, 101]
def kWait : List UInt8 := [119, 97, 105, 116]
def kAsk : List UInt8 := [97, 115, 107]
/-- A sentence. -/
def fixOk (q : Q) (s : ByteArray) : Prop := X.pB s = true ∧ 4 ≤ X.pn s ∧ q.t ≤ X.cv (X.py s) (X.pm s) (X.pd s) (X.ps s) (X.pn s)
instance (q : Q) (s : ByteArray) : Decidable (fixOk q s) := by unfold fixOk; infer_instance
def fixQ (q : Q) (c : Int) : Q := ⟨c, q.l, H.se q.e 10 q.s c 100, H.ss q.e 10 q.s c 100⟩
def fixA (q : Q) (s : ByteArray) : Q × List UInt8 := if fixOk q s then (fixQ q (X.cv (X.py s) (X.pm s) (X.pd s) (X.ps s) (X.pn s)), wOk) else (q, wNo)
theorem fix_yes {q : Q} {s : ByteArray} (h : fixOk q s) : fixA q s = (fixQ q (X.cv (X.py s) (X.pm s) (X.pd s) (X.ps s) (X.pn s)), wOk) := if_pos h
theorem fix_no {q : Q} {s : ByteArray} (h : ¬ fixOk q s) : fixA q s = (q, wNo) := if_neg h
theorem fixQ_sk {q : Q} (h : Ok q) {c : Int} (h1 : q.t ≤ c) (h2 : c ≤ 3786479999) : H.sk q.e 10 q.s c 100 = true := by
  have := h.le
  exact H.sk_yes ⟨H.ok_yes ⟨h.v, by omega, h2⟩, by decide, by decide⟩
theorem fixQ_ok {q : Q} (h : Ok q) {c : Int} (h1 : q.t ≤ c) (h2 : c ≤ 3786479999) : Ok (fixQ q c) := by
  have hk := fixQ_sk h h1 h2
  have hs := H.s_yes hk
  have hv := H.s_valid hk
  have := h.t0
  refine ⟨by show 0 ≤ c; omega, h2, ?_, ?_, h.b⟩
  · show H.vs (H.se q.e 10 q.s c 100) 10 (H.ss q.e 10 q.s c 100) = true
    rw [hs.1, hs.2.2]; exact hv
  · show H.ss q.e 10 q.s c 100 ≤ c
    rw [hs.2.2]; exact Int.le_refl _
theorem fix_ok {q : Q} (h : Ok q) (s : ByteArray) : Ok (fixA q s).1 := by
  by_cases k : fixOk q s
  · rw [fix_yes k]
    exact fixQ_ok h k.2.2 (X.cv_bd _ _ _ _ _).2
  · rw [fix_no k]; exact h
/-- Waiting. -/
def waitOk (q : Q) (n : Int) : Prop := 0 ≤ n ∧ q.t + n ≤ 3786479999
instance (q : Q) (n : Int) : Decidable (waitOk q n) := by unfold waitOk; infer_instance
def waitA (q : Q) (n : Int) : Q × List UInt8 := if waitOk q n then (⟨q.t + n, q.l, q.e, q.s⟩, wOk) else (q, wNo)
theorem wait_yes {q : Q} {n : Int} (h : waitOk q n) : waitA q n = (⟨q.t + n, q.l, q.e, q.s⟩, wOk) := if_pos h
theorem wait_no {q : Q} {n : Int} (h : ¬ waitOk q n) : waitA q n = (q, wNo) := if_neg h
theorem wait_ok {q : Q} (h : Ok q) (n : Int) : Ok (waitA q n).1 := by
  by_cases k : waitOk q n
  · rw [wait_yes k]
    have := h.t0; have := h.le; have := k.1
    exact ⟨by show 0 ≤ q.t + n; omega, k.2, h.v, by show q.s ≤ q.t + n; omega, h.b⟩
  · rw [wait_no k]; exact h
/-- Asking. -/
def said (q : Q) : List UInt8 := if H.la q.e 10 q.s q.t = 0 then wAlarm else decDigits q.t.toNat ++ [32] ++ decDigits (H.ea q.e 10 q.s q.t).toNat
def askA (q : Q) (c : Int) : Q × List UInt8 :=
  if (B.tt q.l c q.t).2.2 = true then (⟨q.t, (B.tt q.l c q.t).1, q.e, q.s⟩, if (B.tt q.l c q.t).2.1 = true then said q else wLater) else (q, wNo)
theorem ask_no {q : Q} {c : Int} (h : (B.tt q.l c q.t).2.2 = false) : askA q c = (q, wNo) := if_neg (by rw [h]; decide)
theorem ask_yes {q : Q} {c : Int} (h : (B.tt q.l c q.t).2.2 = true) : askA q c = (⟨q.t, (B.tt q.l c q.t).1, q.e, q.s⟩, if (B.tt q.l c q.t).2.1 = true then said q else wLater) := if_pos h
theorem ask_ok {q : Q} (h : Ok q) (c : Int) : Ok (askA q c).1 := by
  rcases k : (B.tt q.l c q.t).2.2 with _ | _
  · rw [ask_no k]; exact h
  · rw [ask_yes k]; exact ⟨h.t0, h.t1, h.v, h.le, (B.tt_len q.l c q.t).2⟩
def levelA (q : Q) : List UInt8 := decDigits (H.la q.e 10 q.s q.t).toNat
def dateA (q : Q) : List UInt8 := decDigits (X.fy q.t 4).toNat ++ [45] ++ X.d2 (X.fm q.t 4).toNat ++ [45] ++ X.d2 (X.fd q.t 4).toNat
/-- A line of words. -/
def wordsA (q : Q) : List (List UInt8) → Q × List UInt8
  | [a] => if a = kLevel then (q, levelA q) else if a = kDate then (q, dateA q) else (q, wWhat)
  | [a, b] => if a = kWait then waitA q (X.wn b) else if a = kAsk then askA q (X.wn b) else (q, wWhat)
  | _ => (q, wWhat)
/-- A line. -/
def step (q : Q) (l : List UInt8) : Q × List UInt8 := if l.head? = some 36 then fixA q (S.mk l) else wordsA q (X.sp 32 l [])
theorem words_ok {q : Q} (h : Ok q) (w : List (List UInt8)) : Ok (wordsA q w).1 := by
  unfold wordsA
  split
  · repeat (first | exact h | split)
  · split
    · exact wait_ok h _
    · split
      · exact ask_ok h _
      · exact h
  · exact h
theorem step_ok {q : Q} (h : Ok q) (l : List UInt8) : Ok (step q l).1 := by
  unfold step
  split
  · exact fix_ok h _
  · exact words_ok h _
/-- Lines: the session behind them, and what they answer. -/
def run (q : Q) : List (List UInt8) → Q × List UInt8
  | [] => (q, [])
  | l :: t => ((run (step q l).1 t).1, (step q l).2 ++ 10 :: (run (step q l).1 t).2)
theorem run_ok {q : Q} (h : Ok q) (ls : List (List UInt8)) : Ok (run q ls).1 := by
  induction ls generalizing q with
  | nil => exact h
  | cons l t ih => exact ih (step_ok h l)
theorem run_app (q : Q) (a b : List (List UInt8)) : run q (a ++ b) = ((run (run q a).1 b).1, (run q a).2 ++ (run (run q a).1 b).2) := by
  induction a generalizing q with
  | nil => simp [run]
  | cons l t ih =>
    show ((run (step q l).1 (t ++ b)).1, _ ++ 10 :: (run (step q l).1 (t ++ b)).2) = _
    rw [ih]; simp [run]
theorem run_snoc (q : Q) (a : List (List UInt8)) (l : List UInt8) : run q (a ++ [l]) = ((step (run q a).1 l).1, (run q a).2 ++ ((step (run q a).1 l).2 ++ [10])) := by
  rw [run_app]; rfl
/-- What RunSession returns. -/
def out (ls : List (List UInt8)) : List UInt8 := (run q0 (ls.take 20)).2
/-- What a line answers is short. -/
theorem date_len {q : Q} (h : Ok q) : (dateA q).length ≤ 30 := by
  have hk : X.fok q.t 4 = true := X.fok_mk ⟨h.t0, h.t1⟩ (by omega)
  have hv := X.f_vf_iff q.t 4
  rw [hk] at hv
  obtain ⟨b1, b2, b3⟩ := X.vld_bd (X.vf_of hv).1
  have := X.dec_lenk 3 (X.fy q.t 4).toNat (by omega)
  unfold dateA
  simp only [List.length_append, X.d2_len, List.length_cons, List.length_nil]
  omega
theorem said_len {q : Q} (h : Ok q) : (said q).length ≤ 30 := by
  have b := H.ea_bd h.ok
  have h0 := h.t0
  have h1 := h.t1
  have l1 := X.dec_lenk 9 q.t.toNat (by omega)
  have l2 := X.dec_lenk 6 (H.ea q.e 10 q.s q.t).toNat (by omega)
  unfold said
  split
  · decide
  · simp only [List.length_append, List.length_cons, List.length_nil]; omega
theorem level_len {q : Q} (h : Ok q) : (levelA q).length ≤ 30 := by
  have b := H.lv_bd q.e 10 q.s q.t
  rw [← H.la_yes h.ok] at b
  have l1 := X.dec_lenk 0 (H.la q.e 10 q.s q.t).toNat (by omega)
  unfold levelA
  omega
theorem words_len {q : Q} (h : Ok q) (w : List (List UInt8)) : (wordsA q w).2.length ≤ 30 := by
  unfold wordsA
  split
  · split
    · exact level_len h
    · split
      · exact date_len h
      · exact (by decide : wWhat.length ≤ 30)
  · split
    · unfold waitA; split
      · exact (by decide : wOk.length ≤ 30)
      · exact (by decide : wNo.length ≤ 30)
    · split
      · unfold askA; split
        · split
          · exact said_len h
          · exact (by decide : wLater.length ≤ 30)
        · exact (by decide : wNo.length ≤ 30)
      · exact (by decide : wWhat.length ≤ 30)
  · exact (by decide : wWhat.length ≤ 30)
theorem step_len {q : Q} (h : Ok q) (l : List UInt8) : (step q l).2.length ≤ 30 := by
  unfold step
  split
  · unfold fixA; split
    · exact (by decide : wOk.length ≤ 30)
    · exact (by decide : wNo.length ≤ 30)
  · exact words_len h _
theorem run_len {q : Q} (h : Ok q) (ls : List (List UInt8)) : (run q ls).2.length ≤ 31 * ls.length := by
  induction ls generalizing q with
  | nil => simp [run]
  | cons l t ih =>
    have h1 := step_len h l
    have h2 := ih (step_ok h l)
    simp only [run, List.length_append, List.length_cons]
    omega
theorem out_len (ls : List (List UInt8)) : (out ls).length ≤ 620 := by
  have := run_len ok0 (ls.take 20)
  have h : (ls.take 20).length ≤ 20 := by rw [List.length_take]; omega
  unfold out
  omega
theorem step_level (q : Q) : step q kLevel = (q, levelA q) := by
  have : X.sp 32 kLevel [] = [kLevel] := by decide
  unfold step
  rw [if_neg (by decide), this]
  simp only [wordsA, if_true]
theorem step_date (q : Q) : step q kDate = (q, dateA q) := by
  have : X.sp 32 kDate [] = [kDate] := by decide
  unfold step
  rw [if_neg (by decide), this]
  simp only [wordsA]
  rw [if_neg (by decide), if_pos trivial]
/-- The first lines' answers stand first. -/
theorem out_take (ls : List (List UInt8)) (n : Nat) (hn : n ≤ ls.length) : ∃ r, out ls = out (ls.take n) ++ r := by
  unfold out
  have e : ls.take 20 = (ls.take n).take 20 ++ (ls.take 20).drop n := by
    rw [List.take_take]
    rcases Nat.le_total n 20 with h | h
    · rw [Nat.min_eq_right h]
      conv => lhs; rw [← List.take_append_drop n (ls.take 20)]
      rw [List.take_take, Nat.min_eq_left h]
    · rw [Nat.min_eq_left h, List.drop_eq_nil_of_le (by simp; omega), List.append_nil]
  rw [e, run_app]
  exact ⟨_, rfl⟩
/-- Questions change nothing. -/
theorem out_level (ls : List (List UInt8)) (h : ls.length + 3 ≤ 20) : out (ls ++ [kLevel]) = out ls ++ (levelA (run q0 ls).1 ++ [10]) := by
  unfold out
  rw [List.take_of_length_le (by simp; omega), List.take_of_length_le (by omega), run_snoc, step_level]
theorem out_date (ls : List (List UInt8)) (h : ls.length + 3 ≤ 20) : out (ls ++ [kDate, kLevel, kLevel]) = out ls ++ ((dateA (run q0 ls).1 ++ [10] ++ levelA (run q0 ls).1 ++ [10]) ++ (levelA (run q0 ls).1 ++ [10])) := by
  unfold out
  rw [List.take_of_length_le (by simp; omega), List.take_of_length_le (by omega), run_app]
  show (run q0 ls).2 ++ (run (run q0 ls).1 [kDate, kLevel, kLevel]).2 = _
  simp only [run, step_date, step_level]
  simp
end Go.Proofs.YtpfdjmffgbbmdaaGreatDoor.Z

/-
  The plain arithmetic of tables of leap seconds: valid tables, how many begin before a time, civil times and back. No program is read here.
-/
namespace Go.Proofs.YtpfdjmffgbbmdaaGreatDoor.L

/-- The number at a place. -/
def g (l : List Int) (i : Nat) : Int := l.getD i 0
theorem g_get (l : List Int) (i : Nat) (h : i < l.length) : l[i]? = some (g l i) := by
  unfold g; rw [List.getD_eq_getElem?_getD, List.getElem?_eq_getElem h]; rfl
/-- The first k numbers are as a table has them. -/
def okAt (l : List Int) (i : Nat) : Prop := (1 ≤ g l i ∧ g l i ≤ 1893239999) ∧ (0 < i → g l (i - 1) + 604800 ≤ g l i)
def okTo (l : List Int) (k : Nat) : Prop := ∀ i, i < k → okAt l i
instance (l : List Int) (i : Nat) : Decidable (okAt l i) := by unfold okAt; infer_instance
instance (l : List Int) (k : Nat) : Decidable (okTo l k) := by unfold okTo; infer_instance
def vl (l : List Int) : Bool := decide (l.length ≤ 8 ∧ okTo l l.length)
theorem vl_yes {l : List Int} (h : l.length ≤ 8) (h' : okTo l l.length) : vl l = true := by unfold vl; exact decide_eq_true ⟨h, h'⟩
theorem vl_long {l : List Int} (h : 8 < l.length) : vl l = false := by unfold vl; exact decide_eq_false (fun k => by omega)
theorem vl_bad {l : List Int} (i : Nat) (hi : i < l.length) (h : ¬ okAt l i) : vl l = false := by unfold vl; exact decide_eq_false (fun k => h (k.2 i hi))
theorem vl_of {l : List Int} (h : vl l = true) : l.length ≤ 8 ∧ okTo l l.length := by unfold vl at h; exact of_decide_eq_true h
theorem okTo_succ {l : List Int} {k : Nat} (h : okTo l k) (h' : okAt l k) : okTo l (k + 1) := fun i hi => by
  rcases Nat.lt_or_ge i k with a | a
  · exact h i a
  · obtain rfl : i = k := by omega
    exact h'
/-- How many of the first k numbers are less than t. -/
def cntTo (l : List Int) (t : Int) : Nat → Nat
  | 0 => 0
  | k + 1 => cntTo l t k + (if g l k < t then 1 else 0)
def cnt (l : List Int) (t : Int) : Nat := cntTo l t l.length
theorem cntTo_le (l : List Int) (t : Int) : ∀ k, cntTo l t k ≤ k
  | 0 => Nat.le_refl _
  | k + 1 => by have := cntTo_le l t k; unfold cntTo; split <;> omega
theorem cnt_le (l : List Int) (t : Int) : cnt l t ≤ l.length := cntTo_le _ _ _
/-- Is t one of the first k numbers? -/
def inTo (l : List Int) (t : Int) (k : Nat) : Prop := ∃ i, i < k ∧ g l i = t
def isIn (l : List Int) (t : Int) : Bool := decide (∃ i, i < l.length ∧ g l i = t)
theorem isIn_yes {l : List Int} {t : Int} (i : Nat) (hi : i < l.length) (h : g l i = t) : isIn l t = true := by unfold isIn; exact decide_eq_true ⟨i, hi, h⟩
theorem isIn_no {l : List Int} {t : Int} (h : ∀ i, i < l.length → g l i ≠ t) : isIn l t = false := by unfold isIn; exact decide_eq_false (fun ⟨i, hi, e⟩ => h i hi e)
theorem isIn_of {l : List Int} {t : Int} (h : isIn l t = true) : ∃ i, i < l.length ∧ g l i = t := by unfold isIn at h; exact of_decide_eq_true h
theorem isIn_not {l : List Int} {t : Int} (h : isIn l t = false) : ∀ i, i < l.length → g l i ≠ t := by
  unfold isIn at h
  exact fun i hi e => of_decide_eq_false h ⟨i, hi, e⟩

/-! A valid table ascends. -/
theorem asc {l : List Int} {n : Nat} (h : okTo l n) : ∀ j i : Nat, i < j → j < n → g l i + 604800 * ((j : Int) - (i : Int)) ≤ g l j
  | 0, i, hi, _ => absurd hi (by omega)
  | j + 1, i, hi, hj => by
    have h1 := (h (j + 1) hj).2 (by omega)
    simp only [Nat.add_sub_cancel] at h1
    rcases Nat.lt_or_ge i j with a | a
    · have := asc h j i a (by omega); push_cast; omega
    · obtain rfl : i = j := by omega
      push_cast; omega
/-- Where a time cuts a table in two. -/
structure Cut (l : List Int) (t : Int) (j : Nat) : Prop where
  le : j ≤ l.length
  lo : ∀ i, i < j → g l i < t
  hi : ∀ i, j ≤ i → i < l.length → t ≤ g l i
theorem cntTo_lo {l : List Int} {t : Int} : ∀ k, (∀ i, i < k → g l i < t) → cntTo l t k = k
  | 0, _ => rfl
  | k + 1, h => by unfold cntTo; rw [if_pos (h k (by omega)), cntTo_lo k (fun i hi => h i (by omega))]
theorem cntTo_hi {l : List Int} {t : Int} (j : Nat) : ∀ k, j ≤ k → (∀ i, j ≤ i → i < k → t ≤ g l i) → cntTo l t k = cntTo l t j
  | k, hk, h => by
    induction k with
    | zero => obtain rfl : j = 0 := by omega
              rfl
    | succ k ih =>
      rcases Nat.lt_or_ge k j with a | a
      · obtain rfl : j = k + 1 := by omega
        rfl
      · show cntTo l t k + (if g l k < t then 1 else 0) = cntTo l t j
        have := h k a (by omega)
        rw [if_neg (by omega), Nat.add_zero, ih a (fun i h1 h2 => h i h1 (by omega))]
theorem Cut.cnt {l : List Int} {t : Int} {j : Nat} (h : Cut l t j) : cnt l t = j := by
  unfold L.cnt; rw [cntTo_hi j _ h.le h.hi, cntTo_lo j h.lo]
theorem cut_exists {l : List Int} (h : okTo l l.length) (t : Int) : ∀ k, k ≤ l.length → (∀ i, k ≤ i → i < l.length → t ≤ g l i) → ∃ j, Cut l t j
  | 0, hk, hh => ⟨0, by omega, fun i hi => absurd hi (by omega), hh⟩
  | k + 1, hk, hh => by
    by_cases hc : g l k < t
    · refine ⟨k + 1, hk, fun i hi => ?_, hh⟩
      rcases Nat.lt_or_ge i k with a | a
      · have := asc h k i a (by omega); omega
      · obtain rfl : i = k := by omega
        exact hc
    · refine cut_exists h t k (by omega) (fun i h1 h2 => ?_)
      rcases Nat.lt_or_ge k i with a | a
      · exact hh i (by omega) h2
      · obtain rfl : i = k := by omega
        omega
theorem cut {l : List Int} (h : vl l = true) (t : Int) : Cut l t (cnt l t) := by
  obtain ⟨j, hj⟩ := cut_exists (vl_of h).2 t l.length (Nat.le_refl _) (fun i h1 h2 => absurd h1 (by omega))
  rw [hj.cnt]; exact hj
theorem ascv {l : List Int} (h : vl l = true) {i j : Nat} (hi : i < j) (hj : j < l.length) : g l i + 604800 * ((j : Int) - (i : Int)) ≤ g l j := asc (vl_of h).2 j i hi hj
theorem rng {l : List Int} (h : vl l = true) {i : Nat} (hi : i < l.length) : 1 ≤ g l i ∧ g l i ≤ 1893239999 := ((vl_of h).2 i hi).1
theorem len8 {l : List Int} (h : vl l = true) : l.length ≤ 8 := (vl_of h).1

/-- In a valid table a time stands at the cut, or nowhere. -/
theorem isIn_cut {l : List Int} (h : vl l = true) {t : Int} {j : Nat} (c : Cut l t j) : isIn l t = decide (j < l.length ∧ g l j = t) := by
  by_cases a : j < l.length ∧ g l j = t
  · rw [isIn_yes j a.1 a.2, decide_eq_true a]
  · rw [decide_eq_false a]
    refine isIn_no (fun i hi e => ?_)
    rcases Nat.lt_or_ge i j with b | b
    · have := c.lo i b; omega
    · rcases Nat.lt_or_ge j i with b' | b'
      · have h1 := ascv h b' hi
        have h2 := c.hi j (Nat.le_refl _) (by omega)
        omega
      · obtain rfl : i = j := by omega
        exact a ⟨hi, e⟩
def b1 (b : Bool) : Int := if b = true then 1 else 0
theorem b1_t : b1 true = 1 := rfl
theorem b1_f : b1 false = 0 := rfl
theorem b1_01 (b : Bool) : b1 b = 0 ∨ b1 b = 1 := by cases b <;> simp [b1]
/-- The next second. -/
theorem cnt_next {l : List Int} (h : vl l = true) (t : Int) : (cnt l (t + 1) : Int) = cnt l t + b1 (isIn l t) := by
  have c := cut h t
  rw [isIn_cut h c]
  by_cases a : cnt l t < l.length ∧ g l (cnt l t) = t
  · rw [decide_eq_true a, b1_t]
    have : Cut l (t + 1) (cnt l t + 1) := by
      refine ⟨by omega, fun i hi => ?_, fun i h1 h2 => ?_⟩
      · rcases Nat.lt_or_ge i (cnt l t) with b | b
        · have := c.lo i b; omega
        · obtain rfl : i = cnt l t := by omega
          omega
      · have := ascv h (show cnt l t < i from h1) h2; omega
    rw [this.cnt]; push_cast; rfl
  · rw [decide_eq_false a, b1_f]
    have : Cut l (t + 1) (cnt l t) := by
      refine ⟨c.le, fun i hi => by have := c.lo i hi; omega, fun i h1 h2 => ?_⟩
      rcases Nat.lt_or_ge (cnt l t) i with b | b
      · have h3 := ascv h b h2
        have h4 := c.hi (cnt l t) (Nat.le_refl _) (by omega)
        omega
      · obtain rfl : i = cnt l t := by omega
        have h4 := c.hi (cnt l t) (Nat.le_refl _) h2
        have : g l (cnt l t) ≠ t := fun e => a ⟨h2, e⟩
        omega
    rw [this.cnt]; omega
theorem cnt_mono {l : List Int} (t u : Int) (h : t ≤ u) : cnt l t ≤ cnt l u := by
  unfold cnt
  generalize l.length = k
  induction k with
  | zero => exact Nat.le_refl _
  | succ k ih => unfold cntTo; split <;> split <;> omega
theorem isIn_next {l : List Int} (h : vl l = true) {t : Int} (a : isIn l t = true) : isIn l (t + 1) = false ∧ isIn l (t - 1) = false := by
  obtain ⟨i, hi, e⟩ := isIn_of a
  constructor <;> refine isIn_no (fun k hk e' => ?_)
  all_goals
    rcases Nat.lt_trichotomy i k with b | b | b
    · have := ascv h b hk; omega
    · subst b; omega
    · have := ascv h b hi; omega

/-! What the functions return. -/
def okT (t : Int) : Prop := 0 ≤ t ∧ t ≤ 3786479999
instance (t : Int) : Decidable (okT t) := by unfold okT; infer_instance
def lb (l : List Int) (t : Int) : Int := if vl l = true ∧ okT t then (cnt l t : Int) else -1
def isl (l : List Int) (t : Int) : Bool := vl l && isIn l t
def civ (l : List Int) (t : Int) : Int := if vl l = true ∧ okT t then t - cnt l t - b1 (isIn l t) else -1
def nxt (l : List Int) (t : Int) : Int := if vl l = true ∧ okT t ∧ cnt l t < l.length then g l (cnt l t) else -1
theorem lb_in {l : List Int} {t : Int} (h : vl l = true) (ht : 0 ≤ t ∧ t ≤ 3786479999) : lb l t = cnt l t := by unfold lb; exact if_pos (⟨h, ht⟩)
theorem lb_out {l : List Int} {t : Int} (h : ¬ (vl l = true ∧ 0 ≤ t ∧ t ≤ 3786479999)) : lb l t = -1 := by unfold lb; exact if_neg (h)
theorem civ_in {l : List Int} {t : Int} (h : vl l = true) (ht : 0 ≤ t ∧ t ≤ 3786479999) : civ l t = t - cnt l t - b1 (isIn l t) := by unfold civ; exact if_pos (⟨h, ht⟩)
theorem civ_out {l : List Int} {t : Int} (h : ¬ (vl l = true ∧ 0 ≤ t ∧ t ≤ 3786479999)) : civ l t = -1 := by unfold civ; exact if_neg (h)
theorem isl_in {l : List Int} {t : Int} (h : vl l = true) : isl l t = isIn l t := by unfold isl; rw [h]; rfl
theorem isl_out {l : List Int} {t : Int} (h : vl l = false) : isl l t = false := by unfold isl; rw [h]; rfl
theorem nxt_in {l : List Int} {t : Int} (h : vl l = true) (ht : 0 ≤ t ∧ t ≤ 3786479999) (hc : cnt l t < l.length) : nxt l t = g l (cnt l t) := by unfold nxt; exact if_pos (⟨h, ht, hc⟩)
theorem nxt_out {l : List Int} {t : Int} (h : ¬ (vl l = true ∧ (0 ≤ t ∧ t ≤ 3786479999) ∧ cnt l t < l.length)) : nxt l t = -1 := by unfold nxt; exact if_neg (h)
/-- How many leap seconds repeat an earlier civil second: l[i] - i - 1 < c. -/
def satTo (l : List Int) (c : Int) : Nat → Nat
  | 0 => 0
  | k + 1 => satTo l c k + (if g l k - (k : Int) - 1 < c then 1 else 0)
def satN (l : List Int) (c : Int) : Nat := satTo l c l.length
def okC (c : Int) : Prop := 0 ≤ c ∧ c ≤ 1893239999
instance (t : Int) : Decidable (okC t) := by unfold okC; infer_instance
def sat (l : List Int) (c : Int) : Int := if vl l = true ∧ okC c then c + satN l c else -1
theorem sat_in {l : List Int} {c : Int} (h : vl l = true) (ht : 0 ≤ c ∧ c ≤ 1893239999) : sat l c = c + satN l c := by unfold sat; exact if_pos (⟨h, ht⟩)
theorem sat_out {l : List Int} {c : Int} (h : ¬ (vl l = true ∧ 0 ≤ c ∧ c ≤ 1893239999)) : sat l c = -1 := by unfold sat; exact if_neg (h)
/-- Where a civil time cuts a table. -/
structure Sut (l : List Int) (c : Int) (j : Nat) : Prop where
  le : j ≤ l.length
  lo : ∀ i : Nat, i < j → g l i - (i : Int) - 1 < c
  hi : ∀ i : Nat, j ≤ i → i < l.length → c ≤ g l i - (i : Int) - 1
theorem satTo_lo {l : List Int} {c : Int} : ∀ k, (∀ i : Nat, i < k → g l i - (i : Int) - 1 < c) → satTo l c k = k
  | 0, _ => rfl
  | k + 1, h => by unfold satTo; rw [if_pos (h k (by omega)), satTo_lo k (fun i hi => h i (by omega))]
theorem satTo_hi {l : List Int} {c : Int} (j : Nat) : ∀ k, j ≤ k → (∀ i : Nat, j ≤ i → i < k → c ≤ g l i - (i : Int) - 1) → satTo l c k = satTo l c j
  | k, hk, h => by
    induction k with
    | zero => obtain rfl : j = 0 := by omega
              rfl
    | succ k ih =>
      rcases Nat.lt_or_ge k j with a | a
      · obtain rfl : j = k + 1 := by omega
        rfl
      · show satTo l c k + (if g l k - (k : Int) - 1 < c then 1 else 0) = satTo l c j
        have := h k a (by omega)
        rw [if_neg (by omega), Nat.add_zero, ih a (fun i h1 h2 => h i h1 (by omega))]
theorem Sut.satN {l : List Int} {c : Int} {j : Nat} (h : Sut l c j) : satN l c = j := by
  unfold L.satN; rw [satTo_hi j _ h.le h.hi, satTo_lo j h.lo]
theorem sut_exists {l : List Int} (h : okTo l l.length) (c : Int) : ∀ k, k ≤ l.length → (∀ i : Nat, k ≤ i → i < l.length → c ≤ g l i - (i : Int) - 1) → ∃ j, Sut l c j
  | 0, hk, hh => ⟨0, by omega, fun i hi => absurd hi (by omega), hh⟩
  | k + 1, hk, hh => by
    by_cases hc : g l k - (k : Int) - 1 < c
    · refine ⟨k + 1, hk, fun i hi => ?_, hh⟩
      rcases Nat.lt_or_ge i k with a | a
      · have := asc h k i a (by omega); omega
      · obtain rfl : i = k := by omega
        exact hc
    · refine sut_exists h c k (by omega) (fun i h1 h2 => ?_)
      rcases Nat.lt_or_ge k i with a | a
      · exact hh i (by omega) h2
      · obtain rfl : i = k := by omega
        omega
theorem sut {l : List Int} (h : vl l = true) (c : Int) : Sut l c (satN l c) := by
  obtain ⟨j, hj⟩ := sut_exists (vl_of h).2 c l.length (Nat.le_refl _) (fun i h1 h2 => absurd h1 (by omega))
  rw [hj.satN]; exact hj
theorem satN_le (l : List Int) (c : Int) : satN l c ≤ l.length := by
  unfold satN
  generalize l.length = k
  induction k with
  | zero => exact Nat.le_refl _
  | succ k ih => unfold satTo; split <;> omega
/-- At the satellite time of a civil time. -/
theorem sat_at {l : List Int} (h : vl l = true) (c : Int) : cnt l (c + satN l c) = satN l c ∧ isIn l (c + satN l c) = false := by
  have s := sut h c
  generalize satN l c = j at s ⊢
  have k : Cut l (c + j) j := ⟨s.le, fun i hi => by have := s.lo i hi; omega, fun i h1 h2 => by have := s.hi i h1 h2; omega⟩
  refine ⟨k.cnt, ?_⟩
  rw [isIn_cut h k]
  refine decide_eq_false (fun ⟨a, b⟩ => ?_)
  have := s.hi j (Nat.le_refl _) a
  omega
/-- Before it. -/
theorem sat_before {l : List Int} (h : vl l = true) (c : Int) (t : Int) (h0 : c ≤ t) (h1 : t < c + satN l c) : t - cnt l t - b1 (isIn l t) < c := by
  have s := sut h c
  generalize satN l c = j at s h1
  rw [show t - (cnt l t : Int) - b1 (isIn l t) = t - cnt l (t + 1) from by rw [cnt_next h]; omega]
  have k := cut h (t + 1)
  generalize cnt l (t + 1) = m at k
  obtain ⟨d, hd⟩ := Int.eq_ofNat_of_zero_le (show 0 ≤ t - c by omega)
  have hdj : d < j := by omega
  rcases Nat.lt_or_ge d m with a | a
  · omega
  · have h2 := s.lo d hdj
    have h3 := k.hi d a (by have := s.le; omega)
    omega
end Go.Proofs.YtpfdjmffgbbmdaaGreatDoor.L

/-
  The plain mathematics of clocks (chapter 7).
-/
namespace Go.Proofs.YtpfdjmffgbbmdaaGreatDoor.K
set_option linter.unusedVariables false
/-- Go's quotient, and one less where the remainder is below zero: the quotient rounded down. -/
theorem fd_neg (n d : Int) (hd : 1 ≤ d) (h : n.tmod d < 0) : n.tdiv d - 1 = n / d := by
  have h1 := Int.mul_tdiv_add_tmod n d
  have h3 : n = d * (n.tdiv d - 1) + (n.tmod d + d) := by rw [Int.mul_sub, Int.mul_one]; omega
  have hlt : -d < n.tmod d := by
    have := Int.lt_tmod_of_pos n (show 0 < d by omega)
    omega
  have e1 : (d * (n.tdiv d - 1) + (n.tmod d + d)) / d = n.tdiv d - 1 + (n.tmod d + d) / d := Int.mul_add_ediv_left _ _ (by omega)
  have e2 : (n.tmod d + d) / d = 0 := Int.ediv_eq_zero_of_lt (by omega) (by omega)
  rw [← h3, e2] at e1
  omega
theorem fd_nn (n d : Int) (hd : 1 ≤ d) (h : ¬ n.tmod d < 0) : n.tdiv d = n / d := by
  have h1 := Int.mul_tdiv_add_tmod n d
  have hlt : n.tmod d < d := Int.tmod_lt_of_pos n (by omega)
  have e1 : (d * n.tdiv d + n.tmod d) / d = n.tdiv d + n.tmod d / d := Int.mul_add_ediv_left _ _ (by omega)
  have e2 : n.tmod d / d = 0 := Int.ediv_eq_zero_of_lt (by omega) hlt
  rw [h1, e2] at e1
  omega
theorem td_bd (n d : Int) (_ : 1 ≤ d) {b : Int} (hb : -b ≤ n ∧ n ≤ b) : -b ≤ n.tdiv d ∧ n.tdiv d ≤ b := by
  have := Int.natAbs_tdiv_le_natAbs n d
  omega
theorem fd_bd (n d : Int) (hd : 1 ≤ d) {b : Int} (hb : -b ≤ n ∧ n ≤ b) : -b ≤ n / d ∧ n / d ≤ b := by
  constructor
  · exact Int.le_ediv_of_mul_le (by omega) (by
      have : b * 1 ≤ b * d := Int.mul_le_mul_of_nonneg_left hd (by omega)
      rw [Int.neg_mul]; omega)
  · rcases Int.lt_or_le n 0 with h | h
    · have := Int.ediv_neg_of_neg_of_pos h (show 0 < d by omega); omega
    · have := Int.ediv_le_self d h; omega

def vc (o r a : Int) : Bool := decide ((-1000000 ≤ o ∧ o ≤ 1000000) ∧ (-500000 ≤ r ∧ r ≤ 500000) ∧ 0 ≤ a ∧ a ≤ 3786479999)
theorem vc_of {o r a : Int} (h : vc o r a = true) : (-1000000 ≤ o ∧ o ≤ 1000000) ∧ (-500000 ≤ r ∧ r ≤ 500000) ∧ 0 ≤ a ∧ a ≤ 3786479999 := of_decide_eq_true h
theorem vc_yes {o r a : Int} (h : (-1000000 ≤ o ∧ o ≤ 1000000) ∧ (-500000 ≤ r ∧ r ≤ 500000) ∧ 0 ≤ a ∧ a ≤ 3786479999) : vc o r a = true := decide_eq_true h
theorem vc_no {o r a : Int} (h : ¬ ((-1000000 ≤ o ∧ o ≤ 1000000) ∧ (-500000 ≤ r ∧ r ≤ 500000) ∧ 0 ≤ a ∧ a ≤ 3786479999)) : vc o r a = false := decide_eq_false h
/-- The last time at which a clock is told. -/
def last (a : Int) : Int := min (a + 100000) 3786479999
theorem last_bd {o r a : Int} (h : vc o r a = true) : a ≤ last a ∧ last a ≤ 3786479999 ∧ last a ≤ a + 100000 := by
  have := vc_of h; unfold last; omega
/-- A clock at a time. -/
def off (o r a t : Int) : Int := o + r * (t - a) / 1000
def told (o r a t : Int) : Bool := decide (vc o r a = true ∧ a ≤ t ∧ t ≤ last a)
theorem told_of {o r a t : Int} (h : told o r a t = true) : vc o r a = true ∧ a ≤ t ∧ t ≤ last a := of_decide_eq_true h
theorem told_yes {o r a t : Int} (h : vc o r a = true ∧ a ≤ t ∧ t ≤ last a) : told o r a t = true := decide_eq_true h
theorem told_no {o r a t : Int} (h : ¬ (vc o r a = true ∧ a ≤ t ∧ t ≤ last a)) : told o r a t = false := decide_eq_false h
def oa (o r a t : Int) : Int := if told o r a t = true then off o r a t else 0
theorem oa_yes {o r a t : Int} (h : told o r a t = true) : oa o r a t = off o r a t := if_pos h
theorem oa_no {o r a t : Int} (h : told o r a t = false) : oa o r a t = 0 := if_neg (by rw [h]; decide)
/-- The product, its quotient, and the offset are of moderate size. -/
theorem mul_bd {x y X Y : Int} (hx : -X ≤ x ∧ x ≤ X) (hy : -Y ≤ y ∧ y ≤ Y) (hX : 0 ≤ X) : -(X * Y) ≤ x * y ∧ x * y ≤ X * Y := by
  have h0 : 0 ≤ Y := by omega
  have a1 : (x * y).natAbs = x.natAbs * y.natAbs := Int.natAbs_mul x y
  have a2 : x.natAbs * y.natAbs ≤ X.natAbs * Y.natAbs := Nat.mul_le_mul (by omega) (by omega)
  have a3 : (X * Y).natAbs = X.natAbs * Y.natAbs := Int.natAbs_mul X Y
  have a4 : 0 ≤ X * Y := Int.mul_nonneg hX h0
  omega
theorem mul_in {r s : Int} (hr : -500000 ≤ r ∧ r ≤ 500000) (hs : -100000 ≤ s ∧ s ≤ 100000) : -50000000000 ≤ r * s ∧ r * s ≤ 50000000000 := by
  have := mul_bd (X := 500000) (Y := 100000) hr hs (by omega); omega
theorem off_bd {o r a t : Int} (ho : -1000000 ≤ o ∧ o ≤ 1000000) (hr : -500000 ≤ r ∧ r ≤ 500000) (hs : -100000 ≤ t - a ∧ t - a ≤ 100000) : -51000000 ≤ off o r a t ∧ off o r a t ≤ 51000000 := by
  have := mul_in hr hs; unfold off; omega
theorem off_told {o r a t : Int} (h : told o r a t = true) : -51000000 ≤ off o r a t ∧ off o r a t ≤ 51000000 := by
  obtain ⟨h1, h2, h3⟩ := told_of h
  have := vc_of h1
  have := last_bd h1
  exact off_bd (by omega) (by omega) (by omega)
def lim (n m : Int) : Int := max (-m) (min n m)
def abs (n : Int) : Int := if n < 0 then -n else n
theorem lim_bd (n : Int) {m : Int} (hm : 0 ≤ m) : -m ≤ lim n m ∧ lim n m ≤ m := by unfold lim; omega
theorem lim_in {n m : Int} (h : -m ≤ n ∧ n ≤ m) : lim n m = n := by unfold lim; omega
def sok (o r a t x : Int) : Bool := decide (told o r a t = true ∧ -1000000 ≤ x ∧ x ≤ 1000000)
theorem sok_of {o r a t x : Int} (h : sok o r a t x = true) : told o r a t = true ∧ -1000000 ≤ x ∧ x ≤ 1000000 := of_decide_eq_true h
theorem sok_yes {o r a t x : Int} (h : told o r a t = true ∧ -1000000 ≤ x ∧ x ≤ 1000000) : sok o r a t x = true := decide_eq_true h
theorem sok_no {o r a t x : Int} (h : ¬ (told o r a t = true ∧ -1000000 ≤ x ∧ x ≤ 1000000)) : sok o r a t x = false := decide_eq_false h
/-- The corrected offset and rate. -/
def co (o x : Int) : Int := if 128000 < abs x then lim (o - x) 1000000 else lim (o - x / 4) 1000000
def cr (r x : Int) : Int := if 128000 < abs x then r else lim (r - x * 1000 / 4096) 500000
def so (o r a t x : Int) : Int := if sok o r a t x = true then co (off o r a t) x else 0
def sr (o r a t x : Int) : Int := if sok o r a t x = true then cr r x else 0
def st (o r a t x : Int) : Int := if sok o r a t x = true then t else 0
theorem s_yes {o r a t x : Int} (h : sok o r a t x = true) : so o r a t x = co (off o r a t) x ∧ sr o r a t x = cr r x ∧ st o r a t x = t := ⟨if_pos h, if_pos h, if_pos h⟩
theorem s_no {o r a t x : Int} (h : sok o r a t x = false) : so o r a t x = 0 ∧ sr o r a t x = 0 ∧ st o r a t x = 0 := ⟨if_neg (by rw [h]; decide), if_neg (by rw [h]; decide), if_neg (by rw [h]; decide)⟩
theorem abs_nn (n : Int) : 0 ≤ abs n := by unfold abs; split <;> omega
theorem co_bd (o x : Int) : -1000000 ≤ co o x ∧ co o x ≤ 1000000 := by
  unfold co
  split
  · exact lim_bd _ (by omega)
  · exact lim_bd _ (by omega)
theorem cr_bd {r : Int} (x : Int) (hr : -500000 ≤ r ∧ r ≤ 500000) : -500000 ≤ cr r x ∧ cr r x ≤ 500000 := by
  unfold cr
  split
  · exact hr
  · exact lim_bd _ (by omega)
/-- A clock that was set is valid. -/
theorem s_vc {o r a t x : Int} (h : sok o r a t x = true) : vc (so o r a t x) (sr o r a t x) (st o r a t x) = true := by
  obtain ⟨y0, y1, y2⟩ := s_yes h
  obtain ⟨h1, h2, h3⟩ := sok_of h
  obtain ⟨k1, k2, k3⟩ := told_of h1
  have := vc_of k1
  have := last_bd k1
  rw [y0, y1, y2]
  exact vc_yes ⟨co_bd _ _, cr_bd _ (by omega), by omega, by omega⟩
/-- Whether a clock nears zero at an offset. -/
def near (o r : Int) : Bool := decide (o < 0 ∧ 0 < r ∨ 0 < o ∧ r < 0)
end Go.Proofs.YtpfdjmffgbbmdaaGreatDoor.K

/-
  Sessions (chapter 17): the first lines of a list, and where a session stands behind them. No program is read here.
-/
namespace Go.Proofs.YtpfdjmffgbbmdaaGreatDoor
set_option linter.unusedVariables false
/-- The first k lines. -/
def lns (T : List ByteArray) (k : Nat) : List (List UInt8) := (T.map S.lst).take k
def qk (T : List ByteArray) (k : Nat) : Z.Q := (Z.run Z.q0 (lns T k)).1
def ob (T : List ByteArray) (k : Nat) : List UInt8 := (Z.run Z.q0 (lns T k)).2
theorem qk_ok (T : List ByteArray) (k : Nat) : Z.Ok (qk T k) := Z.run_ok Z.ok0 _
theorem qk_zero (T : List ByteArray) : qk T 0 = Z.q0 := rfl
theorem ob_zero (T : List ByteArray) : ob T 0 = [] := rfl
theorem lns_succ {T : List ByteArray} {k : Nat} (h : k < T.length) : lns T (k + 1) = lns T k ++ [S.lst (T.getD k ByteArray.empty)] := by
  unfold lns
  rw [List.take_add_one, List.getElem?_map, List.getElem?_eq_getElem h, List.getD_eq_getElem?_getD, List.getElem?_eq_getElem h]
  rfl
theorem qk_succ {T : List ByteArray} {k : Nat} (h : k < T.length) : qk T (k + 1) = (Z.step (qk T k) (S.lst (T.getD k ByteArray.empty))).1 := by
  unfold qk; rw [lns_succ h, Z.run_snoc]
theorem ob_succ {T : List ByteArray} {k : Nat} (h : k < T.length) : ob T (k + 1) = ob T k ++ ((Z.step (qk T k) (S.lst (T.getD k ByteArray.empty))).2 ++ [10]) := by
  unfold ob qk; rw [lns_succ h, Z.run_snoc]
theorem ob_len (T : List ByteArray) (k : Nat) : (ob T k).length ≤ 31 * k := by
  have h := Z.run_len Z.ok0 (lns T k)
  have : (lns T k).length ≤ k := by unfold lns; rw [List.length_take]; omega
  unfold ob; omega
/-- What RunSession returns for the texts. -/
def outT (T : List ByteArray) : List UInt8 := Z.out (T.map S.lst)
theorem ob_out (T : List ByteArray) : ob T (min T.length 20) = outT T := by
  unfold ob outT Z.out lns
  rcases Nat.le_total T.length 20 with h | h
  · rw [Nat.min_eq_left h, List.take_of_length_le (by simp), List.take_of_length_le (by simp; omega)]
  · rw [Nat.min_eq_right h]
theorem outT_len (T : List ByteArray) : (outT T).length ≤ 620 := Z.out_len _
end Go.Proofs.YtpfdjmffgbbmdaaGreatDoor
