/-
  The plain arithmetic of dates and weeks: leap years, days of months, numbers of days, dates of days. No program is read here.
-/
namespace Go.Proofs.Ytgbbbmljanlogaa.M

/-- A year of 1980..2099 with 366 days. -/
def leapB (y : Int) : Bool := decide (y % 4 = 0)
def lp (y : Int) : Int := if y % 4 = 0 then 1 else 0
def okYear (y : Int) : Bool := decide (1980 ≤ y ∧ y ≤ 2099)
def isLeap (y : Int) : Bool := decide ((1980 ≤ y ∧ y ≤ 2099) ∧ y % 4 = 0)
/-- Days of a month. -/
def dim (y m : Int) : Int := if m = 2 then 28 + lp y else if m = 4 ∨ m = 6 ∨ m = 9 ∨ m = 11 then 30 else 31
def mdays (y m : Int) : Int := if (1980 ≤ y ∧ y ≤ 2099) ∧ 1 ≤ m ∧ m ≤ 12 then dim y m else -1
def vld (y m d : Int) : Bool := decide ((1980 ≤ y ∧ y ≤ 2099) ∧ (1 ≤ m ∧ m ≤ 12) ∧ 1 ≤ d ∧ d ≤ dim y m)
/-- Days from the first day of 1980 to that of a year. -/
def dby (y : Int) : Int := 365 * (y - 1980) + (y - 1977) / 4
/-- Days of a year before a month. -/
def cum (y m : Int) : Int :=
  if m = 1 then 0 else if m = 2 then 31 else if m = 3 then 59 + lp y else if m = 4 then 90 + lp y else if m = 5 then 120 + lp y else if m = 6 then 151 + lp y
  else if m = 7 then 181 + lp y else if m = 8 then 212 + lp y else if m = 9 then 243 + lp y else if m = 10 then 273 + lp y else if m = 11 then 304 + lp y else if m = 12 then 334 + lp y else 365 + lp y
def num (y m d : Int) : Int := dby y + cum y m + d - 1
def dayOf (y m d : Int) : Int := if vld y m d = true then num y m d else -1
def wday (n : Int) : Int := if 0 ≤ n ∧ n ≤ 43829 then (n + 2) % 7 else -1

/-! Weeks. -/
def gps (d s : Int) : Int := if (5 ≤ d ∧ d ≤ 43829) ∧ 0 ≤ s ∧ s ≤ 86399 then (d - 5) * 86400 + s else -1
def weekOf (t : Int) : Int := if 0 ≤ t ∧ t ≤ 3786479999 then t / 604800 else -1
def secOf (t : Int) : Int := if 0 ≤ t ∧ t ≤ 3786479999 then t % 604800 else -1
def shortOf (t : Int) : Int := if 0 ≤ t ∧ t ≤ 3786479999 then t / 604800 % 1024 else -1
def full (s f : Int) : Int := if (0 ≤ s ∧ s ≤ 1023) ∧ 0 ≤ f ∧ f ≤ 6000 then f + (s - f % 1024 + 1024) % 1024 else -1
def timeAt (s x f : Int) : Int := if ((0 ≤ s ∧ s ≤ 1023) ∧ 0 ≤ f ∧ f ≤ 6000) ∧ (0 ≤ x ∧ x ≤ 604799) ∧ full s f * 604800 + x ≤ 3786479999 then full s f * 604800 + x else -1
theorem full_in (s f : Int) (h : (0 ≤ s ∧ s ≤ 1023) ∧ 0 ≤ f ∧ f ≤ 6000) : 0 ≤ full s f ∧ full s f ≤ 7023 ∧ f ≤ full s f ∧ full s f ≤ f + 1023 ∧ full s f % 1024 = s := by
  unfold full; rw [if_pos h]; omega
theorem full_out (s f : Int) (h : ¬ ((0 ≤ s ∧ s ≤ 1023) ∧ 0 ≤ f ∧ f ≤ 6000)) : full s f = -1 := by unfold full; rw [if_neg h]

theorem gps_in (d s : Int) (h : (5 ≤ d ∧ d ≤ 43829) ∧ 0 ≤ s ∧ s ≤ 86399) : gps d s = (d - 5) * 86400 + s := by unfold gps; rw [if_pos h]
theorem gps_out (d s : Int) (h : ¬ ((5 ≤ d ∧ d ≤ 43829) ∧ 0 ≤ s ∧ s ≤ 86399)) : gps d s = -1 := by unfold gps; rw [if_neg h]
theorem weekOf_in (t : Int) (h : 0 ≤ t ∧ t ≤ 3786479999) : weekOf t = t / 604800 := by unfold weekOf; rw [if_pos h]
theorem weekOf_out (t : Int) (h : ¬ (0 ≤ t ∧ t ≤ 3786479999)) : weekOf t = -1 := by unfold weekOf; rw [if_neg h]
theorem secOf_in (t : Int) (h : 0 ≤ t ∧ t ≤ 3786479999) : secOf t = t % 604800 := by unfold secOf; rw [if_pos h]
theorem secOf_out (t : Int) (h : ¬ (0 ≤ t ∧ t ≤ 3786479999)) : secOf t = -1 := by unfold secOf; rw [if_neg h]
theorem shortOf_in (t : Int) (h : 0 ≤ t ∧ t ≤ 3786479999) : shortOf t = t / 604800 % 1024 := by unfold shortOf; rw [if_pos h]
theorem shortOf_out (t : Int) (h : ¬ (0 ≤ t ∧ t ≤ 3786479999)) : shortOf t = -1 := by unfold shortOf; rw [if_neg h]
theorem wday_in (n : Int) (h : 0 ≤ n ∧ n ≤ 43829) : wday n = (n + 2) % 7 := by unfold wday; rw [if_pos h]
theorem wday_out (n : Int) (h : ¬ (0 ≤ n ∧ n ≤ 43829)) : wday n = -1 := by unfold wday; rw [if_neg h]
theorem full_is (s f : Int) (h : (0 ≤ s ∧ s ≤ 1023) ∧ 0 ≤ f ∧ f ≤ 6000) : full s f = f + (s - f % 1024 + 1024) % 1024 := by unfold full; rw [if_pos h]
theorem timeAt_in (s x f : Int) (h : ((0 ≤ s ∧ s ≤ 1023) ∧ 0 ≤ f ∧ f ≤ 6000) ∧ (0 ≤ x ∧ x ≤ 604799) ∧ full s f * 604800 + x ≤ 3786479999) : timeAt s x f = full s f * 604800 + x := by unfold timeAt; rw [if_pos h]
theorem timeAt_out (s x f : Int) (h : ¬ (((0 ≤ s ∧ s ≤ 1023) ∧ 0 ≤ f ∧ f ≤ 6000) ∧ (0 ≤ x ∧ x ≤ 604799) ∧ full s f * 604800 + x ≤ 3786479999)) : timeAt s x f = -1 := by unfold timeAt; rw [if_neg h]

/-- The steps of the calendar of eras, as the program takes them. -/
def doe (n : Int) : Int := (n + 723120) % 146097
def yoe (n : Int) : Int := (doe n - (doe n / 1460 - doe n / 36524 + doe n / 146096)) / 365
def doy (n : Int) : Int := doe n - (365 * yoe n + yoe n / 4 - yoe n / 100)
def mp (n : Int) : Int := (5 * doy n + 2) / 153
def eraY (n : Int) : Int := (n + 723120) / 146097 * 400 + yoe n
def dateY (n : Int) : Int := if mp n + 3 > 12 then eraY n + 1 else eraY n
def dateM (n : Int) : Int := if mp n + 3 > 12 then mp n + 3 - 12 else mp n + 3
def dateD (n : Int) : Int := doy n - (153 * mp n + 2) / 5 + 1

/-! Laws of the calendar. -/
theorem lp_bd (y : Int) : 0 ≤ lp y ∧ lp y ≤ 1 := by unfold lp; split <;> omega
theorem lp_eq (y : Int) : (y % 4 = 0 ∧ lp y = 1) ∨ (y % 4 ≠ 0 ∧ lp y = 0) := by unfold lp; split <;> simp_all
theorem dby_succ (y : Int) : dby (y + 1) = dby y + 365 + lp y := by unfold dby lp; split <;> omega
theorem dby_mono (y z : Int) (h : y < z) : dby y + 365 + lp y ≤ dby z := by
  have := dby_succ y
  unfold dby at *; omega
theorem dim_bd (y m : Int) : 28 ≤ dim y m ∧ dim y m ≤ 31 := by
  have := lp_bd y
  unfold dim; split <;> (try split) <;> omega
theorem months {m : Int} (h : 1 ≤ m ∧ m ≤ 12) : m = 1 ∨ m = 2 ∨ m = 3 ∨ m = 4 ∨ m = 5 ∨ m = 6 ∨ m = 7 ∨ m = 8 ∨ m = 9 ∨ m = 10 ∨ m = 11 ∨ m = 12 := by omega
theorem cum_one (y : Int) : cum y 1 = 0 := by simp [cum]
theorem cum_succ (y m : Int) (h : 1 ≤ m ∧ m ≤ 12) : cum y (m + 1) = cum y m + dim y m := by
  rcases months h with rfl | rfl | rfl | rfl | rfl | rfl | rfl | rfl | rfl | rfl | rfl | rfl <;> simp [cum, dim] <;> omega
theorem cum_last (y : Int) : cum y 13 = 365 + lp y := by simp [cum]
theorem cum_up (y m : Int) (h : 1 ≤ m ∧ m ≤ 12) : cum y m + 28 ≤ cum y (m + 1) := by
  rw [cum_succ y m h]; have := dim_bd y m; omega
theorem cum_mono (y m : Int) (h : 1 ≤ m) : ∀ k : Nat, m + k ≤ 13 → cum y m ≤ cum y (m + k)
  | 0, _ => by simp
  | k + 1, h2 => by
    have a := cum_mono y m h k (by omega)
    have b := cum_up y (m + k) (by omega)
    rw [show m + ((k + 1 : Nat) : Int) = m + k + 1 from by omega]; omega
theorem cum_lt (y m k : Int) (h : 1 ≤ m) (hk : m < k) (h2 : k ≤ 13) : cum y m + dim y m ≤ cum y k := by
  rw [← cum_succ y m (by omega)]
  have := cum_mono y (m + 1) (by omega) (k - (m + 1)).toNat (by omega)
  rwa [show m + 1 + (((k - (m + 1)).toNat : Nat) : Int) = k from by omega] at this
theorem cum_bd (y m : Int) (h : 1 ≤ m ∧ m ≤ 13) : 0 ≤ cum y m ∧ cum y m ≤ 365 + lp y := by
  have a := cum_mono y 1 (by omega) (m - 1).toNat (by omega)
  have b := cum_mono y m h.1 (13 - m).toNat (by omega)
  rw [show (1 : Int) + (((m - 1).toNat : Nat) : Int) = m from by omega, cum_one] at a
  rw [show m + (((13 - m).toNat : Nat) : Int) = 13 from by omega, cum_last] at b
  exact ⟨a, b⟩
/-- A day of a year is before the next year. -/
theorem cum_in (y m d : Int) (hm : 1 ≤ m ∧ m ≤ 12) (hd : d ≤ dim y m) : cum y m + d ≤ 365 + lp y := by
  have := cum_lt y m 13 hm.1 (by omega) (by omega)
  rw [cum_last] at this; omega
/-- The date of a number, or 0, 0, 0. -/
def dtY (n : Int) : Int := if 0 ≤ n ∧ n ≤ 43829 then dateY n else 0
def dtM (n : Int) : Int := if 0 ≤ n ∧ n ≤ 43829 then dateM n else 0
def dtD (n : Int) : Int := if 0 ≤ n ∧ n ≤ 43829 then dateD n else 0
theorem dt_out {n : Int} (h : ¬ (0 ≤ n ∧ n ≤ 43829)) : dtY n = 0 ∧ dtM n = 0 ∧ dtD n = 0 := ⟨if_neg h, if_neg h, if_neg h⟩
theorem dt_in {n : Int} (h : 0 ≤ n ∧ n ≤ 43829) : dtY n = dateY n ∧ dtM n = dateM n ∧ dtD n = dateD n := ⟨if_pos h, if_pos h, if_pos h⟩
/-- What is said of the date of a day. -/
structure Good (n : Int) : Prop where
  doy0 : 0 ≤ doy n
  doy1 : doy n ≤ 365
  yoe0 : 0 ≤ yoe n
  yoe1 : yoe n ≤ 399
  mp0 : 0 ≤ mp n
  mp1 : mp n ≤ 11
  y0 : 1980 ≤ dateY n
  y1 : dateY n ≤ 2099
  m0 : 1 ≤ dateM n
  m1 : dateM n ≤ 12
  d0 : 1 ≤ dateD n
  d1 : dateD n ≤ dim (dateY n) (dateM n)
  back : num (dateY n) (dateM n) (dateD n) = n


/-- The first of March of a year from 1979 on. -/
def mar (z : Int) : Int := 365 * (z - 1980) + (z - 1976) / 4 + 59
theorem year5 (e : Int) (h0 : 0 ≤ e) (h1 : e ≤ 36464) : 0 ≤ (e - e / 1460) / 365 ∧ (e - e / 1460) / 365 ≤ 99 ∧ 0 ≤ e - (365 * ((e - e / 1460) / 365) + (e - e / 1460) / 365 / 4)
    ∧ e - (365 * ((e - e / 1460) / 365) + (e - e / 1460) / 365 / 4) ≤ 364 + ((e - e / 1460) / 365 + 1) / 4 - (e - e / 1460) / 365 / 4 := by omega
theorem year4 (e : Int) (h0 : 138732 ≤ e) (h1 : e ≤ 146096) : 379 ≤ (e - e / 1460 + 3) / 365 ∧ (e - e / 1460 + 3) / 365 ≤ 399 ∧ 0 ≤ e - (365 * ((e - e / 1460 + 3) / 365) + (e - e / 1460 + 3) / 365 / 4 - 3)
    ∧ e - (365 * ((e - e / 1460 + 3) / 365) + (e - e / 1460 + 3) / 365 / 4 - 3) ≤ 364 + ((e - e / 1460 + 3) / 365 + 1) / 4 - (e - e / 1460 + 3) / 365 / 4 := by omega
theorem year_of (n : Int) (h0 : 0 ≤ n) (h1 : n ≤ 43829) : 0 ≤ yoe n ∧ yoe n ≤ 399 ∧ 1979 ≤ eraY n ∧ eraY n ≤ 2099 ∧ doy n = n - mar (eraY n) ∧ 0 ≤ doy n ∧ doy n ≤ 364 + (eraY n + 1) / 4 - eraY n / 4 := by
  by_cases h : 7365 ≤ n
  · have e1 : doe n = n - 7365 := by unfold doe; omega
    have q := year5 (n - 7365) (by omega) (by omega)
    have e2 : yoe n = (n - 7365 - (n - 7365) / 1460) / 365 := by
      unfold yoe; rw [e1, show (n - 7365) / 36524 = 0 from by omega, show (n - 7365) / 146096 = 0 from by omega]; simp
    rw [← e2] at q
    have e3 : (n + 723120) / 146097 = 5 := by omega
    have e4 : doy n = n - 7365 - (365 * yoe n + yoe n / 4) := by unfold doy; rw [e1]; omega
    have g1 : (5 * 400 + yoe n + 1) / 4 = 500 + (yoe n + 1) / 4 := by omega
    have g2 : (5 * 400 + yoe n) / 4 = 500 + yoe n / 4 := by omega
    unfold eraY mar; rw [e3]; clear e1 e2 e3; refine ⟨by omega, by omega, by omega, by omega, by omega, by omega, ?_⟩; rw [g1, g2]; omega
  · have e1 : doe n = n + 138732 := by unfold doe; omega
    have q := year4 (n + 138732) (by omega) (by omega)
    have e2 : yoe n = (n + 138732 - (n + 138732) / 1460 + 3) / 365 := by
      unfold yoe; rw [e1]; congr 1; omega
    rw [← e2] at q
    have e3 : (n + 723120) / 146097 = 4 := by omega
    have e4 : doy n = n + 138732 - (365 * yoe n + yoe n / 4 - 3) := by unfold doy; rw [e1]; omega
    have g1 : (4 * 400 + yoe n + 1) / 4 = 400 + (yoe n + 1) / 4 := by omega
    have g2 : (4 * 400 + yoe n) / 4 = 400 + yoe n / 4 := by omega
    unfold eraY mar; rw [e3]; clear e1 e2 e3; refine ⟨by omega, by omega, by omega, by omega, by omega, by omega, ?_⟩; rw [g1, g2]; omega
theorem good (n : Int) (h0 : 0 ≤ n) (h1 : n ≤ 43829) : Good n := by
  obtain ⟨a1, a2, a3, a4, a5, a6, a7⟩ := year_of n h0 h1
  generalize hz : eraY n = z at *
  have b0 : 0 ≤ mp n ∧ mp n ≤ 11 := by unfold mp; omega
  have b1 : (153 * mp n + 2) / 5 ≤ doy n ∧ doy n < (153 * (mp n + 1) + 2) / 5 := by unfold mp; omega
  have hl := lp_eq z
  have hk := lp_eq (z + 1)
  have g3 : (z - 1976) / 4 = (z - 1977) / 4 + lp z := by
    have : z % 4 = 0 ∨ z % 4 = 1 ∨ z % 4 = 2 ∨ z % 4 = 3 := by omega
    rcases this with h | h | h | h <;> omega
  have g4 : (z + 1) / 4 = z / 4 + lp (z + 1) := by
    have : z % 4 = 0 ∨ z % 4 = 1 ∨ z % 4 = 2 ∨ z % 4 = 3 := by omega
    rcases this with h | h | h | h <;> omega
  have hm : mp n = 0 ∨ mp n = 1 ∨ mp n = 2 ∨ mp n = 3 ∨ mp n = 4 ∨ mp n = 5 ∨ mp n = 6 ∨ mp n = 7 ∨ mp n = 8 ∨ mp n = 9 ∨ mp n = 10 ∨ mp n = 11 := by omega
  unfold mar at a5
  rcases hm with hm | hm | hm | hm | hm | hm | hm | hm | hm | hm | hm | hm
  all_goals
    have hY : dateY n = (if mp n + 3 > 12 then eraY n + 1 else eraY n) := rfl
    have hM : dateM n = (if mp n + 3 > 12 then mp n + 3 - 12 else mp n + 3) := rfl
    have hD : dateD n = doy n - (153 * mp n + 2) / 5 + 1 := rfl
    rw [hm, hz] at hY
    rw [hm] at hM hD
    simp at hY hM hD
    rw [hm] at b1
    simp at b1
    have l0 := lp_bd z
    have l1 := lp_bd (z + 1)
    clear hl hk
    refine ⟨a6, by omega, a1, a2, b0.1, b0.2, by omega, by omega, by omega, by omega, by omega, ?_, ?_⟩
    · rw [hY, hM, hD]; simp [dim]; omega
    · rw [hY, hM, hD]; unfold num dby; simp [cum]; omega

/-- One date a day. -/
theorem num_inj {y m d y' m' d' : Int} (h : vld y m d = true) (h' : vld y' m' d' = true) (e : num y m d = num y' m' d') : y = y' ∧ m = m' ∧ d = d' := by
  simp only [vld, decide_eq_true_eq] at h h'
  obtain ⟨a1, a2, a3, a4⟩ := h
  obtain ⟨b1, b2, b3, b4⟩ := h'
  have i1 := cum_in y m d a2 a4
  have i2 := cum_in y' m' d' b2 b4
  have c1 := cum_bd y m (by omega)
  have c2 := cum_bd y' m' (by omega)
  unfold num at e
  have ey : y = y' := by
    rcases Int.lt_trichotomy y y' with h | h | h
    · have := dby_mono y y' h; omega
    · exact h
    · have := dby_mono y' y h; omega
  subst ey
  have em : m = m' := by
    rcases Int.lt_trichotomy m m' with h | h | h
    · have := cum_lt y m m' a2.1 h (by omega); omega
    · exact h
    · have := cum_lt y m' m b2.1 h (by omega); omega
  subst em
  exact ⟨rfl, rfl, by omega⟩
theorem vld_date (n : Int) (h0 : 0 ≤ n) (h1 : n ≤ 43829) : vld (dateY n) (dateM n) (dateD n) = true := by
  have g := good n h0 h1
  simp only [vld, decide_eq_true_eq]
  exact ⟨⟨g.y0, g.y1⟩, ⟨g.m0, g.m1⟩, g.d0, g.d1⟩
theorem num_bd (y m d : Int) (h : vld y m d = true) : 0 ≤ num y m d ∧ num y m d ≤ 43829 := by
  simp only [vld, decide_eq_true_eq] at h
  obtain ⟨a1, a2, a3, a4⟩ := h
  have i1 := cum_in y m d a2 a4
  have c1 := cum_bd y m (by omega)
  have hl := lp_eq y
  unfold num dby; omega
/-- The date of a number is the date. -/
theorem date_num (y m d : Int) (h : vld y m d = true) : dateY (num y m d) = y ∧ dateM (num y m d) = m ∧ dateD (num y m d) = d := by
  have b := num_bd y m d h
  have g := good _ b.1 b.2
  exact num_inj (vld_date _ b.1 b.2) h g.back
/-- The program's reckoning of a date. -/
theorem march_lo (y m d : Int) (hy : 1980 ≤ y ∧ y ≤ 2099) (hm : m = 1 ∨ m = 2) :
    (y - 1) / 400 * 146097 + (365 * ((y - 1) % 400) + (y - 1) % 400 / 4 - (y - 1) % 400 / 100) + (153 * (m + 9) + 2) / 5 + d - 1 - 723120 = num y m d := by
  have hl := lp_eq y
  unfold num dby
  rcases hm with rfl | rfl <;> simp only [cum] <;> simp <;> omega
theorem march_hi (y m d : Int) (hy : 1980 ≤ y ∧ y ≤ 2099) (hm : 3 ≤ m ∧ m ≤ 12) :
    y / 400 * 146097 + (365 * (y % 400) + y % 400 / 4 - y % 400 / 100) + (153 * (m - 3) + 2) / 5 + d - 1 - 723120 = num y m d := by
  have hl := lp_eq y
  have : y / 400 * 146097 + (365 * (y % 400) + y % 400 / 4 - y % 400 / 100) = dby y + 59 + lp y + 723120 := by unfold dby; omega
  rw [this]; unfold num
  rcases months (m := m) (by omega) with rfl | rfl | rfl | rfl | rfl | rfl | rfl | rfl | rfl | rfl | rfl | rfl <;> simp only [cum] <;> simp <;> omega
/-- A date that has the number. -/
theorem dt_is {n y m d : Int} (h : vld y m d = true) (e : num y m d = n) (h0 : 0 ≤ n ∧ n ≤ 43829) : y = dtY n ∧ m = dtM n ∧ d = dtD n := by
  have g := good n h0.1 h0.2
  obtain ⟨e1, e2, e3⟩ := dt_in h0
  rw [e1, e2, e3]
  exact num_inj h (vld_date n h0.1 h0.2) (e.trans g.back.symm)
theorem vld_mk {y m d : Int} (hy : 1980 ≤ y ∧ y ≤ 2099) (hm : 1 ≤ m ∧ m ≤ 12) (hd : 1 ≤ d ∧ d ≤ dim y m) : vld y m d = true := by simp only [vld, decide_eq_true_eq]; exact ⟨hy, hm, hd⟩
end Go.Proofs.Ytgbbbmljanlogaa.M
