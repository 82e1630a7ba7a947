/-
  The plain mathematics of fixes: which are valid, their civil times, and the fixes of civil times. No program is read here.
-/
import Derived.Test.YtopaglepkpblaaaDoorMath
namespace Go.Proofs.YtopaglepkpblaaaDoor.X
/-- A valid fix. -/
def vf (y m d s n : Int) : Bool := decide (M.vld y m d = true ∧ (0 ≤ s ∧ s ≤ 86400) ∧ 0 ≤ n ∧ n ≤ 32)
theorem vf_of {y m d s n : Int} (h : vf y m d s n = true) : M.vld y m d = true ∧ (0 ≤ s ∧ s ≤ 86400) ∧ 0 ≤ n ∧ n ≤ 32 := of_decide_eq_true h
theorem vf_mk {y m d s n : Int} (h : M.vld y m d = true) (hs : 0 ≤ s ∧ s ≤ 86400) (hn : 0 ≤ n ∧ n ≤ 32) : vf y m d s n = true := decide_eq_true ⟨h, hs, hn⟩
theorem vf_no {y m d s n : Int} (h : ¬ (M.vld y m d = true ∧ (0 ≤ s ∧ s ≤ 86400) ∧ 0 ≤ n ∧ n ≤ 32)) : vf y m d s n = false := decide_eq_false h
/-- What clocks show at the leap second is the second before it. -/
def sm (s : Int) : Int := if s ≤ 86399 then s else 86399
theorem sm_min (s : Int) : min s 86399 = sm s := by unfold sm; split <;> omega
theorem sm_bd {s : Int} (h : 0 ≤ s) : 0 ≤ sm s ∧ sm s ≤ 86399 := by unfold sm; split <;> omega
/-- The civil time of a fix. -/
def cv (y m d s n : Int) : Int := if vf y m d s n = true ∧ 5 ≤ M.num y m d then (M.num y m d - 5) * 86400 + sm s else -1
theorem cv_in {y m d s n : Int} (h : vf y m d s n = true) (h5 : 5 ≤ M.num y m d) : cv y m d s n = (M.num y m d - 5) * 86400 + sm s := by unfold cv; rw [if_pos ⟨h, h5⟩]
theorem cv_no {y m d s n : Int} (h : vf y m d s n = false) : cv y m d s n = -1 := by unfold cv; rw [if_neg (by rw [h]; simp)]
theorem cv_low {y m d s n : Int} (h : ¬ 5 ≤ M.num y m d) : cv y m d s n = -1 := by unfold cv; rw [if_neg (fun k => h k.2)]
theorem cv_gps {y m d s n : Int} (h : vf y m d s n = true) : cv y m d s n = M.gps (M.num y m d) (sm s) := by
  obtain ⟨hv, hs, hn⟩ := vf_of h
  have hb := M.num_bd y m d hv
  have hm := sm_bd hs.1
  by_cases h5 : 5 ≤ M.num y m d
  · rw [cv_in h h5, M.gps_in _ _ ⟨⟨h5, hb.2⟩, hm⟩]
  · rw [cv_low h5, M.gps_out _ _ (fun k => h5 k.1.1)]
theorem cv_bd (y m d s n : Int) : -1 ≤ cv y m d s n ∧ cv y m d s n ≤ 3786479999 := by
  rcases h : vf y m d s n with _ | _
  · rw [cv_no h]; omega
  · obtain ⟨hv, hs, hn⟩ := vf_of h
    have hb := M.num_bd y m d hv
    have hm := sm_bd hs.1
    by_cases h5 : 5 ≤ M.num y m d
    · rw [cv_in h h5]; omega
    · rw [cv_low h5]; omega
theorem cv_yes {y m d s n : Int} (h : 0 ≤ cv y m d s n) : vf y m d s n = true ∧ 5 ≤ M.num y m d := by
  unfold cv at h
  split at h
  · rename_i k; exact k
  · omega
/-- Arguments that have a fix. -/
def fok (t n : Int) : Bool := decide ((0 ≤ t ∧ t ≤ 3786479999) ∧ 0 ≤ n ∧ n ≤ 32)
theorem fok_of {t n : Int} (h : fok t n = true) : (0 ≤ t ∧ t ≤ 3786479999) ∧ 0 ≤ n ∧ n ≤ 32 := of_decide_eq_true h
theorem fok_mk {t n : Int} (h : 0 ≤ t ∧ t ≤ 3786479999) (hn : 0 ≤ n ∧ n ≤ 32) : fok t n = true := decide_eq_true ⟨h, hn⟩
theorem fok_no {t n : Int} (h : ¬ ((0 ≤ t ∧ t ≤ 3786479999) ∧ 0 ≤ n ∧ n ≤ 32)) : fok t n = false := decide_eq_false h
def fy (t n : Int) : Int := if fok t n = true then M.dtY (5 + t / 86400) else 0
def fm (t n : Int) : Int := if fok t n = true then M.dtM (5 + t / 86400) else 0
def fd (t n : Int) : Int := if fok t n = true then M.dtD (5 + t / 86400) else 0
def fs (t n : Int) : Int := if fok t n = true then t % 86400 else 0
def fn (t n : Int) : Int := if fok t n = true then n else 0
theorem f_in {t n : Int} (h : fok t n = true) : fy t n = M.dtY (5 + t / 86400) ∧ fm t n = M.dtM (5 + t / 86400) ∧ fd t n = M.dtD (5 + t / 86400) ∧ fs t n = t % 86400 ∧ fn t n = n := ⟨if_pos h, if_pos h, if_pos h, if_pos h, if_pos h⟩
theorem f_out {t n : Int} (h : fok t n = false) : fy t n = 0 ∧ fm t n = 0 ∧ fd t n = 0 ∧ fs t n = 0 ∧ fn t n = 0 := by
  have k : ¬ fok t n = true := by rw [h]; simp
  exact ⟨if_neg k, if_neg k, if_neg k, if_neg k, if_neg k⟩
theorem day_bd {t : Int} (h : 0 ≤ t ∧ t ≤ 3786479999) : 0 ≤ 5 + t / 86400 ∧ 5 + t / 86400 ≤ 43829 := by omega
/-- The date of a fix is a date, and its number is the day. -/
theorem f_date {t n : Int} (h : fok t n = true) : M.vld (fy t n) (fm t n) (fd t n) = true ∧ M.num (fy t n) (fm t n) (fd t n) = 5 + t / 86400 := by
  obtain ⟨e1, e2, e3, -, -⟩ := f_in h
  have hb := day_bd (fok_of h).1
  obtain ⟨d1, d2, d3⟩ := M.dt_in hb
  rw [e1, e2, e3, d1, d2, d3]
  refine ⟨M.vld_date _ hb.1 hb.2, ?_⟩
  obtain ⟨-, -, -, -, -, -, g1, g2, g3, g4, g5, g6, g7⟩ := M.good _ hb.1 hb.2
  exact g7
theorem f_vf {t n : Int} (h : fok t n = true) : vf (fy t n) (fm t n) (fd t n) (fs t n) (fn t n) = true := by
  obtain ⟨-, -, -, e4, e5⟩ := f_in h
  have hh := fok_of h
  exact vf_mk (f_date h).1 (by rw [e4]; omega) (by rw [e5]; exact hh.2)
theorem zero_vf (s n : Int) : vf 0 0 0 s n = false := vf_no fun h => by
  have := h.1
  simp only [M.vld, decide_eq_true_eq] at this
  omega
theorem f_vf_iff (t n : Int) : vf (fy t n) (fm t n) (fd t n) (fs t n) (fn t n) = fok t n := by
  cases h : fok t n
  · obtain ⟨e1, e2, e3, e4, e5⟩ := f_out h
    rw [e1, e2, e3]; exact zero_vf _ _
  · exact f_vf h
theorem f_dayOf {t n : Int} (h : fok t n = true) : M.dayOf (fy t n) (fm t n) (fd t n) = 5 + t / 86400 := by
  unfold M.dayOf; rw [if_pos (f_date h).1]; exact (f_date h).2
/-- The civil time of the fix at a civil time. -/
theorem cv_f {t n : Int} (h : fok t n = true) : cv (fy t n) (fm t n) (fd t n) (fs t n) (fn t n) = t := by
  obtain ⟨-, -, -, e4, e5⟩ := f_in h
  have hh := fok_of h
  rw [cv_in (f_vf h) (by rw [(f_date h).2]; omega), (f_date h).2, e4]
  unfold sm
  rw [if_pos (by omega)]
  omega
/-- The fix at the civil time of a fix. -/
theorem f_cv {y m d s n : Int} (h : 0 ≤ cv y m d s n) (hs : s ≠ 86400) : fok (cv y m d s n) n = true ∧ fy (cv y m d s n) n = y ∧ fm (cv y m d s n) n = m ∧ fd (cv y m d s n) n = d ∧ fs (cv y m d s n) n = s ∧ fn (cv y m d s n) n = n := by
  obtain ⟨hv, h5⟩ := cv_yes h
  obtain ⟨hd, hs2, hn⟩ := vf_of hv
  have hb := cv_bd y m d s n
  have hk : fok (cv y m d s n) n = true := fok_mk ⟨h, hb.2⟩ hn
  obtain ⟨e1, e2, e3, e4, e5⟩ := f_in hk
  have hc := cv_in hv h5
  have hsm : sm s = s := by unfold sm; rw [if_pos (by omega)]
  rw [hsm] at hc
  have q1 : 5 + cv y m d s n / 86400 = M.num y m d := by omega
  have q2 : cv y m d s n % 86400 = s := by omega
  have nb := M.num_bd y m d hd
  obtain ⟨d1, d2, d3⟩ := M.dt_is hd rfl nb
  rw [q1] at e1 e2 e3
  rw [q2] at e4
  exact ⟨hk, by rw [e1, ← d1], by rw [e2, ← d2], by rw [e3, ← d3], e4, e5⟩
theorem cv_leap {y m d s n : Int} (h : 0 ≤ cv y m d s n) : cv y m d 86400 n = cv y m d 86399 n ∧ 0 ≤ cv y m d 86399 n ∧ cv y m d 86399 n ≤ 3786479999 ∧ cv y m d 86399 n % 86400 = 86399 := by
  obtain ⟨hv, h5⟩ := cv_yes h
  obtain ⟨hd, hs2, hn⟩ := vf_of hv
  have h1 : vf y m d 86400 n = true := vf_mk hd (by omega) hn
  have h2 : vf y m d 86399 n = true := vf_mk hd (by omega) hn
  have hb := cv_bd y m d 86399 n
  rw [cv_in h1 h5, cv_in h2 h5] at *
  have : sm 86400 = 86399 := rfl
  have : sm 86399 = 86399 := rfl
  omega
/-- The next second. -/
theorem f_next {t n : Int} (h : fok t n = true) (ht : t ≠ 3786479999) : fok (t + 1) n = true ∧ ((fs t n = 86399 ∧ fs (t + 1) n = 0 ∧ M.dayOf (fy (t + 1) n) (fm (t + 1) n) (fd (t + 1) n) = M.dayOf (fy t n) (fm t n) (fd t n) + 1) ∨ (fs (t + 1) n = fs t n + 1 ∧ fs t n ≠ 86399 ∧ fy (t + 1) n = fy t n ∧ fm (t + 1) n = fm t n ∧ fd (t + 1) n = fd t n)) := by
  have hh := fok_of h
  have hk : fok (t + 1) n = true := fok_mk (by omega) hh.2
  obtain ⟨e1, e2, e3, e4, e5⟩ := f_in h
  obtain ⟨g1, g2, g3, g4, g5⟩ := f_in hk
  refine ⟨hk, ?_⟩
  by_cases h9 : t % 86400 = 86399
  · refine .inl ⟨by omega, by omega, ?_⟩
    rw [f_dayOf h, f_dayOf hk]; omega
  · have e : 5 + (t + 1) / 86400 = 5 + t / 86400 := by omega
    refine .inr ⟨by omega, by omega, ?_, ?_, ?_⟩
    · rw [g1, e1, e]
    · rw [g2, e2, e]
    · rw [g3, e3, e]
theorem f_seen {t n k : Int} (h : fok t n = true) (hk : 0 ≤ k ∧ k ≤ 32) : fok t k = true ∧ fy t k = fy t n ∧ fm t k = fm t n ∧ fd t k = fd t n ∧ fs t k = fs t n ∧ fn t k = k := by
  have hh := fok_of h
  have h2 : fok t k = true := fok_mk hh.1 hk
  obtain ⟨e1, e2, e3, e4, e5⟩ := f_in h
  obtain ⟨g1, g2, g3, g4, g5⟩ := f_in h2
  exact ⟨h2, by rw [g1, e1], by rw [g2, e2], by rw [g3, e3], by rw [g4, e4], g5⟩
theorem f_week {t n : Int} (h : fok t n = true) (ht : t + 604800 ≤ 3786479999) : fok (t + 604800) n = true ∧ M.wday (M.dayOf (fy (t + 604800) n) (fm (t + 604800) n) (fd (t + 604800) n)) = M.wday (M.dayOf (fy t n) (fm t n) (fd t n)) ∧ fs (t + 604800) n = fs t n := by
  have hh := fok_of h
  have hk : fok (t + 604800) n = true := fok_mk (by omega) hh.2
  obtain ⟨e1, e2, e3, e4, e5⟩ := f_in h
  obtain ⟨g1, g2, g3, g4, g5⟩ := f_in hk
  refine ⟨hk, ?_, by omega⟩
  rw [f_dayOf h, f_dayOf hk, M.wday_in _ (by omega), M.wday_in _ (by omega)]
  omega
theorem f_gps {d s : Int} (h : (5 ≤ d ∧ d ≤ 43829) ∧ 0 ≤ s ∧ s ≤ 86399) : fok (M.gps d s) 4 = true ∧ M.dayOf (fy (M.gps d s) 4) (fm (M.gps d s) 4) (fd (M.gps d s) 4) = d ∧ fs (M.gps d s) 4 = s := by
  have e := M.gps_in d s h
  have hk : fok (M.gps d s) 4 = true := fok_mk (by omega) (by omega)
  obtain ⟨e1, e2, e3, e4, e5⟩ := f_in hk
  refine ⟨hk, ?_, by omega⟩
  rw [f_dayOf hk]; omega
theorem f_bd (t n : Int) : (0 ≤ fs t n ∧ fs t n ≤ 86399) ∧ 0 ≤ fn t n ∧ fn t n ≤ 32 := by
  cases h : fok t n
  · obtain ⟨e1, e2, e3, e4, e5⟩ := f_out h; omega
  · obtain ⟨e1, e2, e3, e4, e5⟩ := f_in h
    have := fok_of h; omega
end Go.Proofs.YtopaglepkpblaaaDoor.X
