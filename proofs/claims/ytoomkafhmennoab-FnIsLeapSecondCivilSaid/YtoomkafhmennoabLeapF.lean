/-
  What the functions of leap seconds return, by the program and by the model: the same plain number.
-/
import Derived.Test.YtoomkafhmennoabLeap
import Derived.Deep.RegionHeld3
namespace Go.Proofs.Ytoomkafhmennoab
open Go.RowKit
set_option linter.unusedVariables false
theorem Same.cell {w w' : World} (q : Same w w') (p : Addr) : w'.cell? p = w.cell? p := by obtain ⟨k, rfl⟩ := q; rfl
theorem lb_impl (B n c : Nat) (a : Option Addr) (l : List Int) (t : Int) (w : World) (h : Lst B w a n l) : Calls Try.prog 26 #[.slice a n c, .int .i64 t] w fun e w' => e = .returned (.int .i64 (L.lb l t)) ∧ w = w' := by
  rcases hv : L.vl l with _ | _
  · have e : L.lb l t = -1 := L.lb_out (fun k => by rw [hv] at k; exact Bool.noConfusion k.1)
    rw [e]
    clear e
    go_enter Try.func26, Try.ntmps26
    go_wp2_with (first | (go_at_call 47; refine (vl_impl _ _ _ _ _ _ h).mono ?_; rintro e w' ⟨rfl, rfl⟩))
    go_ret
    exact ⟨rfl, rfl⟩
  · rcases inR_cases t 0 3786479999 with ⟨r0, r1⟩ | ⟨r0, r1⟩
    · have HE := Lib.hid (L.lb_in hv r1)
      have HV := Lib.hid hv
      go_enter Try.func26, Try.ntmps26
      go_wp2_with (first | (go_at_call 47; refine (vl_impl _ _ _ _ _ _ h).mono ?_; rintro e w' ⟨rfl, rfl⟩) | (go_at_call 48; refine (inR_impl _ _ _ _).mono ?_; rintro e w' ⟨rfl, rfl⟩) | (go_at_call 53; refine (bs_any _ _ _ _ _ _ _ h HV.out).mono ?_; rintro e w' ⟨rfl, rfl⟩))
      go_ret
      exact ⟨ret_int HE.out.symm, rfl⟩
    · have e : L.lb l t = -1 := L.lb_out (fun k => r1 k.2)
      rw [e]
      clear e
      go_enter Try.func26, Try.ntmps26
      go_wp2_with (first | (go_at_call 47; refine (vl_impl _ _ _ _ _ _ h).mono ?_; rintro e w' ⟨rfl, rfl⟩) | (go_at_call 48; refine (inR_impl _ _ _ _).mono ?_; rintro e w' ⟨rfl, rfl⟩))
      go_ret
      exact ⟨rfl, rfl⟩
theorem isl_impl (B n c : Nat) (a : Option Addr) (l : List Int) (t : Int) (w : World) (h : Lst B w a n l) : Calls Try.prog 21 #[.slice a n c, .int .i64 t] w fun e w' => e = .returned (.bool (L.isl l t)) ∧ w = w' := by
  rcases hv : L.vl l with _ | _
  · rw [L.isl_out hv]
    go_enter Try.func21, Try.ntmps21
    go_wp2_with (first | (go_at_call 47; refine (vl_impl _ _ _ _ _ _ h).mono ?_; rintro e w' ⟨rfl, rfl⟩))
    go_ret
    exact ⟨rfl, rfl⟩
  · rw [L.isl_in hv]
    have HV := Lib.hid hv
    go_enter Try.func21, Try.ntmps21
    go_wp2_with (first | (go_at_call 47; refine (vl_impl _ _ _ _ _ _ h).mono ?_; rintro e w' ⟨rfl, rfl⟩) | (go_at_call 53; refine (bs_any _ _ _ _ _ _ _ h HV.out).mono ?_; rintro e w' ⟨rfl, rfl⟩))
    go_ret
    exact ⟨rfl, rfl⟩
theorem civ_impl (B n c : Nat) (a : Option Addr) (l : List Int) (t : Int) (w : World) (h : Lst B w a n l) : Calls Try.prog 16 #[.slice a n c, .int .i64 t] w fun e w' => e = .returned (.int .i64 (L.civ l t)) ∧ w = w' := by
  by_cases hin : L.vl l = true ∧ 0 ≤ t ∧ t ≤ 3786479999
  · have e0 := L.lb_in hin.1 hin.2
    have e1 := L.civ_in hin.1 hin.2
    have e2 := L.isl_in (t := t) hin.1
    have c8 := L.cnt_le l t
    have l8 := L.len8 hin.1
    have b0 : 0 ≤ L.lb l t ∧ L.lb l t ≤ 8 := by omega
    rw [e1, ← e2, ← e0]
    have h1 := hin.2
    clear hin e0 e1 e2 c8 l8
    rcases hb : L.isl l t with _ | _
    all_goals
      go_enter Try.func16, Try.ntmps16
      go_wp2_with (first | (go_at_call 26; refine (lb_impl _ _ _ _ _ _ _ h).mono ?_; rintro e w' ⟨rfl, rfl⟩) | (go_at_call 21; refine (isl_impl _ _ _ _ _ _ _ h).mono ?_; rintro e w' ⟨rfl, rfl⟩))
      go_ret
      exact ⟨ret_int (by simp only [L.b1_t, L.b1_f] <;> omega), rfl⟩
  · have e0 := L.lb_out hin
    have e1 := L.civ_out hin
    rw [e1]
    have b0 : L.lb l t < 0 := by omega
    clear hin e0 e1
    go_enter Try.func16, Try.ntmps16
    go_wp2_with (first | (go_at_call 26; refine (lb_impl _ _ _ _ _ _ _ h).mono ?_; rintro e w' ⟨rfl, rfl⟩))
    go_ret
    exact ⟨rfl, rfl⟩
theorem nxt_impl (B n c : Nat) (a : Option Addr) (l : List Int) (t : Int) (w : World) (h : Lst B w a n l) : Calls Try.prog 23 #[.slice a n c, .int .i64 t] w fun e w' => e = .returned (.int .i64 (L.nxt l t)) ∧ w = w' := by
  have C := lb_impl B n c a l t w h
  by_cases hin : L.vl l = true ∧ 0 ≤ t ∧ t ≤ 3786479999
  · rw [L.lb_in hin.1 hin.2] at C
    have HC := Lib.hid C
    clear C
    by_cases hn : L.cnt l t < l.length
    · have e1 := L.nxt_in hin.1 hin.2 hn
      rw [e1]
      have hl := h.1
      have l8 := L.len8 hin.1
      have hn1 : L.cnt l t < n := by omega
      have hn8 : n ≤ 8 := by omega
      obtain ⟨b, off, rfl, hb, hc⟩ := h.at_ _ hn1
      have ck := hc _ hn1
      have hne : ((L.cnt l t : Int) == (n : Int)) = false := by rw [beq_eq_false_iff_ne]; omega
      clear hin hn e1 hl l8 hc
      go_enter Try.func23, Try.ntmps23
      go_wp2_with (first | (go_at_call 26; refine HC.out.mono ?_; rintro e w' ⟨rfl, rfl⟩))
      go_ret
      exact ⟨rfl, rfl⟩
    · have e1 := L.nxt_out (l := l) (t := t) (fun k => hn k.2.2)
      have := L.cnt_le l t
      have hl := h.1
      rw [e1]
      have hne : ((L.cnt l t : Int) == (n : Int)) = true := by rw [beq_iff_eq]; omega
      clear hin hn e1 this hl
      go_enter Try.func23, Try.ntmps23
      go_wp2_with (first | (go_at_call 26; refine HC.out.mono ?_; rintro e w' ⟨rfl, rfl⟩))
      go_ret
      exact ⟨rfl, rfl⟩
  · rw [L.lb_out hin] at C
    rw [L.nxt_out (fun k => hin ⟨k.1, k.2.1⟩)]
    have HC := Lib.hid C
    clear C hin
    go_enter Try.func23, Try.ntmps23
    go_wp2_with (first | (go_at_call 26; refine HC.out.mono ?_; rintro e w' ⟨rfl, rfl⟩))
    go_ret
    exact ⟨rfl, rfl⟩
theorem rb_impl (B n c : Nat) (a : Option Addr) (l : List Int) (z : Int) (i : Nat) (w : World) (h : Lst B w a n l) (hz : z = i) (hi : i < n) (hv : L.vl l = true) :
    Calls Try.prog 51 #[.slice a n c, .int .i64 z] w fun e w' => e = .returned (.int .i64 (L.g l i - i - 1)) ∧ w = w' := by
  subst hz
  obtain ⟨b, off, rfl, hb, hc⟩ := h.at_ i hi
  have ck := hc i hi
  have r := L.rng hv (by have := h.1; omega : i < l.length)
  have hn := h.2.1
  clear hc hv
  go_enter Try.func51, Try.ntmps51
  go_wp2
  go_ret
  exact ⟨rfl, rfl⟩
theorem cl_impl (B n c p1 p2 : Nat) (a : Option Addr) (l : List Int) (t z : Int) (i : Nat) (w : World) (h : Lst B w a n l) (hz : z = i) (hi : i < n) (hv : L.vl l = true)
    (c1 : w.cell? ⟨p1, 0, none⟩ = some (.slice a n c)) (c2 : w.cell? ⟨p2, 0, none⟩ = some (.int .i64 t)) :
    Calls Try.prog 50 #[.int .i64 z, .pointer (some ⟨p1, 0, none⟩), .pointer (some ⟨p2, 0, none⟩)] w fun e w' => e = .returned (.bool (decide (t ≤ L.g l i - i - 1))) ∧ Same w w' := by
  have HZ := Lib.hid hz
  have HV := Lib.hid hv
  clear hz hv
  go_enter Try.func50, Try.ntmps50
  go_wp2
  go_quiet ((go_at_call 51; exact Calls.quiet_of_same ((rb_impl B n c a l z i _ (h.drewN _) HZ.out hi HV.out).mono fun _ _ ⟨a, b⟩ => ⟨a, b.symm⟩)))
  go_wp2
  go_ret
  exact ⟨rfl, (Same.refl _).drewN _⟩
theorem search_sat (B n c p1 p2 : Nat) (a : Option Addr) (l : List Int) (t : Int) (w : World) (h : Lst B w a n l) (hv : L.vl l = true)
    (c1 : w.cell? ⟨p1, 0, none⟩ = some (.slice a n c)) (c2 : w.cell? ⟨p2, 0, none⟩ = some (.int .i64 t)) :
    Calls Try.prog 49 #[.int .i64 n, .func (.func 50) #[] #[.pointer (some ⟨p1, 0, none⟩), .pointer (some ⟨p2, 0, none⟩)]] w fun e w' => e = .returned (.int .i64 (L.satN l t)) ∧ Same w w' := by
  have hl := h.1
  have h8 := L.len8 hv
  have h8 : n ≤ 8 := by omega
  have HL := Lib.hid hl
  have HV := Lib.hid hv
  clear hl hv
  have H := Lib.hid h
  have C1 := Lib.hid c1
  have C2 := Lib.hid c2
  clear h c1 c2
  go_enter Try.func49, Try.ntmps49
  go_wp2
  go_loopw [5, 6] (fun i j wr => ∃ p q : Nat, p ≤ q ∧ q ≤ n ∧ i = .int .i64 p ∧ j = .int .i64 q ∧ (∀ x : Nat, x < p → L.g l x - (x : Int) - 1 < t) ∧ (∀ x : Nat, q ≤ x → x < n → t ≤ L.g l x - (x : Int) - 1) ∧ Same w wr) (fun i j _ => (intOf j).toNat - (intOf i).toNat)
  case atStart => exact ⟨0, n, by omega, by omega, rfl, rfl, fun j hj => absurd hj (by omega), fun j h1 h2 => by omega, Same.refl _⟩
  case round =>
    obtain ⟨p, q, hpq, hq, rfl, rfl, hlo, hhi, hs⟩ := hrel
    have HA := Lib.hid hlo
    have HB := Lib.hid hhi
    clear hlo hhi
    by_cases hlt : p < q
    · have hm : (p + q) / 2 < n := by omega
      by_cases hg : t ≤ L.g l ((p + q) / 2) - (((p + q) / 2 : Nat) : Int) - 1
      · have hd : decide (t ≤ L.g l ((p + q) / 2) - (((p + q) / 2 : Nat) : Int) - 1) = true := decide_eq_true hg
        have C := cl_impl B n c p1 p2 a l t ((((p : Int) + (q : Int))) / 2) ((p + q) / 2) wr (H.out.same hs) (by omega) hm HV.out ((hs.cell _).trans C1.out) ((hs.cell _).trans C2.out)
        rw [hd] at C
        have HC := Lib.hid C
        have HG := Lib.hid hg
        clear C hd hg
        go_wp2_with (go_at_call 50; refine HC.out.mono ?_; rintro e w2 ⟨rfl, q2⟩)
        go_roundw
        case rel => exact ⟨p, (p + q) / 2, by omega, by omega, rfl, by go_num, HA.out, fun x h1 h2 => by
          rcases Nat.lt_or_ge ((p + q) / 2) x with y | y
          · have := L.ascv HV.out y (by have := HL.out; omega); have := HG.out; omega
          · obtain rfl : x = (p + q) / 2 := by omega
            exact HG.out, hs.trans q2⟩
        case measure => simp [intOf]; omega
      · have hd : decide (t ≤ L.g l ((p + q) / 2) - (((p + q) / 2 : Nat) : Int) - 1) = false := decide_eq_false hg
        have C := cl_impl B n c p1 p2 a l t ((((p : Int) + (q : Int))) / 2) ((p + q) / 2) wr (H.out.same hs) (by omega) hm HV.out ((hs.cell _).trans C1.out) ((hs.cell _).trans C2.out)
        rw [hd] at C
        have HC := Lib.hid C
        have HG := Lib.hid hg
        clear C hd hg
        go_wp2_with (go_at_call 50; refine HC.out.mono ?_; rintro e w2 ⟨rfl, q2⟩)
        go_roundw
        case rel => exact ⟨(p + q) / 2 + 1, q, by omega, hq, by go_num, rfl, fun x hx => by
          rcases Nat.lt_or_ge x ((p + q) / 2) with y | y
          · have := L.ascv HV.out y (by have := HL.out; omega); have := HG.out; omega
          · obtain rfl : x = (p + q) / 2 := by omega
            have := HG.out; omega, HB.out, hs.trans q2⟩
        case measure => simp [intOf]; omega
    · obtain rfl : q = p := by omega
      have hcut : L.Sut l t q := ⟨by have := HL.out; omega, HA.out, fun i h1 h2 => HB.out i h1 (by have := HL.out; omega)⟩
      have HC := Lib.hid hcut
      clear hcut
      go_wp2
      go_ret
      exact ⟨ret_int (by rw [HC.out.satN]), hs⟩
theorem isl_spec (B n c : Nat) (a : Option Addr) (l : List Int) (t : Int) (w : World) (h : Lst B w a n l) : Calls Try.prog 38 #[.slice a n c, .int .i64 t] w fun e w' => e = .returned (.bool (L.isl l t)) ∧ Same w w' := by
  rcases hv : L.vl l with _ | _
  · rw [L.isl_out hv]
    go_enter Try.func38, Try.ntmps38
    go_wp2_with (first | (go_at_call 40; refine (vl_spec _ _ _ _ _ _ h).mono ?_; rintro e w2 ⟨rfl, q⟩; have h2 := h.same q))
    go_ret
    exact ⟨rfl, q⟩
  · rw [L.isl_in hv]
    go_enter Try.func38, Try.ntmps38
    go_wp2_with (first | (go_at_call 40; refine (vl_spec _ _ _ _ _ _ h).mono ?_; rintro e w2 ⟨rfl, q⟩; have h2 := h.same q) | (go_at_call 44; refine (isIn_44 _ _ _ _ _ _ _ h2).mono ?_; rintro e w' ⟨rfl, rfl⟩))
    go_ret
    exact ⟨rfl, q⟩
theorem lb_spec (B n c : Nat) (a : Option Addr) (l : List Int) (t : Int) (w : World) (h : Lst B w a n l) : Calls Try.prog 36 #[.slice a n c, .int .i64 t] w fun e w' => e = .returned (.int .i64 (L.lb l t)) ∧ Same w w' := by
  rcases hv : L.vl l with _ | _
  · have e : L.lb l t = -1 := L.lb_out (fun k => by rw [hv] at k; exact Bool.noConfusion k.1)
    rw [e]
    clear e
    go_enter Try.func36, Try.ntmps36
    go_wp2_with (first | (go_at_call 40; refine (vl_spec _ _ _ _ _ _ h).mono ?_; rintro e w2 ⟨rfl, q⟩; have h2 := h.same q))
    go_ret
    exact ⟨rfl, q⟩
  · rcases inR_cases t 0 3786479999 with ⟨r0, r1⟩ | ⟨r0, r1⟩
    · have HV := Lib.hid hv
      have HE := Lib.hid (L.lb_in hv r1)
      go_enter Try.func36, Try.ntmps36
      go_wp2_with (first | (go_at_call 40; refine (vl_spec _ _ _ _ _ _ h).mono ?_; rintro e w2 ⟨rfl, q⟩; have h2 := h.same q) | (go_at_call 41; refine (time_spec _ _).mono ?_; rintro e w' ⟨rfl, rfl⟩) | (go_at_call 42; refine (cnt_spec _ _ _ _ _ _ _ h2).mono ?_; rintro e w' ⟨rfl, rfl⟩))
      go_ret
      exact ⟨ret_int HE.out.symm, q⟩
    · have e : L.lb l t = -1 := L.lb_out (fun k => r1 (by first | exact k.2 | exact k.2.1))
      rw [e]
      clear e
      go_enter Try.func36, Try.ntmps36
      go_wp2_with (first | (go_at_call 40; refine (vl_spec _ _ _ _ _ _ h).mono ?_; rintro e w2 ⟨rfl, q⟩; have h2 := h.same q) | (go_at_call 41; refine (time_spec _ _).mono ?_; rintro e w' ⟨rfl, rfl⟩))
      go_ret
      exact ⟨rfl, q⟩
theorem civ_spec (B n c : Nat) (a : Option Addr) (l : List Int) (t : Int) (w : World) (h : Lst B w a n l) : Calls Try.prog 17 #[.slice a n c, .int .i64 t] w fun e w' => e = .returned (.int .i64 (L.civ l t)) ∧ Same w w' := by
  rcases hv : L.vl l with _ | _
  · have e : L.civ l t = -1 := L.civ_out (fun k => by rw [hv] at k; exact Bool.noConfusion k.1)
    rw [e]
    clear e
    go_enter Try.func17, Try.ntmps17
    go_wp2_with (first | (go_at_call 40; refine (vl_spec _ _ _ _ _ _ h).mono ?_; rintro e w2 ⟨rfl, q⟩; have h2 := h.same q))
    go_ret
    exact ⟨rfl, q⟩
  · rcases inR_cases t 0 3786479999 with ⟨r0, r1⟩ | ⟨r0, r1⟩
    · have HV := Lib.hid hv
      have HE := Lib.hid (L.civ_in hv r1)
      have b0 := L.cnt_le l t
      have l8 := L.len8 hv
      have c0 : (0 : Int) ≤ (L.cnt l t : Int) := by omega
      have c1 : (L.cnt l t : Int) ≤ 8 := by omega
      have d := L.b1_01 (L.isIn l t)
      have d0 : 0 ≤ L.b1 (L.isIn l t) := by omega
      have d1 : L.b1 (L.isIn l t) ≤ 1 := by omega
      clear d b0 l8
      go_enter Try.func17, Try.ntmps17
      go_wp2_with (first | (go_at_call 40; refine (vl_spec _ _ _ _ _ _ h).mono ?_; rintro e w2 ⟨rfl, q⟩; have h2 := h.same q) | (go_at_call 41; refine (time_spec _ _).mono ?_; rintro e w' ⟨rfl, rfl⟩) | (go_at_call 42; refine (cnt_spec _ _ _ _ _ _ _ h2).mono ?_; rintro e w' ⟨rfl, rfl⟩) | (go_at_call 44; refine (isIn_44 _ _ _ _ _ _ _ h2).mono ?_; rintro e w' ⟨rfl, rfl⟩) | (go_at_call 43; refine (toInt_b _ _).mono ?_; rintro e w' ⟨rfl, rfl⟩))
      go_ret
      exact ⟨ret_int HE.out.symm, q⟩
    · have e : L.civ l t = -1 := L.civ_out (fun k => r1 (by first | exact k.2 | exact k.2.1))
      rw [e]
      clear e
      go_enter Try.func17, Try.ntmps17
      go_wp2_with (first | (go_at_call 40; refine (vl_spec _ _ _ _ _ _ h).mono ?_; rintro e w2 ⟨rfl, q⟩; have h2 := h.same q) | (go_at_call 41; refine (time_spec _ _).mono ?_; rintro e w' ⟨rfl, rfl⟩))
      go_ret
      exact ⟨rfl, q⟩
theorem nxt_spec (B n c : Nat) (a : Option Addr) (l : List Int) (t : Int) (w : World) (h : Lst B w a n l) : Calls Try.prog 24 #[.slice a n c, .int .i64 t] w fun e w' => e = .returned (.int .i64 (L.nxt l t)) ∧ Same w w' := by
  rcases hv : L.vl l with _ | _
  · have e : L.nxt l t = -1 := L.nxt_out (fun k => by rw [hv] at k; exact Bool.noConfusion k.1)
    rw [e]
    clear e
    go_enter Try.func24, Try.ntmps24
    go_wp2_with (first | (go_at_call 40; refine (vl_spec _ _ _ _ _ _ h).mono ?_; rintro e w2 ⟨rfl, q⟩; have h2 := h.same q))
    go_ret
    exact ⟨rfl, q⟩
  · rcases inR_cases t 0 3786479999 with ⟨r0, r1⟩ | ⟨r0, r1⟩
    · have HV := Lib.hid hv
      have HL := Lib.hid h.1
      have hn := h.2.1
      go_enter Try.func24, Try.ntmps24
      go_wp2_with (first | (go_at_call 40; refine (vl_spec _ _ _ _ _ _ h).mono ?_; rintro e w2 ⟨rfl, q⟩; have h2 := h.same q) | (go_at_call 41; refine (time_spec _ _).mono ?_; rintro e w' ⟨rfl, rfl⟩))
      go_loop [5] (fun i => ∃ k : Nat, k ≤ n ∧ i = .int .i64 k ∧ ∀ j, j < k → L.g l j < t) (fun i => n - (intOf i).toNat)
      case atStart => exact ⟨0, Nat.zero_le _, rfl, fun j hj => absurd hj (by omega)⟩
      case round =>
        obtain ⟨k, hk, rfl, hno⟩ := hrel
        have HN := Lib.hid hno
        clear hno
        by_cases hlt : k < n
        · obtain ⟨b, off, rfl, hb, hc⟩ := h2.at_ k hlt
          have ck := hc k hlt
          clear hc
          by_cases he : t ≤ L.g l k
          · have hcut : L.Cut l t k := ⟨by have := HL.out; omega, HN.out, fun i h1 h2 => by
              rcases Nat.lt_or_ge k i with y | y
              · have := L.ascv HV.out y h2; omega
              · obtain rfl : i = k := by omega
                exact he⟩
            have HC := Lib.hid hcut
            clear hcut
            go_wp2
            go_ret
            exact ⟨ret_int (by rw [L.nxt_in HV.out r1 (by rw [HC.out.cnt]; have := HL.out; omega), HC.out.cnt]), q⟩
          · have he' : decide (t ≤ L.g l k) = false := decide_eq_false he
            go_wp2
            go_round
            case rel => exact ⟨k + 1, by omega, by go_num, fun j hj => by
              rcases Nat.lt_or_ge j k with x | x
              · exact HN.out j x
              · obtain rfl : j = k := by omega
                omega⟩
            case measure => simp [intOf]; omega
        · have hcut : L.Cut l t l.length := ⟨by omega, fun i hi => HN.out i (by have := HL.out; omega), fun i h1 h2 => by omega⟩
          have HC := Lib.hid hcut
          clear hcut
          go_wp2
          go_ret
          exact ⟨ret_int (by rw [L.nxt_out (fun k => by have := k.2.2; rw [HC.out.cnt] at this; omega)]), q⟩
    · have e : L.nxt l t = -1 := L.nxt_out (fun k => r1 (by first | exact k.2 | exact k.2.1))
      rw [e]
      clear e
      go_enter Try.func24, Try.ntmps24
      go_wp2_with (first | (go_at_call 40; refine (vl_spec _ _ _ _ _ _ h).mono ?_; rintro e w2 ⟨rfl, q⟩; have h2 := h.same q) | (go_at_call 41; refine (time_spec _ _).mono ?_; rintro e w' ⟨rfl, rfl⟩))
      go_ret
      exact ⟨rfl, q⟩
theorem sat_spec (B n c : Nat) (a : Option Addr) (l : List Int) (t : Int) (w : World) (h : Lst B w a n l) : Calls Try.prog 20 #[.slice a n c, .int .i64 t] w fun e w' => e = .returned (.int .i64 (L.sat l t)) ∧ Same w w' := by
  rcases hv : L.vl l with _ | _
  · have e : L.sat l t = -1 := L.sat_out (fun k => by rw [hv] at k; exact Bool.noConfusion k.1)
    rw [e]
    clear e
    go_enter Try.func20, Try.ntmps20
    go_wp2_with (first | (go_at_call 40; refine (vl_spec _ _ _ _ _ _ h).mono ?_; rintro e w2 ⟨rfl, q⟩; have h2 := h.same q))
    go_ret
    exact ⟨rfl, q⟩
  · rcases inR_cases t 0 1893239999 with ⟨r0, r1⟩ | ⟨r0, r1⟩
    · have HV := Lib.hid hv
      have HE := Lib.hid (L.sat_in hv r1)
      have s8 := L.satN_le l t
      have l8 := L.len8 hv
      have s8 : L.satN l t ≤ 8 := by omega
      clear l8
      go_enter Try.func20, Try.ntmps20
      go_wp2_with (first | (go_at_call 40; refine (vl_spec _ _ _ _ _ _ h).mono ?_; rintro e w2 ⟨rfl, q⟩; have h2 := h.same q) | (go_at_call 52; refine (inR_spec _ _ _ _).mono ?_; rintro e w' ⟨rfl, rfl⟩))
      go_loop [5] (fun i => ∃ k : Nat, k ≤ L.satN l t ∧ i = .int .i64 (t + k)) (fun i => (t + 8 - intOf i).toNat)
      case atStart => exact ⟨0, Nat.zero_le _, by simp⟩
      case round =>
        obtain ⟨k, hk, rfl⟩ := hrel
        have b0 := L.cnt_le l (t + k)
        have l8 := L.len8 HV.out
        have c0 : (0 : Int) ≤ (L.cnt l (t + k) : Int) := by omega
        have c1 : (L.cnt l (t + k) : Int) ≤ 8 := by omega
        have d := L.b1_01 (L.isIn l (t + k))
        have d0 : 0 ≤ L.b1 (L.isIn l (t + k)) := by omega
        have d1 : L.b1 (L.isIn l (t + k)) ≤ 1 := by omega
        clear d b0 l8
        by_cases hlt : k < L.satN l t
        · have hb := L.sat_before HV.out t (t + k) (by omega) (by omega)
          go_wp2_with (first | (go_at_call 42; refine (cnt_spec _ _ _ _ _ _ _ h2).mono ?_; rintro e w' ⟨rfl, rfl⟩) | (go_at_call 44; refine (isIn_44 _ _ _ _ _ _ _ h2).mono ?_; rintro e w' ⟨rfl, rfl⟩) | (go_at_call 43; refine (toInt_b _ _).mono ?_; rintro e w' ⟨rfl, rfl⟩))
          go_round
          case rel => exact ⟨k + 1, by omega, by go_num⟩
          case measure => simp [intOf]; omega
        · have hk' : k = L.satN l t := by omega
          subst hk'
          have ha := L.sat_at HV.out t
          have hb : decide (t + (L.satN l t : Int) - (L.cnt l (t + (L.satN l t : Int)) : Int) - L.b1 (L.isIn l (t + (L.satN l t : Int))) < t) = false := by
            rw [ha.1, ha.2, L.b1_f]; simp
          clear ha
          go_wp2_with (first | (go_at_call 42; refine (cnt_spec _ _ _ _ _ _ _ h2).mono ?_; rintro e w' ⟨rfl, rfl⟩) | (go_at_call 44; refine (isIn_44 _ _ _ _ _ _ _ h2).mono ?_; rintro e w' ⟨rfl, rfl⟩) | (go_at_call 43; refine (toInt_b _ _).mono ?_; rintro e w' ⟨rfl, rfl⟩))
          go_ret
          exact ⟨ret_int HE.out.symm, q⟩
    · have e : L.sat l t = -1 := L.sat_out (fun k => r1 (by first | exact k.2 | exact k.2.1))
      rw [e]
      clear e
      go_enter Try.func20, Try.ntmps20
      go_wp2_with (first | (go_at_call 40; refine (vl_spec _ _ _ _ _ _ h).mono ?_; rintro e w2 ⟨rfl, q⟩; have h2 := h.same q) | (go_at_call 52; refine (inR_spec _ _ _ _).mono ?_; rintro e w' ⟨rfl, rfl⟩))
      go_ret
      exact ⟨rfl, q⟩
theorem sat_impl (B n c : Nat) (a : Option Addr) (l : List Int) (t : Int) (w : World) (h : Lst B w a n l) (hB : B ≤ w.heap.size) : Calls Try.prog 19 #[.slice a n c, .int .i64 t] w fun e w' => e = .returned (.int .i64 (L.sat l t)) ∧ Below w.heap.size w w' := by
  have bW := ((Below.refl w.heap.size w).alloc (Nat.le_refl _) (.cells #[.slice a n c] 23)).alloc (by simp) (.cells #[.int .i64 t] 3)
  have hW := h.below (bW.mono hB)
  have x0 : ((w.alloc (.cells #[.slice a n c] 23)).alloc (.cells #[.int .i64 t] 3)).cell? ⟨w.heap.size, 0, none⟩ = some (.slice a n c) := by
    rw [World.cell?_alloc_lt _ _ _ (by simp)]; simp
  have x1 : ((w.alloc (.cells #[.slice a n c] 23)).alloc (.cells #[.int .i64 t] 3)).cell? ⟨w.heap.size + 1, 0, none⟩ = some (.int .i64 t) := by
    simp
  rcases hv : L.vl l with _ | _
  · have e : L.sat l t = -1 := L.sat_out (fun k => by rw [hv] at k; exact Bool.noConfusion k.1)
    rw [e]
    clear e
    have HX := Lib.hid x1
    clear x1
    go_enter Try.func19, Try.ntmps19
    go_wp2_with (first | (go_at_call 47; refine (vl_impl _ _ _ _ _ _ hW).mono ?_; rintro e w' ⟨rfl, rfl⟩))
    go_ret
    exact ⟨rfl, bW⟩
  · rcases inR_cases t 0 1893239999 with ⟨r0, r1⟩ | ⟨r0, r1⟩
    · have e := L.sat_in hv r1
      have s8 := L.satN_le l t
      have l8 := L.len8 hv
      have s8 : L.satN l t ≤ 8 := by omega
      rw [e]
      have HV := Lib.hid hv
      clear e l8
      go_enter Try.func19, Try.ntmps19
      go_wp2_with (first | (go_at_call 47; refine (vl_impl _ _ _ _ _ _ hW).mono ?_; rintro e w' ⟨rfl, rfl⟩) | (go_at_call 48; refine (inR_impl _ _ _ _).mono ?_; rintro e w' ⟨rfl, rfl⟩))
      generalize ((w.alloc (.cells #[.slice a n c] 23)).alloc (.cells #[.int .i64 t] 3)) = W at *
      generalize hgd : w.heap.size = D at *
      have HD := Lib.hid hgd
      clear hgd
      have is := IntWalk.i64_in (t + (L.satN l t : Int)) (by omega)
      go_region_held3 (fun w' => w'.cell? ⟨D, 0, none⟩ = some (.slice a n c) ∧ w'.cell? ⟨D + 1, 0, none⟩ = some (.int .i64 t))
        (first | exact ⟨x0, x1⟩ | (refine ⟨(q.cell _).trans ?_, (q.cell _).trans ?_⟩ <;> assumption))
        ((go_at_call 49; refine (search_sat _ _ _ _ _ _ _ _ _ (hW.drewN _) HV.out x0 x1).mono ?_; rintro e w3 ⟨rfl, q⟩))
      go_wp2
      go_ret
      exact ⟨rfl, by rw [HD.out]; exact (below_drewN bW 1).trans q.below⟩
    · have e : L.sat l t = -1 := L.sat_out (fun k => r1 k.2)
      rw [e]
      clear e
      go_enter Try.func19, Try.ntmps19
      go_wp2_with (first | (go_at_call 47; refine (vl_impl _ _ _ _ _ _ hW).mono ?_; rintro e w' ⟨rfl, rfl⟩) | (go_at_call 48; refine (inR_impl _ _ _ _).mono ?_; rintro e w' ⟨rfl, rfl⟩))
      go_ret
      exact ⟨rfl, bW⟩

/-! The list beside worlds that follow each other. -/
theorem Same.size {w w' : World} (q : Same w w') : w'.heap.size = w.heap.size := by obtain ⟨k, rfl⟩ := q; rfl
theorem Lst.s {w w' : World} {a : Option Addr} {n : Nat} {l : List Int} (h : Lst w.heap.size w a n l) (q : Same w w') : Lst w'.heap.size w' a n l := (h.same q).more (by rw [q.size]; exact Nat.le_refl _)
theorem Lst.b {w w' : World} {a : Option Addr} {n : Nat} {l : List Int} (h : Lst w.heap.size w a n l) (hb : Below w.heap.size w w') : Lst w'.heap.size w' a n l := (h.below hb).more hb.size
theorem bel_b {a w w' : World} (h : Below a.heap.size a w) (hb : Below w.heap.size w w') : Below a.heap.size a w' := h.trans (hb.mono h.size)
theorem sat_impl' (n c : Nat) (a : Option Addr) (l : List Int) (t : Int) (w : World) (h : Lst w.heap.size w a n l) : Calls Try.prog 19 #[.slice a n c, .int .i64 t] w fun e w' => e = .returned (.int .i64 (L.sat l t)) ∧ Below w.heap.size w w' :=
  sat_impl w.heap.size n c a l t w h (Nat.le_refl _)
end Go.Proofs.Ytoomkafhmennoab
