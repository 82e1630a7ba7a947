/-
  What the functions of leap seconds return, for every table and every time: the program's and the model's answer is the same plain number, and nothing that was there has changed.
-/
import Derived.Test.YtoomkafhmennoaaCal
import Derived.Test.YtoomkafhmennoaaLMath
namespace Go.Proofs.Ytoomkafhmennoaa
open Go.RowKit
set_option linter.unusedVariables false

/-- A list of numbers in memory, in blocks below B. -/
def Lst (B : Nat) (w : World) (a : Option Addr) (n : Nat) (l : List Int) : Prop :=
  l.length = n ∧ n ≤ 1048576 ∧ (n = 0 ∨ ∃ b off, a = some ⟨b, off, none⟩ ∧ b < B ∧ ∀ i, i < n → w.cell? ⟨b, off + i, none⟩ = some (.int .i64 (L.g l i)))
theorem Lst.drewN {B : Nat} {w : World} {a : Option Addr} {n : Nat} {l : List Int} (h : Lst B w a n l) (k : Nat) : Lst B (w.drewN k) a n l := h
theorem Lst.drew {B : Nat} {w : World} {a : Option Addr} {n : Nat} {l : List Int} (h : Lst B w a n l) : Lst B w.drew a n l := h
theorem Lst.below {B : Nat} {w w' : World} {a : Option Addr} {n : Nat} {l : List Int} (h : Lst B w a n l) (hb : Below B w w') : Lst B w' a n l :=
  ⟨h.1, h.2.1, h.2.2.imp_right fun ⟨b, off, e, hlt, hc⟩ => ⟨b, off, e, hlt, fun i hi => (hb.cell (p := ⟨b, off + i, none⟩) hlt).trans (hc i hi)⟩⟩
theorem Lst.more {B B' : Nat} {w : World} {a : Option Addr} {n : Nat} {l : List Int} (h : Lst B w a n l) (hb : B ≤ B') : Lst B' w a n l :=
  ⟨h.1, h.2.1, h.2.2.imp_right fun ⟨b, off, e, hlt, hc⟩ => ⟨b, off, e, by omega, hc⟩⟩
theorem Lst.none_ (B : Nat) (w : World) (a : Option Addr) : Lst B w a 0 [] := ⟨rfl, by omega, .inl rfl⟩
theorem Lst.at_ {B : Nat} {w : World} {a : Option Addr} {n : Nat} {l : List Int} (h : Lst B w a n l) (i : Nat) (hi : i < n) : ∃ b off, a = some ⟨b, off, none⟩ ∧ b < B ∧ ∀ i, i < n → w.cell? ⟨b, off + i, none⟩ = some (.int .i64 (L.g l i)) := by
  rcases h.2.2 with h0 | h0
  · omega
  · exact h0
theorem Lst.take {B : Nat} {w : World} {a : Option Addr} {n : Nat} {l : List Int} (h : Lst B w a n l) (k : Nat) (hk : k ≤ n) : Lst B w a k (l.take k) := by
  refine ⟨by rw [List.length_take, h.1]; omega, by have := h.2.1; omega, ?_⟩
  rcases Nat.eq_zero_or_pos k with h0 | h0
  · exact .inl h0
  · obtain ⟨b, off, e, hb, hc⟩ := h.at_ 0 (by omega)
    refine .inr ⟨b, off, e, hb, fun i hi => ?_⟩
    rw [hc i (by omega)]
    unfold L.g
    rw [List.getD_eq_getElem?_getD, List.getD_eq_getElem?_getD, List.getElem?_take_of_lt hi]

set_option maxHeartbeats 1000000 in
theorem vl_impl (B n c : Nat) (a : Option Addr) (l : List Int) (w : World) (h : Lst B w a n l) : Calls Try.prog 29 #[.slice a n c] w fun e w' => e = .returned (.bool (L.vl l)) ∧ w = w' := by
  obtain ⟨hl, hn, _⟩ := id h
  by_cases h8 : 8 < n
  · have h8' : (8 : Int) < (n : Int) := by omega
    have e : L.vl l = false := L.vl_long (by omega)
    rw [e]
    clear h hl e
    go_enter Try.func29, Try.ntmps29
    go_wp2
    go_ret
    exact ⟨rfl, rfl⟩
  have h8' : ¬ (8 : Int) < (n : Int) := by omega
  have HL := Lib.hid hl
  clear hl
  go_enter Try.func29, Try.ntmps29
  go_wp2
  go_loop [10] (fun i => ∃ k : Nat, k ≤ n ∧ L.okTo l k ∧ i = .int .i64 k) (fun i => n - (intOf i).toNat)
  case atStart => exact ⟨0, Nat.zero_le _, fun i hi => absurd hi (by omega), rfl⟩
  case round =>
    obtain ⟨k, hk, hok, rfl⟩ := hrel
    have HO := Lib.hid hok
    clear hok
    by_cases hlt : k < n
    · obtain ⟨b, off, rfl, hb, hc⟩ := h.at_ k hlt
      have ck := hc k hlt
      rcases inR_cases (L.g l k) 1 1893239999 with ⟨r0, r1⟩ | ⟨r0, r1⟩
      · rcases Nat.eq_zero_or_pos k with hz | hz
        · subst hz
          have ck0 : w.cell? ⟨b, off, none⟩ = some (.int .i64 (L.g l 0)) := ck
          clear hc ck
          go_wp2_with (go_at_call 43; refine (inR_impl _ _ _ _).mono ?_; rintro e w' ⟨rfl, rfl⟩)
          go_round
          case rel => exact ⟨1, by omega, L.okTo_succ HO.out ⟨r1, fun h => by omega⟩, by go_num⟩
          case measure => simp [intOf]; omega
        · obtain ⟨m, rfl⟩ : ∃ m, k = m + 1 := ⟨k - 1, by omega⟩
          have cm := hc m (by omega)
          have rm := (HO.out m (by omega)).1
          clear hc
          by_cases hd : L.g l m + 604800 ≤ L.g l (m + 1)
          · have hd' : decide (L.g l (m + 1) - L.g l m < 604800) = false := by simp; omega
            go_wp2_with (go_at_call 43; refine (inR_impl _ _ _ _).mono ?_; rintro e w' ⟨rfl, rfl⟩)
            go_round
            case rel => exact ⟨m + 1 + 1, by omega, L.okTo_succ HO.out ⟨r1, fun _ => hd⟩, by go_num⟩
            case measure => simp [intOf]; omega
          · have hd' : decide (L.g l (m + 1) - L.g l m < 604800) = true := by simp; omega
            go_wp2_with (go_at_call 43; refine (inR_impl _ _ _ _).mono ?_; rintro e w' ⟨rfl, rfl⟩)
            go_ret
            exact ⟨ret_bool (L.vl_bad (m + 1) (by have := HL.out; omega) (fun h => by have := h.2 (by omega); simp only [Nat.add_sub_cancel] at this; omega)).symm, rfl⟩
      · clear hc
        go_wp2_with (go_at_call 43; refine (inR_impl _ _ _ _).mono ?_; rintro e w' ⟨rfl, rfl⟩)
        go_ret
        exact ⟨ret_bool (L.vl_bad k (by have := HL.out; omega) (fun h => r1 h.1)).symm, rfl⟩
    · go_wp2
      go_ret
      exact ⟨ret_bool (L.vl_yes (by have := HL.out; omega) (fun i hi => HO.out i (by have := HL.out; omega))).symm, rfl⟩
/-- The world is as it was, but for draws. -/
def Same (w w' : World) : Prop := ∃ q, w' = w.drewN q
theorem Same.refl (w : World) : Same w w := ⟨0, rfl⟩
theorem Same.drewN {a w : World} (h : Same a w) (q : Nat) : Same a (w.drewN q) := by obtain ⟨p, rfl⟩ := h; exact ⟨p + q, by rw [World.drewN_drewN]⟩
theorem Same.trans {a b c : World} (h : Same a b) (k : Same b c) : Same a c := by obtain ⟨q, rfl⟩ := k; exact h.drewN q
theorem Lst.same {B : Nat} {w w' : World} {a : Option Addr} {n : Nat} {l : List Int} (h : Lst B w a n l) (q : Same w w') : Lst B w' a n l := by obtain ⟨p, rfl⟩ := q; exact h
theorem Same.below {B : Nat} {w w' : World} (q : Same w w') : Below B w w' := by obtain ⟨p, rfl⟩ := q; exact below_drewN (Below.refl _ _) p
theorem bel_same {B : Nat} {a w w' : World} (h : Below B a w) (q : Same w w') : Below B a w' := h.trans q.below
theorem qsL {P : Program} {f : FuncId} {args : Array Value} {w : World} {n : Nat} {v : Value} (h : ∀ w', Calls P f args w' fun e w'' => e = .returned v ∧ w' = w'') :
    Calls P f args (w.drewN n) fun e w'' => e = .returned v ∧ ∃ m, w'' = w.drewN m := Calls.quiet_of_same ((h _).mono fun _ _ ⟨a, b⟩ => ⟨a, b.symm⟩)
set_option maxHeartbeats 1000000 in
theorem vl_spec (B n c : Nat) (a : Option Addr) (l : List Int) (w : World) (h : Lst B w a n l) : Calls Try.prog 56 #[.slice a n c] w fun e w' => e = .returned (.bool (L.vl l)) ∧ Same w w' := by
  obtain ⟨hl, hn, _⟩ := id h
  have HL := Lib.hid hl
  clear hl
  go_enter Try.func56, Try.ntmps56
  go_wp2
  go_loopw [3] (fun i wr => ∃ k : Nat, k ≤ n ∧ L.okTo l k ∧ i = .int .i64 k ∧ Same w wr) (fun i _ => n - (intOf i).toNat)
  case atStart => exact ⟨0, Nat.zero_le _, fun i hi => absurd hi (by omega), rfl, Same.refl _⟩
  case round =>
    obtain ⟨k, hk, hok, rfl, hs⟩ := hrel
    have HO := Lib.hid hok
    clear hok
    have h := h.same hs
    by_cases hlt : k < n
    · obtain ⟨b, off, rfl, hb, hc⟩ := h.at_ k hlt
      have ck := hc k hlt
      rcases inR_cases (L.g l k) 1 1893239999 with ⟨r0, r1⟩ | ⟨r0, r1⟩
      · rcases Nat.eq_zero_or_pos k with hz | hz
        · subst hz
          have ck0 : wr.cell? ⟨b, off, none⟩ = some (.int .i64 (L.g l 0)) := ck
          clear hc ck
          go_wp2
          go_quiet ((go_at_call 64; exact qsL (inR_spec _ _ _)))
          go_wp2
          go_roundw
          case rel => exact ⟨1, by omega, L.okTo_succ HO.out ⟨r1, fun h => by omega⟩, by go_num, hs.drewN _⟩
          case measure => simp [intOf]; omega
        · obtain ⟨m, rfl⟩ : ∃ m, k = m + 1 := ⟨k - 1, by omega⟩
          have cm := hc m (by omega)
          have rm := (HO.out m (by omega)).1
          clear hc
          by_cases hd : L.g l m + 604800 ≤ L.g l (m + 1)
          · have hd' : decide (L.g l (m + 1) < L.g l m + 604800) = false := by simp; omega
            go_wp2
            go_quiet ((go_at_call 64; exact qsL (inR_spec _ _ _)))
            go_wp2
            go_roundw
            case rel => exact ⟨m + 1 + 1, by omega, L.okTo_succ HO.out ⟨r1, fun _ => hd⟩, by go_num, hs.drewN _⟩
            case measure => simp [intOf]; omega
          · have hd' : decide (L.g l (m + 1) < L.g l m + 604800) = true := by simp; omega
            go_wp2
            go_quiet ((go_at_call 64; exact qsL (inR_spec _ _ _)))
            go_wp2
            go_ret
            exact ⟨ret_bool (L.vl_bad (m + 1) (by have := HL.out; omega) (fun h => by have := h.2 (by omega); simp only [Nat.add_sub_cancel] at this; omega)).symm, hs.drewN _⟩
      · clear hc
        go_wp2
        go_quiet ((go_at_call 64; exact qsL (inR_spec _ _ _)))
        go_wp2
        go_ret
        exact ⟨ret_bool (L.vl_bad k (by have := HL.out; omega) (fun h => r1 h.1)).symm, hs.drewN _⟩
    · by_cases h8 : 8 < n
      · have h8' : decide ((n : Int) ≤ 8) = false := by simp; omega
        go_wp2
        go_ret
        exact ⟨ret_bool (L.vl_long (by have := HL.out; omega)).symm, hs⟩
      · have h8' : (n : Int) ≤ 8 := by omega
        go_wp2
        go_ret
        exact ⟨ret_bool (L.vl_yes (by have := HL.out; omega) (fun i hi => HO.out i (by have := HL.out; omega))).symm, hs⟩
theorem toInt_b (b : Bool) (w : World) : Calls Try.prog 62 #[.bool b] w fun e w' => e = .returned (.int .i64 (L.b1 b)) ∧ w = w' := by
  cases b
  · rw [L.b1_f]
    go_enter Try.func62, Try.ntmps62
    go_wp2
    go_ret
    exact ⟨rfl, rfl⟩
  · rw [L.b1_t]
    go_enter Try.func62, Try.ntmps62
    go_wp2
    go_ret
    exact ⟨rfl, rfl⟩
theorem lb_step (l : List Int) (t : Int) (k : Nat) : (L.cntTo l t (k + 1) : Int) = L.cntTo l t k + L.b1 (decide (L.g l k < t)) := by
  unfold L.b1
  show ((L.cntTo l t k + (if L.g l k < t then 1 else 0) : Nat) : Int) = _
  by_cases h : L.g l k < t
  · rw [if_pos h, if_pos (decide_eq_true h)]; rfl
  · rw [if_neg h, if_neg (by simpa using h)]; rfl
set_option maxHeartbeats 1000000 in
theorem cnt_spec (B n c : Nat) (a : Option Addr) (l : List Int) (t : Int) (w : World) (h : Lst B w a n l) : Calls Try.prog 60 #[.slice a n c, .int .i64 t] w fun e w' => e = .returned (.int .i64 (L.cnt l t)) ∧ w = w' := by
  obtain ⟨hl, hn, _⟩ := id h
  have HL := Lib.hid hl
  clear hl
  go_enter Try.func60, Try.ntmps60
  go_wp2
  go_loop [5, 6] (fun x i => ∃ k : Nat, k ≤ n ∧ i = .int .i64 k ∧ x = .int .i64 (L.cntTo l t k)) (fun _ i => n - (intOf i).toNat)
  case atStart => exact ⟨0, Nat.zero_le _, rfl, rfl⟩
  case round =>
    obtain ⟨k, hk, rfl, rfl⟩ := hrel
    by_cases hlt : k < n
    · obtain ⟨b, off, rfl, hb, hc⟩ := h.at_ k hlt
      have ck := hc k hlt
      have hs := lb_step l t k
      have hle := L.cntTo_le l t k
      have h01 := L.b1_01 (decide (L.g l k < t))
      have HS := Lib.hid hs
      have h0 : 0 ≤ L.b1 (decide (L.g l k < t)) := by omega
      have h1 : L.b1 (decide (L.g l k < t)) ≤ 1 := by omega
      clear hc hs h01
      go_wp2_with (go_at_call 62; refine (toInt_b _ _).mono ?_; rintro e w' ⟨rfl, rfl⟩)
      go_round
      case rel => exact ⟨k + 1, by omega, by go_num, by rw [HS.out]⟩
      case measure => simp [intOf]; omega
    · obtain rfl : k = n := by omega
      go_wp2
      go_ret
      exact ⟨ret_int (by unfold L.cnt; rw [HL.out]), rfl⟩
theorem isIn_61 (B n c : Nat) (a : Option Addr) (l : List Int) (t : Int) (w : World) (h : Lst B w a n l) : Calls Try.prog 61 #[.slice a n c, .int .i64 t] w fun e w' => e = .returned (.bool (L.isIn l t)) ∧ w = w' := by
  obtain ⟨hl, hn, _⟩ := id h
  have HL := Lib.hid hl
  clear hl
  go_enter Try.func61, Try.ntmps61
  go_wp2
  go_loop [5] (fun i => ∃ k : Nat, k ≤ n ∧ i = .int .i64 k ∧ ∀ j, j < k → L.g l j ≠ t) (fun i => n - (intOf i).toNat)
  case atStart => exact ⟨0, Nat.zero_le _, rfl, fun j hj => absurd hj (by omega)⟩
  case round =>
    obtain ⟨k, hk, rfl, hno⟩ := hrel
    have HN := Lib.hid hno
    clear hno
    by_cases hlt : k < n
    · obtain ⟨b, off, rfl, hb, hc⟩ := h.at_ k hlt
      have ck := hc k hlt
      clear hc
      by_cases he : L.g l k = t
      · have he' : (L.g l k == t) = true := by simpa using he
        have HE := Lib.hid he
        clear he
        go_wp2
        go_ret
        exact ⟨ret_bool (L.isIn_yes k (by have := HL.out; omega) HE.out).symm, rfl⟩
      · have he' : (L.g l k == t) = false := by simpa using he
        have HE := Lib.hid he
        clear he
        go_wp2
        go_round
        case rel => exact ⟨k + 1, by omega, by go_num, fun j hj => by
          rcases Nat.lt_or_ge j k with x | x
          · exact HN.out j x
          · obtain rfl : j = k := by omega
            exact HE.out⟩
        case measure => simp [intOf]; omega
    · go_wp2
      go_ret
      exact ⟨ret_bool (L.isIn_no (fun i hi => HN.out i (by have := HL.out; omega))).symm, rfl⟩
theorem isIn_37 (B n c : Nat) (a : Option Addr) (l : List Int) (t : Int) (w : World) (h : Lst B w a n l) : Calls Try.prog 37 #[.slice a n c, .int .i64 t] w fun e w' => e = .returned (.bool (L.isIn l t)) ∧ w = w' := by
  obtain ⟨hl, hn, _⟩ := id h
  have HL := Lib.hid hl
  clear hl
  go_enter Try.func37, Try.ntmps37
  go_wp2
  go_loop [5] (fun i => ∃ k : Nat, k ≤ n ∧ i = .int .i64 k ∧ ∀ j, j < k → L.g l j ≠ t) (fun i => n - (intOf i).toNat)
  case atStart => exact ⟨0, Nat.zero_le _, rfl, fun j hj => absurd hj (by omega)⟩
  case round =>
    obtain ⟨k, hk, rfl, hno⟩ := hrel
    have HN := Lib.hid hno
    clear hno
    by_cases hlt : k < n
    · obtain ⟨b, off, rfl, hb, hc⟩ := h.at_ k hlt
      have ck := hc k hlt
      clear hc
      by_cases he : L.g l k = t
      · have he' : (L.g l k == t) = true := by simpa using he
        have HE := Lib.hid he
        clear he
        go_wp2
        go_ret
        exact ⟨ret_bool (L.isIn_yes k (by have := HL.out; omega) HE.out).symm, rfl⟩
      · have he' : (L.g l k == t) = false := by simpa using he
        have HE := Lib.hid he
        clear he
        go_wp2
        go_round
        case rel => exact ⟨k + 1, by omega, by go_num, fun j hj => by
          rcases Nat.lt_or_ge j k with x | x
          · exact HN.out j x
          · obtain rfl : j = k := by omega
            exact HE.out⟩
        case measure => simp [intOf]; omega
    · go_wp2
      go_ret
      exact ⟨ret_bool (L.isIn_no (fun i hi => HN.out i (by have := HL.out; omega))).symm, rfl⟩
def okTB (t : Int) : Bool := inR t 0 3786479999
theorem time_spec (t : Int) (w : World) : Calls Try.prog 59 #[.int .i64 t] w fun e w' => e = .returned (.bool (inR t 0 3786479999)) ∧ w = w' := by
  go_enter Try.func59, Try.ntmps59
  go_wp2_with (first | (go_at_call 64; refine (inR_spec _ _ _ _).mono ?_; rintro e w' ⟨rfl, rfl⟩))
  go_ret
  exact ⟨rfl, rfl⟩
theorem ret2 {k : IntKind} {a b : Int} {c d : Bool} (h : a = b) (h' : c = d) : Ending.returned (.tuple #[.int k a, .bool c]) = .returned (.tuple #[.int k b, .bool d]) := by rw [h, h']
theorem less_any (x y : Int) (w : World) : Calls Try.prog 69 #[.int .i64 x, .int .i64 y] w fun e w' => e = .returned (.bool (decide (x < y))) ∧ w = w' := by
  go_enter Try.func69, Try.ntmps69
  go_wp2_with go_in
  go_ret
  exact ⟨rfl, rfl⟩
theorem bs_any (B n c : Nat) (a : Option Addr) (l : List Int) (t : Int) (w : World) (h : Lst B w a n l) (hv : L.vl l = true) :
    Calls Try.prog 58 #[.slice a n c, .int .i64 t] w fun e w' => e = .returned (.tuple #[.int .i64 (L.cnt l t), .bool (L.isIn l t)]) ∧ w = w' := by
  obtain ⟨hl, hn, _⟩ := id h
  have h8 := L.len8 hv
  have HL := Lib.hid hl
  have h8 : n ≤ 8 := by omega
  have HV := Lib.hid hv
  clear hl hv
  go_enter Try.func58, Try.ntmps58
  go_wp2
  go_loop [7, 8] (fun i j => ∃ p q : Nat, p ≤ q ∧ q ≤ n ∧ i = .int .i64 p ∧ j = .int .i64 q ∧ (∀ x, x < p → L.g l x < t) ∧ (∀ x, q ≤ x → x < n → t ≤ L.g l x)) (fun i j => (intOf j).toNat - (intOf i).toNat)
  case atStart => exact ⟨0, n, by omega, by omega, rfl, rfl, fun j hj => absurd hj (by omega), fun j h1 h2 => by omega⟩
  case round =>
    obtain ⟨p, q, hpq, hq, rfl, rfl, hlo, hhi⟩ := hrel
    have HA := Lib.hid hlo
    have HB := Lib.hid hhi
    clear hlo hhi
    by_cases hlt : p < q
    · obtain ⟨b, off, rfl, hb, hc⟩ := h.at_ p (by omega)
      have ck := hc ((p + q) / 2) (by omega)
      clear hc
      by_cases hg : L.g l ((p + q) / 2) < t
      · go_wp2_with (go_at_call 69; refine (less_any _ _ _).mono ?_; rintro e w' ⟨rfl, rfl⟩)
        go_round
        case rel => exact ⟨(p + q) / 2 + 1, q, by omega, hq, by go_num, rfl, fun x hx => by
          rcases Nat.lt_or_ge x ((p + q) / 2) with y | y
          · have := L.ascv HV.out y (by have := HL.out; omega); omega
          · obtain rfl : x = (p + q) / 2 := by omega
            exact hg, HB.out⟩
        case measure => simp [intOf]; omega
      · have hg' : decide (L.g l ((p + q) / 2) < t) = false := by simpa using hg
        go_wp2_with (go_at_call 69; refine (less_any _ _ _).mono ?_; rintro e w' ⟨rfl, rfl⟩)
        go_round
        case rel => exact ⟨p, (p + q) / 2, by omega, by omega, rfl, by go_num, HA.out, fun x h1 h2 => by
          rcases Nat.lt_or_ge ((p + q) / 2) x with y | y
          · have := L.ascv HV.out y (by have := HL.out; omega); omega
          · obtain rfl : x = (p + q) / 2 := by omega
            omega⟩
        case measure => simp [intOf]; omega
    · obtain rfl : q = p := by omega
      have hcut : L.Cut l t q := ⟨by have := HL.out; omega, HA.out, fun i h1 h2 => HB.out i h1 (by have := HL.out; omega)⟩
      have HC := Lib.hid hcut
      clear hcut
      by_cases hqn : q < n
      · obtain ⟨b, off, rfl, hb, hc⟩ := h.at_ q hqn
        have ck := hc q hqn
        clear hc
        have hqn' : (q : Int) < (n : Int) := by omega
        by_cases he : L.g l q = t
        · have he' : (L.g l q == t) = true := by simpa using he
          have HE := Lib.hid he
          clear he
          go_wp2
          go_ret2
          exact ⟨ret2 (by rw [HC.out.cnt]) (by rw [L.isIn_yes q (by have := HL.out; omega) HE.out]), rfl⟩
        · have he' : (L.g l q == t) = false := by simpa using he
          have HE := Lib.hid he
          clear he
          go_wp2_with go_in
          go_ret2
          exact ⟨ret2 (by rw [HC.out.cnt]) (by rw [L.isIn_cut HV.out HC.out, decide_eq_false (fun k => HE.out k.2)]), rfl⟩
      · have hqn' : decide ((q : Int) < (n : Int)) = false := by simp; omega
        go_wp2
        go_ret2
        exact ⟨ret2 (by rw [HC.out.cnt]) (by rw [L.isIn_cut HV.out HC.out, decide_eq_false (fun k => by have := HL.out; omega)]), rfl⟩
end Go.Proofs.Ytoomkafhmennoaa
