/-
  How the program compares two ends: cmp.Compare, cmp.Or, and its own closure.
-/
import Derived.Test.YtlehpfcealohoaaCal
import Derived.Test.YtlehpfcealohoaaEMath
import Derived.Test.YtlehpfcealohoaaLst
import Derived.Deep.RegionHeld3
import Derived.Shelf.GgSortFunc.InsertionK
namespace Go.Proofs.Ytlehpfcealohoaa
open Go.RowKit
set_option linter.unusedVariables false
def cmp3 (x y : Int) : Int := if x < y then -1 else if y < x then 1 else 0
def or2 (p q : Int) : Int := if p = 0 then q else p
def cf (x y : Int × Int) : Int := or2 (cmp3 x.1 y.1) (cmp3 x.2 y.2)
theorem cf_lt (x y : Int × Int) : decide (cf x y < 0) = V.lt2 x y := by
  unfold cf or2 cmp3 V.lt2
  rw [decide_eq_decide]
  repeat' split
  all_goals omega
theorem nan_any (x : Int) (w : World) : Calls Try.prog 46 #[.int .i64 x] w fun e w' => e = .returned (.bool false) ∧ w = w' := by
  go_enter Try.func46, Try.ntmps46
  go_wp2
  go_ret
  exact ⟨by simp, rfl⟩
theorem cmp_any (x y : Int) (w : World) : Calls Try.prog 42 #[.int .i64 x, .int .i64 y] w fun e w' => e = .returned (.int .i64 (cmp3 x y)) ∧ w = w' := by
  rcases Int.lt_trichotomy x y with h | h | h
  · rw [show cmp3 x y = -1 from if_pos h]
    go_enter Try.func42, Try.ntmps42
    go_wp2_with (go_at_call 46; refine (nan_any _ _).mono ?_; rintro e w' ⟨rfl, rfl⟩)
    go_ret
    exact ⟨rfl, rfl⟩
  · subst h
    rw [show cmp3 x x = 0 from by unfold cmp3; rw [if_neg (by omega), if_neg (by omega)]]
    have h1 : decide (x < x) = false := by simp
    go_enter Try.func42, Try.ntmps42
    go_wp2_with (go_at_call 46; refine (nan_any _ _).mono ?_; rintro e w' ⟨rfl, rfl⟩)
    go_ret
    exact ⟨rfl, rfl⟩
  · rw [show cmp3 x y = 1 from by unfold cmp3; rw [if_neg (by omega), if_pos h]]
    have h1 : ¬ x < y := by omega
    go_enter Try.func42, Try.ntmps42
    go_wp2_with (go_at_call 46; refine (nan_any _ _).mono ?_; rintro e w' ⟨rfl, rfl⟩)
    go_ret
    exact ⟨rfl, rfl⟩
theorem or_any (b off c : Nat) (p q : Int) (w : World) (h0 : w.cell? ⟨b, off, none⟩ = some (.int .i64 p)) (h1 : w.cell? ⟨b, off + 1, none⟩ = some (.int .i64 q)) : Calls Try.prog 41 #[.slice (some ⟨b, off, none⟩) 2 c] w fun e w' => e = .returned (.int .i64 (or2 p q)) ∧ w = w' := by
  go_enter Try.func41, Try.ntmps41
  go_wp2
  go_loop [8] (fun i => ∃ k : Nat, k ≤ 2 ∧ i = .int .i64 k ∧ (1 ≤ k → p = 0) ∧ (2 ≤ k → q = 0)) (fun i => 2 - (intOf i).toNat)
  case atStart => exact ⟨0, Nat.zero_le _, rfl, by omega, by omega⟩
  case round =>
    obtain ⟨k, hk, rfl, hp, hq⟩ := hrel
    have HP := Lib.hid hp
    have HQ := Lib.hid hq
    clear hp hq
    rcases Nat.lt_or_ge k 1 with h | h
    · obtain rfl : k = 0 := by omega
      by_cases e : p = 0
      · have e' : (p != 0) = false := by simp [e]
        have HE := Lib.hid e
        clear e
        go_wp2
        go_round
        case rel => exact ⟨1, by omega, by go_num, fun _ => HE.out, fun h => by omega⟩
        case measure => simp [intOf]
      · have e' : (p != 0) = true := by simp [e]
        have HE := Lib.hid (show or2 p q = p from if_neg e)
        clear e
        go_wp2
        go_ret
        exact ⟨ret_int HE.out.symm, rfl⟩
    · rcases Nat.lt_or_ge k 2 with h' | h'
      · obtain rfl : k = 1 := by omega
        have HE := Lib.hid (show or2 p q = q from if_pos (HP.out (by omega)))
        by_cases e : q = 0
        · have e' : (q != 0) = false := by simp [e]
          have HF := Lib.hid e
          clear e
          go_wp2
          go_round
          case rel => exact ⟨2, by omega, by go_num, fun _ => HP.out (by omega), fun _ => HF.out⟩
          case measure => simp [intOf]
        · have e' : (q != 0) = true := by simp [e]
          clear e
          go_wp2
          go_ret
          exact ⟨ret_int HE.out.symm, rfl⟩
      · obtain rfl : k = 2 := by omega
        have HE := Lib.hid (show or2 p q = 0 from (if_pos (HP.out (by omega))).trans (HQ.out (by omega)))
        go_wp2
        go_ret
        exact ⟨ret_int HE.out.symm, rfl⟩
theorem grow3 (w : World) (a b c : Obj) : (((w.alloc a).alloc b).alloc c).drew = Sort.grow (w.drewN 1) #[a, b, c] := by
  rw [Sort.alloc_eq_grow, Sort.alloc_eq_grow, Sort.alloc_eq_grow, Sort.grow_grow, Sort.grow_grow]; rfl
set_option maxHeartbeats 2000000 in
theorem less_any (x y : Int × Int) (W : World) : Calls Try.prog 40 #[.agg #[.int .i64 x.1, .int .i64 x.2], .agg #[.int .i64 y.1, .int .i64 y.2]] W fun e w' => e = .returned (.int .i64 (cf x y)) ∧ ∃ q os', w' = Sort.grow (W.drewN q) os' := by
  obtain ⟨x1, x2⟩ := x
  obtain ⟨y1, y2⟩ := y
  unfold cf
  simp only
  go_enter Try.func40, Try.ntmps40
  go_wp2
  go_region_held3 (fun w' => w'.cell? ⟨W.heap.size, 0, none⟩ = some (.int .i64 x1) ∧ w'.cell? ⟨W.heap.size, 1, none⟩ = some (.int .i64 x2) ∧ w'.cell? ⟨W.heap.size + 1, 0, none⟩ = some (.int .i64 y1) ∧ w'.cell? ⟨W.heap.size + 1, 1, none⟩ = some (.int .i64 y2)) (go_keep)
    (first | (go_at_call 42; refine (cmp_any _ _ _).mono ?_; rintro e w' ⟨rfl, rfl⟩) | (go_at_call 41; refine (or_any _ _ _ (cmp3 x1 y1) (cmp3 x2 y2) _ (by simp [go_sem]) (by simp [go_sem])).mono ?_; rintro e w' ⟨rfl, rfl⟩))
  all_goals go_wp2
  all_goals go_ret
  all_goals exact ⟨rfl, 1, _, grow3 _ _ _ _⟩
end Go.Proofs.Ytlehpfcealohoaa
