/-
  Offsets and delays (chapter 11): the program's functions over an exchange.
-/
import Derived.Test.YtigaifnoicnafaaOffset
namespace Go.Proofs.Ytigaifnoicnafaa
open Go.RowKit
set_option linter.unusedVariables false
set_option maxRecDepth 100000
theorem since_impl (x y : Int) (hx : 0 ≤ x ∧ x ≤ 200000000999999) (hy : 0 ≤ y ∧ y ≤ 200000000999999) (w : World) : Calls Try.prog 46 #[.int .i64 x, .int .i64 y] w fun e w' => e = .returned (.int .i64 (x - y)) ∧ w = w' := by
  go_enter Try.func46, Try.ntmps46
  go_wp2
  go_ret
  exact ⟨rfl, rfl⟩
set_option maxHeartbeats 1000000 in
theorem off4_impl (x0 x1 x2 x3 : Int) (h0 : 0 ≤ x0 ∧ x0 ≤ 200000000999999) (h1 : 0 ≤ x1 ∧ x1 ≤ 200000000999999) (h2 : 0 ≤ x2 ∧ x2 ≤ 200000000999999) (h3 : 0 ≤ x3 ∧ x3 ≤ 200000000999999) (w : World) :
    Calls Try.prog 43 #[.agg #[.int .i64 x0, .int .i64 x1, .int .i64 x2, .int .i64 x3]] w fun e w' => e = .returned (.int .i64 (O.of4 x0 x1 x2 x3)) ∧ Below w.heap.size w w' := by
  have e1 : IntKind.i64.wrap (x1 - x0 + (x2 - x3)) = x1 - x0 + (x2 - x3) := IntWalk.i64_in _ (by omega)
  have K1 := Lib.hid (since_impl x1 x0 h1 h0)
  have K2 := Lib.hid (since_impl x2 x3 h2 h3)
  have K3 := Lib.hid (fdiv_impl (x1 - x0 + (x2 - x3)) 2 (by omega) (by omega))
  unfold O.of4
  have hb := (Below.refl w.heap.size w).alloc (Nat.le_refl _) (.cells #[.int .i64 x0, .int .i64 x1, .int .i64 x2, .int .i64 x3] 58)
  have HB := Lib.hid hb
  clear hb
  go_enter Try.func43, Try.ntmps43
  go_wp2
  go_quiet ((first | (go_at_call 46; first | exact qsL K1.out | exact qsL K2.out) | (go_at_call 45; exact qsL K3.out)))
  go_wp2
  go_ret
  exact ⟨rfl, below_drewN HB.out _⟩
set_option maxHeartbeats 1000000 in
theorem del4_impl (x0 x1 x2 x3 : Int) (h0 : 0 ≤ x0 ∧ x0 ≤ 200000000999999) (h1 : 0 ≤ x1 ∧ x1 ≤ 200000000999999) (h2 : 0 ≤ x2 ∧ x2 ≤ 200000000999999) (h3 : 0 ≤ x3 ∧ x3 ≤ 200000000999999) (w : World) :
    Calls Try.prog 44 #[.agg #[.int .i64 x0, .int .i64 x1, .int .i64 x2, .int .i64 x3]] w fun e w' => e = .returned (.int .i64 (O.de4 x0 x1 x2 x3)) ∧ Below w.heap.size w w' := by
  have e1 : IntKind.i64.wrap (x3 - x0 - (x2 - x1)) = x3 - x0 - (x2 - x1) := IntWalk.i64_in _ (by omega)
  have K1 := Lib.hid (since_impl x3 x0 h3 h0)
  have K2 := Lib.hid (since_impl x2 x1 h2 h1)
  unfold O.de4
  have hb := (Below.refl w.heap.size w).alloc (Nat.le_refl _) (.cells #[.int .i64 x0, .int .i64 x1, .int .i64 x2, .int .i64 x3] 58)
  have HB := Lib.hid hb
  clear hb
  go_enter Try.func44, Try.ntmps44
  go_wp2
  go_quiet ((go_at_call 46; first | exact qsL K1.out | exact qsL K2.out))
  all_goals go_wp2
  all_goals
    go_ret
    exact ⟨ret_int (by omega), below_drewN HB.out _⟩
set_option maxHeartbeats 1000000 in
theorem OF_impl (B n c : Nat) (a : Option Addr) (l : List Int) (w : World) (h : Lst B w a n l) (hB : B ≤ w.heap.size) : Calls Try.prog 23 #[.slice a n c] w fun e w' => e = .returned (.tuple #[.int .i64 (O.ofs l), .bool (O.vo l)]) ∧ Below w.heap.size w w' := by
  have k1 := ex_impl B n c a l w h hB
  rcases hv : O.vo l with _ | _
  · rw [(O.o_no hv).1]
    simp only [hv, O.ex_no hv] at k1
    have K1 := Lib.hid k1
    clear hv k1 h
    go_enter Try.func23, Try.ntmps23
    go_wp2_with fail
    refine (K1.out).mono ?_
    rintro e w1 ⟨rfl, b1⟩
    have hb := b1.alloc b1.size (.cells #[.int .i64 0, .int .i64 0, .int .i64 0, .int .i64 0] 58)
    have HB := Lib.hid hb
    clear b1 hb
    go_wp2
    exact bodyPost_ret (v := .tuple #[.int .i64 0, .bool false]) (by simp [results, Try.results23, go_sem]) rfl ⟨rfl, HB.out⟩
  · obtain ⟨hl, h0, h1, h2, h3⟩ := O.vo_at hv
    rw [(O.o_yes hv).1]
    simp only [hv, O.ex_yes hv] at k1
    unfold O.of
    have K1 := Lib.hid k1
    clear hv k1 h hl
    generalize L.g l 0 = x0 at *
    generalize L.g l 1 = x1 at *
    generalize L.g l 2 = x2 at *
    generalize L.g l 3 = x3 at *
    have K2 := Lib.hid (off4_impl x0 x1 x2 x3 h0 h1 h2 h3)
    clear h0 h1 h2 h3
    go_enter Try.func23, Try.ntmps23
    go_wp2_with fail
    refine (K1.out).mono ?_
    rintro e w1 ⟨rfl, b1⟩
    have hb := b1.alloc b1.size (.cells #[.int .i64 x0, .int .i64 x1, .int .i64 x2, .int .i64 x3] 58)
    clear b1
    go_wp2_with fail
    refine (K2.out _).mono ?_
    rintro e w2 ⟨rfl, b2⟩
    have HB := Lib.hid (hb.trans (b2.mono hb.size))
    clear hb b2
    go_wp2
    exact bodyPost_ret (v := .tuple #[.int .i64 (O.of4 x0 x1 x2 x3), .bool true]) (by simp [results, Try.results23, go_sem]) rfl ⟨rfl, HB.out⟩
set_option maxHeartbeats 1000000 in
theorem DE_impl (B n c : Nat) (a : Option Addr) (l : List Int) (w : World) (h : Lst B w a n l) (hB : B ≤ w.heap.size) : Calls Try.prog 24 #[.slice a n c] w fun e w' => e = .returned (.int .i64 (O.del l)) ∧ Below w.heap.size w w' := by
  have k1 := ex_impl B n c a l w h hB
  rcases hv : O.vo l with _ | _
  · rw [(O.o_no hv).2]
    simp only [hv, O.ex_no hv] at k1
    have K1 := Lib.hid k1
    clear hv k1 h
    go_enter Try.func24, Try.ntmps24
    go_wp2_with fail
    refine (K1.out).mono ?_
    rintro e w1 ⟨rfl, b1⟩
    have hb := b1.alloc b1.size (.cells #[.int .i64 0, .int .i64 0, .int .i64 0, .int .i64 0] 58)
    have HB := Lib.hid hb
    clear b1 hb
    go_wp2
    go_ret
    exact ⟨rfl, HB.out⟩
  · obtain ⟨hl, h0, h1, h2, h3⟩ := O.vo_at hv
    rw [(O.o_yes hv).2]
    simp only [hv, O.ex_yes hv] at k1
    unfold O.de
    have K1 := Lib.hid k1
    clear hv k1 h hl
    generalize L.g l 0 = x0 at *
    generalize L.g l 1 = x1 at *
    generalize L.g l 2 = x2 at *
    generalize L.g l 3 = x3 at *
    have K2 := Lib.hid (del4_impl x0 x1 x2 x3 h0 h1 h2 h3)
    clear h0 h1 h2 h3
    go_enter Try.func24, Try.ntmps24
    go_wp2_with fail
    refine (K1.out).mono ?_
    rintro e w1 ⟨rfl, b1⟩
    have hb := b1.alloc b1.size (.cells #[.int .i64 x0, .int .i64 x1, .int .i64 x2, .int .i64 x3] 58)
    clear b1
    go_wp2_with fail
    refine (K2.out _).mono ?_
    rintro e w2 ⟨rfl, b2⟩
    have HB := Lib.hid (hb.trans (b2.mono hb.size))
    clear hb b2
    go_wp2
    go_ret
    exact ⟨rfl, HB.out⟩
end Go.Proofs.Ytigaifnoicnafaa
