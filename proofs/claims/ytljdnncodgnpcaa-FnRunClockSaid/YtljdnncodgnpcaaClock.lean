/-
  Clocks (chapter 7): rounding down, limits, what is valid, the offset at a time; the program's and the model's functions.
-/
import Derived.Test.YtljdnncodgnpcaaLst
import Derived.Test.YtljdnncodgnpcaaKMath
import Derived.Deep.RegionHeld3
import Derived.Deep.RegionWith
import Derived.Below
namespace Go.Proofs.Ytljdnncodgnpcaa
open Go.RowKit
set_option linter.unusedVariables false
set_option maxRecDepth 100000
/-- Three numbers in a block of their own. -/
structure C3 (w : World) (D : Nat) (x y z : Int) : Prop where
  c0 : w.cell? ⟨D, 0, none⟩ = some (.int .i64 x)
  c1 : w.cell? ⟨D, 1, none⟩ = some (.int .i64 y)
  c2 : w.cell? ⟨D, 2, none⟩ = some (.int .i64 z)
  lt : D < w.heap.size
theorem C3.b {w w' : World} {D : Nat} {x y z : Int} (h : C3 w D x y z) (hb : Below w.heap.size w w') : C3 w' D x y z := ⟨(hb.cell (p := ⟨D, 0, none⟩) h.lt).trans h.c0, (hb.cell (p := ⟨D, 1, none⟩) h.lt).trans h.c1, (hb.cell (p := ⟨D, 2, none⟩) h.lt).trans h.c2, Nat.lt_of_lt_of_le h.lt hb.size⟩
theorem C3.al {w : World} {D : Nat} {x y z : Int} (h : C3 w D x y z) (o : Obj) : C3 (w.alloc o) D x y z := h.b ((Below.refl _ _).alloc (Nat.le_refl _) o)
theorem C3.dr {w : World} {D : Nat} {x y z : Int} (h : C3 w D x y z) (k : Nat) : C3 (w.drewN k) D x y z := ⟨h.c0, h.c1, h.c2, h.lt⟩
theorem C3.new (w : World) (x y z : Int) (t : TypeId) : C3 (w.alloc (.cells #[.int .i64 x, .int .i64 y, .int .i64 z] t)) w.heap.size x y z := ⟨by simp, by simp, by simp, by simp⟩
theorem keepC {w0 w1 w2 : World} {D : Nat} {x y z : Int} (b : Below w1.heap.size w1 w2) (h : Below w0.heap.size w0 w1 ∧ D < w1.heap.size ∧ w1.cell? ⟨D, 0, none⟩ = some (.int .i64 x) ∧ w1.cell? ⟨D, 1, none⟩ = some (.int .i64 y) ∧ w1.cell? ⟨D, 2, none⟩ = some (.int .i64 z)) :
    Below w0.heap.size w0 w2 ∧ D < w2.heap.size ∧ w2.cell? ⟨D, 0, none⟩ = some (.int .i64 x) ∧ w2.cell? ⟨D, 1, none⟩ = some (.int .i64 y) ∧ w2.cell? ⟨D, 2, none⟩ = some (.int .i64 z) :=
  ⟨h.1.trans (b.mono h.1.size), Nat.lt_of_lt_of_le h.2.1 b.size, (b.cell (p := ⟨D, 0, none⟩) h.2.1).trans h.2.2.1, (b.cell (p := ⟨D, 1, none⟩) h.2.1).trans h.2.2.2.1, (b.cell (p := ⟨D, 2, none⟩) h.2.1).trans h.2.2.2.2⟩
theorem fdiv_impl (n d : Int) (hd : 1 ≤ d ∧ d ≤ 1000000) (hn : -1000000000000000 ≤ n ∧ n ≤ 1000000000000000) (w : World) : Calls Try.prog 72 #[.int .i64 n, .int .i64 d] w fun e w' => e = .returned (.int .i64 (n / d)) ∧ w = w' := by
  have hb := K.td_bd n d hd.1 (b := 1000000000000000) hn
  have hz : ¬ d = 0 := by omega
  by_cases h : n.tmod d < 0
  · rw [← K.fd_neg n d hd.1 h]
    go_enter Try.func72, Try.ntmps72
    go_wp2
    go_ret
    exact ⟨rfl, rfl⟩
  · rw [← K.fd_nn n d hd.1 h]
    go_enter Try.func72, Try.ntmps72
    go_wp2
    go_ret
    exact ⟨rfl, rfl⟩
theorem fdiv_spec (n d : Int) (hd : 1 ≤ d ∧ d ≤ 1000000) (hn : -1000000000000000 ≤ n ∧ n ≤ 1000000000000000) (w : World) : Calls Try.prog 71 #[.int .i64 n, .int .i64 d] w fun e w' => e = .returned (.int .i64 (n / d)) ∧ w = w' := by
  have hb := K.td_bd n d hd.1 (b := 1000000000000000) hn
  have hz : ¬ d = 0 := by omega
  by_cases h : n.tmod d < 0
  · rw [← K.fd_neg n d hd.1 h]
    go_enter Try.func71, Try.ntmps71
    go_wp2
    go_ret
    exact ⟨rfl, rfl⟩
  · rw [← K.fd_nn n d hd.1 h]
    go_enter Try.func71, Try.ntmps71
    go_wp2
    go_ret
    exact ⟨rfl, rfl⟩
theorem lim_impl (n m : Int) (hm : 0 ≤ m ∧ m ≤ 1000000000) (w : World) : Calls Try.prog 73 #[.int .i64 n, .int .i64 m] w fun e w' => e = .returned (.int .i64 (K.lim n m)) ∧ w = w' := by
  go_enter Try.func73, Try.ntmps73
  go_wp2
  all_goals
    go_ret
    exact ⟨ret_int (by unfold K.lim; omega), rfl⟩
theorem lim_spec (n m : Int) (hm : 0 ≤ m ∧ m ≤ 1000000000) (w : World) : Calls Try.prog 70 #[.int .i64 n, .int .i64 m] w fun e w' => e = .returned (.int .i64 (K.lim n m)) ∧ w = w' := by
  go_enter Try.func70, Try.ntmps70
  go_wp2
  all_goals
    go_ret
    exact ⟨ret_int (by unfold K.lim; omega), rfl⟩
theorem vc_impl (o r a : Int) (w : World) : Calls Try.prog 20 #[.agg #[.int .i64 o, .int .i64 r, .int .i64 a]] w fun e w' => e = .returned (.bool (K.vc o r a)) ∧ Below w.heap.size w w' := by
  rcases inR_cases o (-1000000) 1000000 with ⟨a0, a1⟩ | ⟨a0, a1⟩ <;> rcases inR_cases r (-500000) 500000 with ⟨b0, b1⟩ | ⟨b0, b1⟩ <;> rcases inR_cases a 0 3786479999 with ⟨c0, c1⟩ | ⟨c0, c1⟩
  all_goals
    have HV := Lib.hid (show K.vc o r a = _ by first | exact K.vc_yes ⟨a1, b1, c1⟩ | exact K.vc_no (fun h => a1 h.1) | exact K.vc_no (fun h => b1 h.2.1) | exact K.vc_no (fun h => c1 h.2.2))
    clear a1 b1 c1
    go_enter Try.func20, Try.ntmps20
    go_wp2_with (go_at_call 53; refine (inR_impl _ _ _ _).mono ?_; rintro e w' ⟨rfl, rfl⟩)
    go_ret
    exact ⟨ret_bool HV.out.symm, (Below.refl _ _).alloc (Nat.le_refl _) _⟩
theorem vc_spec0 (o r a : Int) (w : World) : Calls Try.prog 50 #[.agg #[.int .i64 o, .int .i64 r, .int .i64 a]] w fun e w' => e = .returned (.bool (K.vc o r a)) ∧ Below w.heap.size w w' := by
  rcases inR_cases o (-1000000) 1000000 with ⟨a0, a1⟩ | ⟨a0, a1⟩ <;> rcases inR_cases r (-500000) 500000 with ⟨b0, b1⟩ | ⟨b0, b1⟩ <;> rcases inR_cases a 0 3786479999 with ⟨c0, c1⟩ | ⟨c0, c1⟩
  all_goals
    have HV := Lib.hid (show K.vc o r a = _ by first | exact K.vc_yes ⟨a1, b1, c1⟩ | exact K.vc_no (fun h => a1 h.1) | exact K.vc_no (fun h => b1 h.2.1) | exact K.vc_no (fun h => c1 h.2.2))
    clear a1 b1 c1
    go_enter Try.func50, Try.ntmps50
    go_wp2_with (go_at_call 66; refine (inR_spec _ _ _ _).mono ?_; rintro e w' ⟨rfl, rfl⟩)
    go_ret
    exact ⟨ret_bool HV.out.symm, (Below.refl _ _).alloc (Nat.le_refl _) _⟩
theorem last_impl (o r a : Int) (ha : 0 ≤ a ∧ a ≤ 3786479999) (w : World) : Calls Try.prog 54 #[.agg #[.int .i64 o, .int .i64 r, .int .i64 a]] w fun e w' => e = .returned (.int .i64 (K.last a)) ∧ Below w.heap.size w w' := by
  go_enter Try.func54, Try.ntmps54
  go_wp2
  all_goals
    go_ret
    exact ⟨ret_int (by unfold K.last; omega), (Below.refl _ _).alloc (Nat.le_refl _) _⟩
end Go.Proofs.Ytljdnncodgnpcaa
