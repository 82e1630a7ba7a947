/-
  The generators of time stamps of a question (chapter 11): some list of numbers of moderate size, and nothing that was there has changed. Condition: the code has at most 1048576 bytes.
-/
import Derived.Test.YtoaldklkacmflaaTable
namespace Go.Proofs.Ytoaldklkacmflaa
open Go.RowKit
set_option linter.unusedVariables false
set_option maxRecDepth 100000
theorem offT_any (B r m : Nat) (w : World) (h : Rdr B w r m) (hm : m ≤ 1000) : Calls Try.prog 38 #[.pointer (some ⟨r, 0, none⟩)] w (Num B w r (m + 2) (-1000000) 1000000) := by
  go_enter Try.func38, Try.ntmps38
  go_wp2_with fail
  refine (pick_any B r _ _ _ h (by omega)).mono ?_
  rintro e w1 ⟨k1, rfl, a1, b1, st1⟩
  have c1 : k1 ≤ 250 := by omega
  clear b1
  go_wp2_with fail
  refine (one_any B r _ _ _ _ (-1000000) 1000000 _ (st1.rdr.alloc _ _) (by omega) (by omega) (by omega) (by have := st1.rdr.top; omega) ?_).mono ?_
  · exact made_cells _ _ _ _ _ _ rfl (by simp [Ints] <;> omega)
  rintro e w2 ⟨z2, rfl, x2, y2, bl2, rd2, fr2⟩
  have T := Lib.hid (And.intro ((st1.bel.alloc st1.rdr.le _).trans bl2) (And.intro rd2 ((st1.far.alloc _).trans fr2)))
  clear bl2 rd2 fr2 st1
  go_wp2
  go_ret
  exact ⟨z2, rfl, x2, y2, T.out⟩
theorem stampT_any (B r m : Nat) (w : World) (h : Rdr B w r m) (hm : m ≤ 100000) : Calls Try.prog 37 #[.pointer (some ⟨r, 0, none⟩)] w (Num B w r (m + 3) 0 1000000000000000) := by
  go_enter Try.func37, Try.ntmps37
  go_wp2_with fail
  refine (pick_any B r _ _ _ h (by omega)).mono ?_
  rintro e w1 ⟨k1, rfl, a1, b1, st1⟩
  have c1 : k1 ≤ 250 := by omega
  clear b1
  go_wp2_with fail
  refine (pick_any B r _ _ _ st1.rdr (by omega)).mono ?_
  rintro e w2 ⟨k2, rfl, a2, b2, st2⟩
  have c2 : k2 ≤ 250 := by omega
  clear b2
  go_wp2_with fail
  refine (one_any B r _ _ _ _ 0 1000000000000000 _ (st2.rdr.alloc _ _) (by omega) (by omega) (by omega) (by have := st2.rdr.top; omega) ?_).mono ?_
  · exact made_cells _ _ _ _ _ _ rfl (by simp [Ints] <;> omega)
  rintro e w3 ⟨z3, rfl, x3, y3, bl3, rd3, fr3⟩
  go_wp2
  go_ret
  exact ⟨z3, rfl, x3, y3, ((st1.bel.trans st2.bel).alloc st2.rdr.le _).trans bl3, rd3, ((st1.far.trans st2.far).alloc _).trans fr3⟩
theorem row_four {B r m : Nat} {w0 w : World} {x0 x1 x2 x3 : Int} (rd : Rdr B w r m) (far : Far w0 r w) (bel : Below B w0 w)
    (h0 : -1000000000000000 ≤ x0 ∧ x0 ≤ 1000000000000000) (h1 : -1000000000000000 ≤ x1 ∧ x1 ≤ 1000000000000000) (h2 : -1000000000000000 ≤ x2 ∧ x2 ≤ 1000000000000000) (h3 : -1000000000000000 ≤ x3 ∧ x3 ≤ 1000000000000000) :
    Rw B w0 (w.alloc (.cells #[.int .i64 x0, .int .i64 x1, .int .i64 x2, .int .i64 x3] 3)) r m w.heap.size (.slice (some ⟨w.heap.size, 0, none⟩) 4 4) [x0, x1, x2, x3] :=
  ⟨rd.alloc _ _, far.alloc _, bel.alloc rd.le _, ⟨rfl, .inr ⟨w.heap.size, 4, _, rfl, Nat.le_refl _, heap_alloc_new w _, by simp, by unfold maxLen; omega, rfl, rfl⟩⟩, rd.top, by simp, ((((Small.nil.snoc h0).snoc h1).snoc h2).snoc h3 : Small ([] ++ [x0] ++ [x1] ++ [x2] ++ [x3]))⟩
set_option maxHeartbeats 1000000 in
theorem someStamps_any (B r m : Nat) (w : World) (h : Rdr B w r m) (hm : m ≤ 500) : Calls Try.prog 26 #[.pointer (some ⟨r, 0, none⟩)] w (Tab 5 B w r (m + 40)) := by
  go_enter Try.func26, Try.ntmps26
  go_wp2_with fail
  refine (stampT_any B r _ _ h (by omega)).mono ?_
  rintro e w1 ⟨z1, rfl, x1, y1, bl1, rd1, fr1⟩
  have hq : z1.tdiv 2 = z1 / 2 := Int.tdiv_eq_ediv_of_nonneg x1
  go_wp2_with fail
  refine (offT_any B r _ _ rd1 (by omega)).mono ?_
  rintro e w2 ⟨z2, rfl, x2, y2, bl2, rd2, fr2⟩
  have B2 := bl1.trans bl2
  have F2 := fr1.trans fr2
  clear bl1 bl2 fr1 fr2 rd1
  go_wp2_with fail
  refine (pick_any B r _ _ _ rd2 (by omega)).mono ?_
  rintro e w3 ⟨k3, rfl, a3, b3, st3⟩
  have c3 : k3 ≤ 250 := by omega
  have B3 := B2.trans st3.bel
  have F3 := F2.trans st3.far
  have rd3 := st3.rdr
  clear b3 st3 B2 F2 rd2
  go_wp2_with fail
  refine (pick_any B r _ _ _ rd3 (by omega)).mono ?_
  rintro e w4 ⟨k4, rfl, a4, b4, st4⟩
  have c4 : k4 ≤ 250 := by omega
  have B4 := B3.trans st4.bel
  have F4 := F3.trans st4.far
  have rd4 := st4.rdr
  clear b4 st4 B3 F3 rd3
  go_wp2_with fail
  refine (pick_any B r _ _ _ rd4 (by omega)).mono ?_
  rintro e w5 ⟨k5, rfl, a5, b5, st5⟩
  have c5 : k5 ≤ 250 := by omega
  have B5 := B4.trans st5.bel
  have F5 := F4.trans st5.far
  have rd5 := st5.rdr
  clear b5 st5 B4 F4 rd4
  generalize ht : z1 / 2 = t at *
  have ht0 : 0 ≤ t ∧ t ≤ 500000000000000 := by omega
  clear ht x1 y1
  go_wp2_with fail
  all_goals
    refine (spoil_any B r _ _ _ _ _ _ _ (row_four rd5 F5 B5 (by omega) (by omega) (by omega) (by omega)) (by simp) (by simp) (by omega) (by omega)).mono ?_
    rintro e w6 T
    have HT := Lib.hid (T.mono (k' := 5) (m' := m + 40) (by simp) (by omega))
    obtain ⟨a6, n6, c6, l6, rfl, _⟩ := HT.out
    clear T
    go_wp2
    go_ret
    exact HT.out
/-- Some list, wherever it lies. -/
def NumsOnly (k : Nat) (w : World) (e : Ending) (w' : World) : Prop := ∃ a n c l, e = .returned (.slice a n c) ∧ Lst w'.heap.size w' a n l ∧ n ≤ k ∧ n ≤ c ∧ c ≤ maxLen ∧ Small l ∧ Below w.heap.size w w'
theorem DrawOffsetOf_any (w : World) (a : Option Addr) (len cap : Nat) (h : Code w a len) (hcap : len ≤ cap) : Calls Try.prog 12 #[.slice a len cap] w (NumsOnly 5 w) := by
  go_enter Try.func12, Try.ntmps12
  go_wp2_with fail
  refine (newReader_any w a len cap h hcap).mono ?_
  rintro e w0 ⟨rfl, bl0, rd0⟩
  go_wp2_with fail
  refine (someStamps_any _ _ _ _ rd0 (by omega)).mono ?_
  rintro e w1 ⟨a1, n1, c1, l1, rfl, hL, hk, hc, hcm, hsm, rd, bl, fr, _⟩
  have HT := Lib.hid (And.intro hL (And.intro hsm (bl0.trans bl)))
  clear hL hsm bl bl0 rd fr rd0
  go_wp2
  go_ret
  exact ⟨_, _, _, _, rfl, HT.out.1, hk, hc, hcm, HT.out.2.1, HT.out.2.2⟩
theorem DrawDelayOf_any (w : World) (a : Option Addr) (len cap : Nat) (h : Code w a len) (hcap : len ≤ cap) : Calls Try.prog 16 #[.slice a len cap] w (NumsOnly 5 w) := by
  go_enter Try.func16, Try.ntmps16
  go_wp2_with fail
  refine (newReader_any w a len cap h hcap).mono ?_
  rintro e w0 ⟨rfl, bl0, rd0⟩
  go_wp2_with fail
  refine (someStamps_any _ _ _ _ rd0 (by omega)).mono ?_
  rintro e w1 ⟨a1, n1, c1, l1, rfl, hL, hk, hc, hcm, hsm, rd, bl, fr, _⟩
  have HT := Lib.hid (And.intro hL (And.intro hsm (bl0.trans bl)))
  clear hL hsm bl bl0 rd fr rd0
  go_wp2
  go_ret
  exact ⟨_, _, _, _, rfl, HT.out.1, hk, hc, hcm, HT.out.2.1, HT.out.2.2⟩
theorem DrawSpanOf_any (w : World) (a : Option Addr) (len cap : Nat) (h : Code w a len) (hcap : len ≤ cap) : Calls Try.prog 18 #[.slice a len cap] w (NumsOnly 5 w) := by
  go_enter Try.func18, Try.ntmps18
  go_wp2_with fail
  refine (newReader_any w a len cap h hcap).mono ?_
  rintro e w0 ⟨rfl, bl0, rd0⟩
  go_wp2_with fail
  refine (someStamps_any _ _ _ _ rd0 (by omega)).mono ?_
  rintro e w1 ⟨a1, n1, c1, l1, rfl, hL, hk, hc, hcm, hsm, rd, bl, fr, _⟩
  have HT := Lib.hid (And.intro hL (And.intro hsm (bl0.trans bl)))
  clear hL hsm bl bl0 rd fr rd0
  go_wp2
  go_ret
  exact ⟨_, _, _, _, rfl, HT.out.1, hk, hc, hcm, HT.out.2.1, HT.out.2.2⟩
end Go.Proofs.Ytoaldklkacmflaa
