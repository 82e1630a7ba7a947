/-
  What the generators of sentences return: some text of moderate length, and nothing that was there has changed. Condition: the code has at most 1048576 bytes.
-/
import Derived.Test.YtpfdjmffgbbmdaaGreatDoorDrawS
namespace Go.Proofs.YtpfdjmffgbbmdaaGreatDoor
open Go.RowKit
set_option linter.unusedVariables false
set_option maxRecDepth 100000
theorem Far.below {w w' : World} {r : Nat} (h : Below w.heap.size w w') : Far w r w' := ⟨h.size, fun b hb _ => h.block b hb⟩
set_option maxRecDepth 100000 in
set_option maxHeartbeats 4000000 in
theorem mutate_any (B r m : Nat) (s : ByteArray) (w : World) (h : Rdr B w r m) (hm : m ≤ 100000) (hs : s.size ≤ 5000) : Calls Tryz.prog 22 #[.pointer (some ⟨r, 0, none⟩), .string s] w (DrawnS 5010 B w r (m + 4)) := by
  go_enter Tryz.func22, Tryz.ntmps22
  go_wp2_with fail
  refine (pick_any B r _ _ _ h (by omega)).mono ?_
  rintro e w1 ⟨k1, rfl, a1, b1, st1⟩
  obtain ⟨j, rfl⟩ := Int.eq_ofNat_of_zero_le a1
  have hj : j ≤ s.size := by omega
  clear b1
  go_wp2_with fail
  refine (pick_any B r _ _ _ st1.rdr (by omega)).mono ?_
  rintro e w2 ⟨k2, rfl, a2, b2, st2⟩
  have bb := st1.bel.trans st2.bel
  have ff := st1.far.trans st2.far
  have rd := st2.rdr
  have hrt := rd.top
  clear b2 st1 st2
  have hsl1 : ∀ W : World, (Instr.slice 9 (.string s) none (some (.int .i64 (j : Int))) none).run Tryz.prog W = .ok (.string (s.extract 0 j)) W := fun W => run_slice_string_h (P := Tryz.prog) W 9 s Tryz.underlying9 .i64 (j : Int) (by omega) (by omega)
  have hp : (s.extract 0 j).size ≤ 5000 := by rw [ByteArray.size_extract]; omega
  by_cases h0 : k2 = 0
  · subst h0
    by_cases hlt : j < s.size
    · have hlt' : (j : Int) < (s.size : Int) := by omega
      have hsl2 : ∀ W : World, (Instr.slice 9 (.string s) (some (.int .i64 ((j : Int) + 1))) none none).run Tryz.prog W = .ok (.string (s.extract (j + 1) s.size)) W := fun W => by
        have h := run_slice_string_l (P := Tryz.prog) W 9 s Tryz.underlying9 .i64 ((j : Int) + 1) (by omega) (by omega)
        rw [show ((j : Int) + 1).toNat = j + 1 from by omega] at h
        exact h
      have hq : (s.extract (j + 1) s.size).size ≤ 5000 := by rw [ByteArray.size_extract]; omega
      have hpq : (s.extract 0 j).size + (s.extract (j + 1) s.size).size ≤ 5000 := by rw [ByteArray.size_extract, ByteArray.size_extract]; omega
      generalize s.extract 0 j = p at *
      generalize s.extract (j + 1) s.size = q at *
      go_wp2
      have ew := IntWalk.i64_in ((j : Int) + 1) (by omega)
      go_region_with ((go_at_call 21; (with_reducible refine (of_any B r (m + 2) _ _ _ 1 _ ?_ (by omega) (by omega) (by omega) ?_ ?_).mono ?_); (first | exact (rd.alloc _ _).drew | exact rd.drew.alloc _ _); (first | (simp; omega) | omega); (first | exact made_strs _ _ _ _ _ rfl (by simp [Strs, ByteArray.size])); rintro e w3 ⟨t, rfl, ht, bl3, rd3, fr3⟩; have n1 : ¬ 9223372036854775807 < p.size + t.size := (by omega); have n2 : ¬ 9223372036854775807 < p.size + t.size + q.size := (by omega)))
      all_goals go_wp2
      all_goals go_ret
      all_goals have hfd : ∀ (W : World), Far W r W.drew := fun W => ⟨Nat.le_refl _, fun _ _ _ => rfl⟩
      all_goals refine ⟨p ++ t ++ q, rfl, by rw [Go.ByteArray.size_append', Go.ByteArray.size_append']; omega, ?_, rd3.mono (by omega), ?_⟩
      all_goals (first
        | exact ((bb.alloc rd.le _).drew).trans bl3
        | exact (bb.drew.alloc rd.le _).trans bl3
        | exact ((ff.alloc _).trans (hfd _)).trans fr3
        | exact ((ff.trans (hfd _)).alloc _).trans fr3)
    · have hlt' : ¬ (j : Int) < (s.size : Int) := by omega
      have T : Hid (Below B w w2 ∧ Rdr B w2 r (m + 4) ∧ Far w r w2) := Lib.hid ⟨bb, rd.mono (by omega), ff⟩
      clear bb ff rd hsl1
      go_wp2
      go_ret
      exact ⟨s, rfl, by omega, T.out⟩
  have h0' : (k2 == 0) = false := by simpa using h0
  by_cases h1 : k2 = 1
  · subst h1
    have T : Hid (Below B w w2 ∧ Rdr B w2 r (m + 4) ∧ Far w r w2) := Lib.hid ⟨bb, rd.mono (by omega), ff⟩
    clear bb ff rd
    go_wp2
    go_ret
    exact ⟨_, rfl, by omega, T.out⟩
  have h1' : (k2 == 1) = false := by simpa using h1
  by_cases h2 : k2 = 2
  · subst h2
    go_wp2_with fail
    refine (of_any B r (m + 2) _ _ _ 2 _ (rd.alloc _ _) (by omega) (by omega) (by omega) (by omega) ?_).mono ?_
    · exact made_strs _ _ _ _ _ rfl (by simp [Strs, ByteArray.size])
    rintro e w3 ⟨t, rfl, ht, bl3, rd3, fr3⟩
    have n1 : ¬ 9223372036854775807 < s.size + t.size := by omega
    have T : Hid (Below B w w3 ∧ Rdr B w3 r (m + 4) ∧ Far w r w3) := Lib.hid ⟨(bb.alloc rd.le _).trans bl3, rd3.mono (by omega), (ff.alloc _).trans fr3⟩
    clear bb ff rd hsl1 bl3 rd3 fr3
    go_wp2
    go_ret
    exact ⟨_, rfl, by rw [Go.ByteArray.size_append']; omega, T.out⟩
  have h2' : (k2 == 2) = false := by simpa using h2
  have T : Hid (Below B w w2 ∧ Rdr B w2 r (m + 4) ∧ Far w r w2) := Lib.hid ⟨bb, rd.mono (by omega), ff⟩
  clear bb ff rd hsl1 h0 h1 h2
  go_wp2
  go_ret
  exact ⟨s, rfl, by omega, T.out⟩
/-- A text out of a code. -/
def CodeS (w : World) (e : Ending) (w' : World) : Prop := ∃ s : ByteArray, e = .returned (.string s) ∧ s.size ≤ 20000 ∧ Below w.heap.size w w'
end Go.Proofs.YtpfdjmffgbbmdaaGreatDoor
