/-
  What the generators of sentences return: some text of moderate length, and nothing that was there has changed. Condition: the code has at most 1048576 bytes.
-/
import Derived.Test.YtoomkafhmennoaaDrawS
namespace Go.Proofs.Ytoomkafhmennoaa
open Go.RowKit
set_option linter.unusedVariables false
theorem Far.below {w w' : World} {r : Nat} (h : Below w.heap.size w w') : Far w r w' := ⟨h.size, fun b hb _ => h.block b hb⟩
set_option maxHeartbeats 1000000 in
theorem someBody_any (B r m : Nat) (w : World) (h : Rdr B w r m) (hm : m ≤ 100000) : Calls Try.prog 41 #[.pointer (some ⟨r, 0, none⟩)] w (DrawnS 20000 B w r (m + 6)) := by
  go_enter Try.func41, Try.ntmps41
  go_wp2_with fail
  refine (pick_any B r _ _ _ h (by omega)).mono ?_
  rintro e w1 ⟨k1, rfl, a1, b1, st1⟩
  clear b1
  by_cases h0 : k1 = 0
  · subst h0
    go_wp2_with fail
    refine (pick_any B r _ _ _ st1.rdr (by omega)).mono ?_
    rintro e w2 ⟨k2, rfl, a2, b2, st2⟩
    have c2 : k2 ≤ 49 := by omega
    clear b2
    go_wp2_with fail
    refine (pick_any B r _ _ _ st2.rdr (by omega)).mono ?_
    rintro e w3 ⟨k3, rfl, a3, b3, st3⟩
    have c3 : k3 ≤ 11 := by omega
    clear b3
    go_wp2_with fail
    refine (pick_any B r _ _ _ st3.rdr (by omega)).mono ?_
    rintro e w4 ⟨k4, rfl, a4, b4, st4⟩
    have c4 : k4 ≤ 27 := by omega
    clear b4
    go_wp2_with fail
    refine (pick_any B r _ _ _ st4.rdr (by omega)).mono ?_
    rintro e w5 ⟨k5, rfl, a5, b5, st5⟩
    have c5 : k5 ≤ 249 := by omega
    clear b5
    go_wp2_with fail
    refine (pick_any B r _ _ _ st5.rdr (by omega)).mono ?_
    rintro e w6 ⟨k6, rfl, a6, b6, st6⟩
    have c6 : k6 ≤ 32 := by omega
    clear b6
    have bb := ((((st1.bel.trans st2.bel).trans st3.bel).trans st4.bel).trans st5.bel).trans st6.bel
    have ff := ((((st1.far.trans st2.far).trans st3.far).trans st4.far).trans st5.far).trans st6.far
    have rd := st6.rdr
    clear st1 st2 st3 st4 st5 st6
    go_wp2_with fail
    refine (formatFix_any _ _ _ _ _ w6 ⟨by omega, by omega⟩ ⟨by omega, by omega⟩ ⟨by omega, by omega⟩ ⟨by omega, by omega⟩ ⟨by omega, by omega⟩).mono ?_
    rintro e w7 ⟨s, rfl, hs, b7⟩
    have T : Hid (Below B w w7 ∧ Rdr B w7 r (m + 6) ∧ Far w r w7) := Lib.hid ⟨bb.trans (b7.mono rd.le), (rd.later b7).mono (by omega), ff.trans (Far.below b7)⟩
    clear bb ff rd b7
    go_wp2
    go_ret
    exact ⟨s, rfl, hs, T.out⟩
  have h0' : (k1 == 0) = false := by simpa using h0
  clear h0
  go_wp2_with fail
  refine (of_any B r _ _ _ _ 41 _ (st1.rdr.alloc _ _) (by omega) (by omega) (by omega) (by have := st1.rdr.top; omega) ?_).mono ?_
  · exact made_strs _ _ _ _ _ rfl (by simp [Strs, ByteArray.size])
  rintro e w2 ⟨s, rfl, hs, bl2, rd2, fr2⟩
  go_wp2
  go_ret
  exact ⟨s, rfl, by omega, (st1.bel.alloc st1.rdr.le _).trans bl2, rd2.mono (by omega), (st1.far.alloc _).trans fr2⟩
set_option maxRecDepth 100000 in
set_option maxHeartbeats 4000000 in
theorem mutate_any (B r m : Nat) (s : ByteArray) (w : World) (h : Rdr B w r m) (hm : m ≤ 100000) (hs : s.size ≤ 5000) : Calls Try.prog 50 #[.pointer (some ⟨r, 0, none⟩), .string s] w (DrawnS 5010 B w r (m + 4)) := by
  go_enter Try.func50, Try.ntmps50
  go_wp2_with fail
  refine (pick_any B r _ _ _ h (by omega)).mono ?_
  rintro e w1 ⟨k1, rfl, a1, b1, st1⟩
  obtain ⟨j, rfl⟩ := Int.eq_ofNat_of_zero_le a1
  have hj : j ≤ s.size := by omega
  clear b1
  go_wp2_with fail
  refine (pick_any B r _ _ _ st1.rdr (by omega)).mono ?_
  rintro e w2 ⟨k2, rfl, a2, b2, st2⟩
  have bb := st1.bel.trans st2.bel
  have ff := st1.far.trans st2.far
  have rd := st2.rdr
  have hrt := rd.top
  clear b2 st1 st2
  have hsl1 : ∀ W : World, (Instr.slice 9 (.string s) none (some (.int .i64 (j : Int))) none).run Try.prog W = .ok (.string (s.extract 0 j)) W := fun W => run_slice_string_h (P := Try.prog) W 9 s Try.underlying9 .i64 (j : Int) (by omega) (by omega)
  have hp : (s.extract 0 j).size ≤ 5000 := by rw [ByteArray.size_extract]; omega
  by_cases h0 : k2 = 0
  · subst h0
    by_cases hlt : j < s.size
    · have hlt' : (j : Int) < (s.size : Int) := by omega
      have hsl2 : ∀ W : World, (Instr.slice 9 (.string s) (some (.int .i64 ((j : Int) + 1))) none none).run Try.prog W = .ok (.string (s.extract (j + 1) s.size)) W := fun W => by
        have h := run_slice_string_l (P := Try.prog) W 9 s Try.underlying9 .i64 ((j : Int) + 1) (by omega) (by omega)
        rw [show ((j : Int) + 1).toNat = j + 1 from by omega] at h
        exact h
      have hq : (s.extract (j + 1) s.size).size ≤ 5000 := by rw [ByteArray.size_extract]; omega
      have hpq : (s.extract 0 j).size + (s.extract (j + 1) s.size).size ≤ 5000 := by rw [ByteArray.size_extract, ByteArray.size_extract]; omega
      generalize s.extract 0 j = p at *
      generalize s.extract (j + 1) s.size = q at *
      go_wp2
      have ew := IntWalk.i64_in ((j : Int) + 1) (by omega)
      go_region_with ((go_at_call 52; (with_reducible refine (of_any B r (m + 2) _ _ _ 1 _ ?_ (by omega) (by omega) (by omega) ?_ ?_).mono ?_); (first | exact (rd.alloc _ _).drew | exact rd.drew.alloc _ _); (first | (simp; omega) | omega); (first | exact made_strs _ _ _ _ _ rfl (by simp [Strs, ByteArray.size])); rintro e w3 ⟨t, rfl, ht, bl3, rd3, fr3⟩; have n1 : ¬ 9223372036854775807 < p.size + t.size := (by omega); have n2 : ¬ 9223372036854775807 < p.size + t.size + q.size := (by omega)))
      all_goals go_wp2
      all_goals go_ret
      all_goals have hfd : ∀ (W : World), Far W r W.drew := fun W => ⟨Nat.le_refl _, fun _ _ _ => rfl⟩
      all_goals refine ⟨p ++ t ++ q, rfl, by rw [Go.ByteArray.size_append', Go.ByteArray.size_append']; omega, ?_, rd3.mono (by omega), ?_⟩
      all_goals (first
        | exact ((bb.alloc rd.le _).drew).trans bl3
        | exact (bb.drew.alloc rd.le _).trans bl3
        | exact ((ff.alloc _).trans (hfd _)).trans fr3
        | exact ((ff.trans (hfd _)).alloc _).trans fr3)
    · have hlt' : ¬ (j : Int) < (s.size : Int) := by omega
      have T : Hid (Below B w w2 ∧ Rdr B w2 r (m + 4) ∧ Far w r w2) := Lib.hid ⟨bb, rd.mono (by omega), ff⟩
      clear bb ff rd hsl1
      go_wp2
      go_ret
      exact ⟨s, rfl, by omega, T.out⟩
  have h0' : (k2 == 0) = false := by simpa using h0
  by_cases h1 : k2 = 1
  · subst h1
    have T : Hid (Below B w w2 ∧ Rdr B w2 r (m + 4) ∧ Far w r w2) := Lib.hid ⟨bb, rd.mono (by omega), ff⟩
    clear bb ff rd
    go_wp2
    go_ret
    exact ⟨_, rfl, by omega, T.out⟩
  have h1' : (k2 == 1) = false := by simpa using h1
  by_cases h2 : k2 = 2
  · subst h2
    go_wp2_with fail
    refine (of_any B r (m + 2) _ _ _ 2 _ (rd.alloc _ _) (by omega) (by omega) (by omega) (by omega) ?_).mono ?_
    · exact made_strs _ _ _ _ _ rfl (by simp [Strs, ByteArray.size])
    rintro e w3 ⟨t, rfl, ht, bl3, rd3, fr3⟩
    have n1 : ¬ 9223372036854775807 < s.size + t.size := by omega
    have T : Hid (Below B w w3 ∧ Rdr B w3 r (m + 4) ∧ Far w r w3) := Lib.hid ⟨(bb.alloc rd.le _).trans bl3, rd3.mono (by omega), (ff.alloc _).trans fr3⟩
    clear bb ff rd hsl1 bl3 rd3 fr3
    go_wp2
    go_ret
    exact ⟨_, rfl, by rw [Go.ByteArray.size_append']; omega, T.out⟩
  have h2' : (k2 == 2) = false := by simpa using h2
  have T : Hid (Below B w w2 ∧ Rdr B w2 r (m + 4) ∧ Far w r w2) := Lib.hid ⟨bb, rd.mono (by omega), ff⟩
  clear bb ff rd hsl1 h0 h1 h2
  go_wp2
  go_ret
  exact ⟨s, rfl, by omega, T.out⟩
/-- A text out of a code. -/
def CodeS (w : World) (e : Ending) (w' : World) : Prop := ∃ s : ByteArray, e = .returned (.string s) ∧ s.size ≤ 20000 ∧ Below w.heap.size w w'
theorem DrawChecksumOf_any (w : World) (a : Option Addr) (len cap : Nat) (h : Code w a len) (hcap : len ≤ cap) : Calls Try.prog 15 #[.slice a len cap] w (CodeS w) := by
  go_enter Try.func15, Try.ntmps15
  go_wp2_with fail
  refine (newReader_any w a len cap h hcap).mono ?_
  rintro e w1 ⟨rfl, bl1, rd1⟩
  go_wp2_with fail
  refine (someBody_any _ _ _ _ rd1 (by omega)).mono ?_
  rintro e w2 ⟨s, rfl, hs, bl, rd, fr⟩
  have T := Lib.hid (bl1.trans bl)
  go_wp2
  go_ret
  exact ⟨s, rfl, hs, T.out⟩
theorem DrawFrameBody_any (w : World) (a : Option Addr) (len cap : Nat) (h : Code w a len) (hcap : len ≤ cap) : Calls Try.prog 18 #[.slice a len cap] w (CodeS w) := by
  go_enter Try.func18, Try.ntmps18
  go_wp2_with fail
  refine (newReader_any w a len cap h hcap).mono ?_
  rintro e w1 ⟨rfl, bl1, rd1⟩
  go_wp2_with fail
  refine (someBody_any _ _ _ _ rd1 (by omega)).mono ?_
  rintro e w2 ⟨s, rfl, hs, bl, rd, fr⟩
  have T := Lib.hid (bl1.trans bl)
  go_wp2
  go_ret
  exact ⟨s, rfl, hs, T.out⟩
theorem DrawReadFrame_any (w : World) (a : Option Addr) (len cap : Nat) (h : Code w a len) (hcap : len ≤ cap) : Calls Try.prog 22 #[.slice a len cap] w (CodeS w) := by
  go_enter Try.func22, Try.ntmps22
  go_wp2_with fail
  refine (newReader_any w a len cap h hcap).mono ?_
  rintro e w1 ⟨rfl, bl1, rd1⟩
  go_wp2_with fail
  refine (someBody_any _ _ _ _ rd1 (by omega)).mono ?_
  rintro e w2 ⟨s, rfl, hs, bl2, rd2, fr2⟩
  go_wp2_with fail
  refine (frameB_spec s (by unfold maxLen; omega) _).mono ?_
  rintro e w2' ⟨rfl, rfl⟩
  have hf := S.frame_le s
  generalize S.frame s = f at *
  go_wp2_with fail
  refine (pick_any _ _ _ _ _ rd2 (by omega)).mono ?_
  rintro e w3 ⟨k3, rfl, a3, b3, st3⟩
  have bb := (bl1.trans bl2).trans st3.bel
  by_cases h0 : k3 = 0
  · subst h0
    go_wp2_with fail
    refine (mutate_any _ _ _ f _ st3.rdr (by omega) (by omega)).mono ?_
    rintro e w4 ⟨t, rfl, ht, bl4, rd4, fr4⟩
    have T := Lib.hid (bb.trans bl4)
    go_wp2
    go_ret
    exact ⟨t, rfl, by omega, T.out⟩
  · have h0' : (k3 == 0) = false := by simpa using h0
    have T := Lib.hid bb
    go_wp2
    go_ret
    exact ⟨f, rfl, by omega, T.out⟩
set_option maxHeartbeats 4000000 in
theorem DrawSplitFrames_any (w : World) (a : Option Addr) (len cap : Nat) (h : Code w a len) (hcap : len ≤ cap) : Calls Try.prog 24 #[.slice a len cap] w (CodeS w) := by
  go_enter Try.func24, Try.ntmps24
  go_wp2_with fail
  refine (newReader_any w a len cap h hcap).mono ?_
  rintro e w1 ⟨rfl, bl1, rd1⟩
  go_wp2_with fail
  refine (one_any _ _ _ _ _ _ 0 6 _ (rd1.alloc _ _) (by omega) (by omega) (by omega) (by have := rd1.top; omega) ?_).mono ?_
  · exact made_cells _ _ _ _ _ _ rfl (by simp [Ints])
  rintro e w2 ⟨z2, rfl, x2, y2, bl2, rd2, fr2⟩
  have bb := (bl1.alloc rd1.le _).trans bl2
  have H2 := Lib.hid (And.intro rd2 bb)
  clear rd2 bb bl2 fr2 bl1
  go_wp2_with fail
  go_loopw [4, 5] (fun x n wr => ∃ (t : ByteArray) (z : Int) (q : Nat), x = .string t ∧ n = .int .i64 z ∧ 0 ≤ z ∧ z ≤ 6 ∧ (t.size : Int) ≤ 44 * (6 - z) ∧ (q : Int) ≤ 1 + 9 * (6 - z) ∧ Rdr w.heap.size wr w.heap.size q ∧ Below w.heap.size w wr) (fun _ n _ => (intOf n).toNat)
  case atStart => exact ⟨{ data := #[] }, z2, 1, rfl, rfl, x2, y2, by show ((0 : Nat) : Int) ≤ _; omega, by omega, H2.out.1, H2.out.2⟩
  case round =>
    obtain ⟨t, z, q, rfl, rfl, z0, z6, ht, hq, rd, bb⟩ := hrel
    by_cases hz : 0 < z
    · go_wp2_with fail
      refine (someBody_any _ _ q _ rd (by omega)).mono ?_
      rintro e w3 ⟨s, rfl, hs, bl3, rd3, fr3⟩
      go_wp2_with fail
      refine (frameB_spec s (by unfold maxLen; omega) _).mono ?_
      rintro e w3' ⟨rfl, rfl⟩
      have hf := S.frame_le s
      generalize S.frame s = f at *
      go_wp2_with fail
      refine (pick_any _ _ _ _ _ rd3 (by omega)).mono ?_
      rintro e w4 ⟨k4, rfl, a4, b4, st4⟩
      have b4' := (bb.trans bl3).trans st4.bel
      have rd4 := st4.rdr
      have hr4 := rd4.top
      clear b4 bl3 fr3 rd3 st4 bb rd
      by_cases h0 : k4 = 0
      · subst h0
        go_wp2_with fail
        refine (of_any _ _ _ _ _ _ 5 _ (rd4.alloc _ _) (by omega) (by omega) (by omega) (by omega) ?_).mono ?_
        · exact made_strs _ _ _ _ _ rfl (by simp [Strs, ByteArray.size])
        rintro e w5 ⟨g, rfl, hg, bl5, rd5, fr5⟩
        have n1 : ¬ 9223372036854775807 < t.size + g.size := by omega
        have T := Lib.hid (And.intro rd5 ((b4'.alloc rd4.le _).trans bl5))
        clear rd5 bl5 fr5 b4' rd4
        go_wp2
        go_roundw
        case rel => exact ⟨t ++ g, z - 1, _, rfl, rfl, by omega, by omega, by rw [Go.ByteArray.size_append']; push_cast; omega, by push_cast; omega, T.out.1, T.out.2⟩
        case measure => simp [intOf]; omega
      · have h0' : (k4 == 0) = false := by simpa using h0
        have n1 : ¬ 9223372036854775807 < t.size + f.size := by omega
        have T := Lib.hid (And.intro rd4 b4')
        clear rd4 b4' h0
        go_wp2
        go_roundw
        case rel => exact ⟨t ++ f, z - 1, _, rfl, rfl, by omega, by omega, by rw [Go.ByteArray.size_append']; push_cast; omega, by push_cast; omega, T.out.1, T.out.2⟩
        case measure => simp [intOf]; omega
    · have hz0 : z = 0 := by omega
      subst hz0
      go_wp2_with fail
      refine (pick_any _ _ _ _ _ rd (by omega)).mono ?_
      rintro e w4 ⟨k4, rfl, a4, b4, st4⟩
      have b4' := bb.trans st4.bel
      clear b4
      by_cases h0 : k4 = 0
      · subst h0
        go_wp2_with fail
        refine (mutate_any _ _ _ t _ st4.rdr (by omega) (by omega)).mono ?_
        rintro e w5 ⟨g, rfl, hg, bl5, rd5, fr5⟩
        have T := Lib.hid (b4'.trans bl5)
        go_wp2
        go_ret
        exact ⟨g, rfl, by omega, T.out⟩
      · have h0' : (k4 == 0) = false := by simpa using h0
        have T := Lib.hid b4'
        go_wp2
        go_ret
        exact ⟨t, rfl, by omega, T.out⟩
end Go.Proofs.Ytoomkafhmennoaa
