/-
  The generator of sessions (chapter 17): some lines, and nothing that was there has changed. Condition: the code has at most 1048576 bytes.
-/
import Derived.Test.YtpfdjmffgbbmdaaGreatDoorDrawT
import Derived.Test.YtpfdjmffgbbmdaaGreatDoorEqS
import Derived.Test.YtpfdjmffgbbmdaaGreatDoorRow
import Derived.Test.YtpfdjmffgbbmdaaGreatDoorText
namespace Go.Proofs.YtpfdjmffgbbmdaaGreatDoor
open Go.RowKit
set_option linter.unusedVariables false
set_option maxRecDepth 100000
/-- Texts of at most k bytes each. -/
def Small (k : Nat) (T : List ByteArray) : Prop := ∀ s ∈ T, s.size ≤ k
theorem Small.snoc {k : Nat} {T : List ByteArray} {s : ByteArray} (h : Small k T) (hs : s.size ≤ k) : Small k (T ++ [s]) := fun x hx => by
  rcases List.mem_append.1 hx with a | a
  · exact h x a
  · simp at a; rw [a]; exact hs
theorem Small.set {k : Nat} {T : List ByteArray} {s : ByteArray} (h : Small k T) (i : Nat) (hs : s.size ≤ k) : Small k (T.set i s) := fun x hx => by
  rcases List.mem_or_eq_of_mem_set hx with a | a
  · exact h x a
  · rw [a]; exact hs
theorem ff_size (y m d s n : Int) : (X.ff y m d s n).size ≤ 28 := by
  rcases hv : X.vf y m d s n with _ | _
  · rw [X.ff_no hv, S.size_mk]; simp
  · rw [X.ff_yes hv]
    have h1 := X.tx_len hv
    rcases hb : S.body (S.mk (X.tx y m d s n)) with _ | _
    · rw [S.frame_no hb, S.size_mk]; simp
    · rw [S.frame_size hb, S.size_mk]; omega
theorem Rq.bw {T : TypeId} {K B r m base n : Nat} {w0 w w' : World} {v : Value} {xs : List Value} (h : Rq T K B w0 w r m base v n xs) (hb : Below w.heap.size w w') : Rq T K B w0 w' r m base v n xs :=
  h.next (h.rdr.later hb) (hb.mono h.rdr.le) ⟨hb.size, fun b hlt _ => hb.block b hlt⟩
def FromRS (w : World) (e : Ending) (w' : World) : Prop := ∃ g c T, e = .returned (.slice (some ⟨g, 0, none⟩) T.length c) ∧ T.length ≤ 16 ∧ Small 5010 T ∧ Texts w.heap.size w' (some ⟨g, 0, none⟩) c T ∧ Below w.heap.size w w'
set_option maxHeartbeats 8000000 in
theorem DrawRunSession_any (w : World) (a : Option Addr) (len cap : Nat) (h : Code w a len) (hcap : len ≤ cap) : Calls Tryz.prog 8 #[.slice a len cap] w (FromRS w) := by
  obtain ⟨i0, hi0, hz0, hz1, hz2⟩ := info_parts str_info
  have hI := Lib.hid hi0
  have hZ0 := Lib.hid hz0
  have hZ1 := Lib.hid hz1
  have hZ2 := Lib.hid hz2
  clear hi0 hz0 hz1 hz2
  go_enter Tryz.func8, Tryz.ntmps8
  go_wp2_with fail
  refine (newReader_any w a len cap h hcap).mono ?_
  rintro e w1 ⟨rfl, b1, rd1⟩
  have R0 : Rq 9 1 w.heap.size w1 (w1.alloc (.cells #[] 9)) w.heap.size 0 w1.heap.size (.slice (some ⟨w1.heap.size, 0, none⟩) 0 0) 0 (strs []) :=
    ⟨rd1.alloc _ _, (Far.refl _ _).alloc _, (Below.refl _ _).alloc rd1.le _, World.ownsRow_made w1 #[] 0 (Nat.le_refl _) (by unfold maxLen; omega) rfl, rd1.top, by simp⟩
  have HR0 := Lib.hid R0
  have HB1 := Lib.hid b1
  clear R0 b1 rd1 h
  go_wp2_with fail
  refine (pick_any w.heap.size w.heap.size _ _ _ HR0.out.rdr (by omega)).mono ?_
  rintro e w2 ⟨k2, rfl, a2, b2, st2⟩
  have R2 := HR0.out.step st2
  have c2 : k2 ≤ 199 := by omega
  clear b2 st2 HR0
  go_wp2_with fail
  refine (one_any w.heap.size w.heap.size _ _ _ _ 0 16 _ (R2.alloc _ _).rdr (by omega) (by omega) (by omega) (by have := R2.rdr.top; omega) ?_).mono ?_
  · exact made_cells _ _ _ _ _ _ rfl (by simp [Ints])
  rintro e w3 ⟨z3, rfl, x3, y3, bl3, rd3, fr3⟩
  have R3 := (R2.alloc _ _).next rd3 bl3 fr3
  clear R2 bl3 rd3 fr3
  go_wp2_with fail
  go_loopw [4, 5, 6] (fun o t n wr => ∃ (g0 : Nat) (c' : Nat) (T : List ByteArray) (x z : Int), o = .slice (some ⟨g0, 0, none⟩) T.length c' ∧ t = .int .i64 x ∧ n = .int .i64 z ∧ 0 ≤ z ∧ z ≤ 16 ∧ (0 ≤ x ∧ x + 200 * z ≤ 203200) ∧ (T.length : Int) + z ≤ 16 ∧ Small 5000 T ∧ Rq 9 1 w.heap.size w1 wr w.heap.size (2 + (64 - 4 * z.toNat)) w1.heap.size (.slice (some ⟨g0, 0, none⟩) T.length c') T.length (strs T)) (fun _ _ n _ => (intOf n).toNat)
  case atStart => exact ⟨_, _, [], _, z3, rfl, rfl, rfl, x3, y3, by omega, by simp; omega, fun _ hs => by simp at hs, R3.mono (by omega)⟩
  case round =>
    obtain ⟨g0, c', T, x, z, rfl, rfl, rfl, z0, z1, hx, hl, hsm, R⟩ := hrel
    clear R3
    have HSM := Lib.hid hsm
    clear hsm
    by_cases hz : 0 < z
    · go_wp2_with fail
      refine (pick_any w.heap.size w.heap.size _ _ _ R.rdr (by omega)).mono ?_
      rintro e w4 ⟨k4, rfl, a4, b4, st4⟩
      have R4 := R.step st4
      clear b4 st4 R
      by_cases h0 : k4 = 0
      · subst h0
        go_wp2_with fail
        refine (one_any w.heap.size w.heap.size _ _ _ _ 0 32 _ (R4.alloc _ _).rdr (by omega) (by omega) (by omega) (by have := R4.rdr.top; omega) ?_).mono ?_
        · exact made_cells _ _ _ _ _ _ rfl (by simp [Ints])
        rintro e w5 ⟨z5, rfl, x5, y5, bl5, rd5, fr5⟩
        have R5 := (R4.alloc _ _).next rd5 bl5 fr5
        clear R4 bl5 rd5 fr5
        go_wp2_with fail
        refine (fx_spec x z5 w5).mono ?_
        rintro e w6 ⟨rfl, hb⟩
        have R6 := R5.bw hb
        clear R5 hb
        generalize X.fy x z5 = fy
        generalize X.fm x z5 = fm
        generalize X.fd x z5 = fd
        generalize X.fs x z5 = fs
        generalize X.fn x z5 = fn
        go_wp2_with fail
        refine (ff_spec fy fm fd fs fn w6).mono ?_
        rintro e w7 ⟨rfl, hb⟩
        have R7 := R6.bw hb
        have hS1 : (X.ff fy fm fd fs fn).size ≤ 5000 := Nat.le_trans (ff_size fy fm fd fs fn) (by omega)
        clear R6 hb
        generalize X.ff fy fm fd fs fn = S1 at *
        go_wp2_with (at_builtin; refine wpList_append_lies _ rfl _ _ 23 rfl w1.heap.size 9 i0 (.string ByteArray.empty) 1 16 Tryz.underlying23 hI.out hZ0.out hZ1.out hZ2.out rfl (by decide) (.slice (some ⟨g0, 0, none⟩) T.length c') T.length (strs T) rfl (World.ownsRow.alloc R7.own _) ⟨w7.heap.size, 0, none⟩ 1 1 [.string S1] rfl rfl (cell_one_new _ _ _) (by intro u hu; simp at hu; subst hu; rfl) (by decide) (by unfold maxLen; omega) (by omega) (by have := R7.hi; simp; omega) _ rfl ?_)
        intro g cap8 w8 own8 hg8 hat8 hlt8
        have own9 : w8.ownsRow w1.heap.size 9 1 (.slice (some ⟨g, 0, none⟩) (T ++ [S1]).length cap8) (T ++ [S1]).length (strs (T ++ [S1])) := by
          rw [← strs_snoc, List.length_append]; exact own8
        have R8 := (R7.alloc #[.string S1] 9).grown own9 hg8 (Nat.le_refl _)
        have HLL := Lib.hid (show (T ++ [S1]).length = T.length + 1 by simp)
        have HS1 := Lib.hid (HSM.out.snoc hS1)
        clear own8 own9 hg8 hat8 hlt8 R7
        go_wp2_with fail
        refine (pick_any w.heap.size w.heap.size _ _ _ R8.rdr (by omega)).mono ?_
        rintro e w9 ⟨k9, rfl, a9, b9, st9⟩
        have HR9 := Lib.hid (R8.step st9)
        have c9 : k9 ≤ 199 := by omega
        clear b9 st9 R8
        go_wp2
        go_roundw
        case rel => exact ⟨g, cap8, T ++ [S1], x + k9, z - 1, by rw [HLL.out], by go_num, by go_num, by omega, by omega, by omega, by rw [HLL.out]; omega, HS1.out, HR9.out.mono (by omega)⟩
        case measure => simp [intOf]; omega
      · have gk : (k4 == 0) = false := by simpa using h0
        go_wp2_with fail
        refine (of_any w.heap.size w.heap.size _ _ _ _ 11 _ (R4.rdr.alloc _ _) (by omega) (by omega) (by omega) (by have := R4.rdr.top; omega) ?_).mono ?_
        · exact made_strs _ _ _ _ _ rfl (by simp [Strs, ByteArray.size])
        rintro e w7 ⟨S1, rfl, hS0, bl2, rd2, fr2⟩
        have R7 := (R4.alloc _ _).next rd2 bl2 fr2
        have hS1 : S1.size ≤ 5000 := by omega
        clear R4 bl2 rd2 fr2 hS0
        go_wp2_with (at_builtin; refine wpList_append_lies _ rfl _ _ 23 rfl w1.heap.size 9 i0 (.string ByteArray.empty) 1 16 Tryz.underlying23 hI.out hZ0.out hZ1.out hZ2.out rfl (by decide) (.slice (some ⟨g0, 0, none⟩) T.length c') T.length (strs T) rfl (World.ownsRow.alloc R7.own _) ⟨w7.heap.size, 0, none⟩ 1 1 [.string S1] rfl rfl (cell_one_new _ _ _) (by intro u hu; simp at hu; subst hu; rfl) (by decide) (by unfold maxLen; omega) (by omega) (by have := R7.hi; simp; omega) _ rfl ?_)
        intro g cap8 w8 own8 hg8 hat8 hlt8
        have own9 : w8.ownsRow w1.heap.size 9 1 (.slice (some ⟨g, 0, none⟩) (T ++ [S1]).length cap8) (T ++ [S1]).length (strs (T ++ [S1])) := by
          rw [← strs_snoc, List.length_append]; exact own8
        have R8 := (R7.alloc #[.string S1] 9).grown own9 hg8 (Nat.le_refl _)
        have HLL := Lib.hid (show (T ++ [S1]).length = T.length + 1 by simp)
        have HS1 := Lib.hid (HSM.out.snoc hS1)
        clear own8 own9 hg8 hat8 hlt8 R7
        have HR9 := Lib.hid R8
        clear R8
        go_wp2
        go_roundw
        case rel => exact ⟨g, cap8, T ++ [S1], x, z - 1, by rw [HLL.out], rfl, by go_num, by omega, by omega, by omega, by rw [HLL.out]; omega, HS1.out, HR9.out.mono (by omega)⟩
        case measure => simp [intOf]; omega
    · by_cases hT0 : T.length = 0
      · have hT0' : ¬ 0 < T.length := by omega
        have HF := Lib.hid (show FromRS w (.returned (.slice (some ⟨g0, 0, none⟩) 0 c')) wr from ⟨g0, c', T, by rw [hT0], by omega, fun s hs => Nat.le_trans (HSM.out s hs) (by omega), Texts.more R.own (by have := HB1.out.size; exact this), HB1.out.trans R.bel⟩)
        clear R
        go_wp2
        go_ret
        exact HF.out
      have hT0' : 0 < T.length := by omega
      go_wp2_with fail
      refine (pick_any w.heap.size w.heap.size _ _ _ R.rdr (by omega)).mono ?_
      rintro e w4 ⟨k4, rfl, a4, b4, st4⟩
      have R4 := R.step st4
      clear b4 st4 R
      by_cases h0 : k4 = 0
      · subst h0
        go_wp2_with fail
        refine (pick_any w.heap.size w.heap.size _ _ _ R4.rdr (by omega)).mono ?_
        rintro e w5 ⟨k5, rfl, a5, b5, st5⟩
        have R5 := R4.step st5
        obtain ⟨j, rfl⟩ := Int.eq_ofNat_of_zero_le a5
        have hj : j < T.length := by omega
        clear b5 st5 R4
        obtain ⟨g, S0, eg, hg0, hg1, hx0, hc0⟩ := Texts.at_ R5.own j hj
        injection eg with eg; injection eg with eg
        subst eg
        have hS0 : S0.size ≤ 5000 := HSM.out S0 (List.mem_of_getElem? hx0)
        go_wp2_with fail
        refine (mutate_any w.heap.size w.heap.size _ S0 _ R5.rdr (by omega) hS0).mono ?_
        rintro e w6 ⟨S1, rfl, hS1, bl6, rd6, fr6⟩
        have R6 := R5.next rd6 bl6 fr6
        have hst := R6.own.stored j (.string S1)
        have hfr := R6.own.frozenAt j
        obtain ⟨g', S0', e', _, _, _, hcj⟩ := Texts.at_ R6.own j hj
        injection e' with e'; injection e' with e'
        subst e'
        have hset : (strs T).set j (.string S1) = strs (T.set j S1) := by unfold strs; rw [← List.map_set]
        rw [hset] at hst
        have HLL := Lib.hid (show (T.set j S1).length = T.length by simp)
        have HT6 := Lib.hid (show Texts w1.heap.size (w6.setCell ⟨g0, j, none⟩ (.string S1)) (some ⟨g0, 0, none⟩) c' (T.set j S1) by unfold Texts; rw [HLL.out]; exact hst.1)
        have HB6 := Lib.hid (HB1.out.trans (R6.bel.setCell (p := ⟨g0, j, none⟩) (by have := HB1.out.size; show w.heap.size ≤ g0; omega) (.string S1)))
        have HS1 := Lib.hid (Small.set (k := 5010) (fun s hs => Nat.le_trans (HSM.out s hs) (by omega)) j hS1)
        clear R5 R6 hst hset bl6 rd6 fr6 hc0 hx0
        go_wp2
        go_ret
        exact ⟨g0, c', T.set j S1, by rw [HLL.out]; rfl, by rw [HLL.out]; omega, HS1.out, HT6.out.more (by have := HB1.out.size; exact this), HB6.out⟩
      · have gk : (k4 == 0) = false := by simpa using h0
        have HF := Lib.hid (show FromRS w (.returned (.slice (some ⟨g0, 0, none⟩) T.length c')) w4 from ⟨g0, c', T, rfl, by omega, fun s hs => Nat.le_trans (HSM.out s hs) (by omega), Texts.more R4.own (by have := HB1.out.size; exact this), HB1.out.trans R4.bel⟩)
        clear R4
        go_wp2
        go_ret
        exact HF.out
end Go.Proofs.YtpfdjmffgbbmdaaGreatDoor
