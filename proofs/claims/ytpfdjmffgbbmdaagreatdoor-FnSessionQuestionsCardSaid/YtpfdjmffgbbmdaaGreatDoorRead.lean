/-
  What strings.Clone and the readers of sentences return, for every text: the same bytes; the text of a sentence, or none.
-/
import Derived.Test.YtpfdjmffgbbmdaaGreatDoorSent
import Derived.Lib.Strings
import Derived.Lib.Walk
import Derived.Lib.BufferWrite
import Derived.Lib.UnsafeStr
import Derived.Laws.MakeOwn
import Derived.Laws.DeepStrings4
namespace Go.Proofs.YtpfdjmffgbbmdaaGreatDoor
open Go.RowKit
set_option linter.unusedVariables false
set_option maxRecDepth 100000
theorem u8_info : (Tryz.prog.info? 5).map (fun i => (i.zero, i.size, i.bytes)) = some (some (.int .u8 0), 1, 1) := by kernel_rfl
set_option maxHeartbeats 1000000 in
theorem sclone_any (s : ByteArray) (w : World) (hlim : s.size ≤ 1048576) : Calls Tryz.prog 133 #[.string s] w fun e w' => e = .returned (.string s) ∧ Below w.heap.size w w' := by
  by_cases h0 : s.size = 0
  · have hs : s = ⟨#[]⟩ := by
      apply ByteArray.ext
      exact Array.eq_empty_of_size_eq_zero h0
    subst hs
    go_enter Tryz.func133, Tryz.ntmps133
    go_wp2
    go_ret
    exact ⟨rfl, Below.refl _ _⟩
  · obtain ⟨i0, hi, hz0, hz1, hz2⟩ := info_parts u8_info
    have hinfo : (Tryz.prog.info? 5).map (·.size) = some 1 := by rw [hi]; simp [hz1]
    have hco : Tryz.prog.cellsOf 5 = 1 := by simp [Program.cellsOf, hi, hz1]
    obtain ⟨M, hM⟩ : ∃ M, M = madeCells (Value.int .u8 0).cells (((s.size : Nat) : Int).toNat * i0.size) := ⟨_, rfl⟩
    have hMs : M.size = s.size := by rw [hM, size_madeCells, hz1]; simp
    have hmk : ∀ W : World, (Instr.makeSlice 22 (.int .i64 (s.size : Int)) (.int .i64 (s.size : Int))).run Tryz.prog W = .ok (.slice (some ⟨W.heap.size, 0, none⟩) s.size s.size) (W.alloc (.cells M 5)) := fun W => by
      have h := run_make (P := Tryz.prog) W 22 5 i0 (.int .u8 0) Tryz.underlying22 hi hz0 .i64 .i64 (s.size : Int) (s.size : Int) (by omega) (by omega) (by rw [hz2]; omega) (by omega)
      rw [← hM] at h
      simpa using h
    clear hM
    have hcp := Lib.run_copy_row_string (P := Tryz.prog) (w.alloc (.cells M 5)) 22 9 3 5 w.heap.size 0 s.size s.size s M 5 Tryz.underlying22 hinfo (heap_alloc_new w _) (Nat.le_refl _) (by omega)
    obtain ⟨Y, hY⟩ : ∃ Y, Y = (M.toList.take 0 ++ Lib.byteCells s.data.toList ++ M.toList.drop (0 + s.size)).toArray := ⟨_, rfl⟩
    rw [← hY] at hcp
    have hYl : Y.toList = Lib.byteCells s.data.toList := by
      rw [hY, List.toList_toArray, List.take_zero, List.nil_append, List.drop_of_length_le (by rw [Array.length_toList]; omega), List.append_nil]
    have hYs : Y.size = s.size := by rw [← Array.length_toList, hYl, Lib.byteCells_length, ← Lib.size_eq]
    have hgY : ((w.alloc (.cells M 5)).setRow w.heap.size Y).heap[w.heap.size]? = some (.cells Y 5 (0, 0)) := setRow_heap _ _ M _ 5 (0, 0) (heap_alloc_new w _)
    have hne : s.data.toList ≠ [] := fun e => h0 (by rw [Lib.size_eq, e]; rfl)
    have hUS := Lib.run_unsafeString_row (P := Tryz.prog) ((w.alloc (.cells M 5)).setRow w.heap.size Y) 81 3 9 5 Tryz.underlying81 hco w.heap.size Y.size (by unfold World.shape?; rw [hgY]) s.data.toList hne (by rw [← Lib.size_eq]; omega) (by rw [← Lib.size_eq]; omega)
      (fun j x hx => Lib.cells_of_row hgY Y.size j _ (by rw [List.take_of_length_le (by rw [Array.length_toList]; exact Nat.le_refl _), hYl]; simp [Lib.byteCells, hx]))
    rw [← Lib.size_eq] at hUS
    clear hY
    go_enter Tryz.func133, Tryz.ntmps133
    go_wp2
    go_ret
    have hb1 : Below w.heap.size w (w.alloc (.cells M 5)) := (Below.refl _ w).alloc (Nat.le_refl _) _
    have hb2 : Below w.heap.size (w.alloc (.cells M 5)) ((w.alloc (.cells M 5)).setRow w.heap.size Y) := ⟨rfl, rfl, rfl, by simp, fun k hk => setRow_other _ _ _ _ (by omega)⟩
    exact ⟨rfl, Lib.below_freeze (hb1.trans hb2) (p := ⟨w.heap.size, 0, none⟩) (Nat.le_refl _) _⟩
theorem clone_any (s : ByteArray) (w : World) (hlim : s.size ≤ 1048576) : Calls Tryz.prog 114 #[.string s] w fun e w' => e = .returned (.string s) ∧ Below w.heap.size w w' := by
  go_enter Tryz.func114, Tryz.ntmps114
  go_wp2_with (go_at_call 133; refine (sclone_any s _ hlim).mono ?_; rintro e w' ⟨rfl, hb⟩)
  go_ret
  exact ⟨rfl, hb⟩
theorem ret_sb {a b : ByteArray} {c d : Bool} (h : a = b) (h' : c = d) : Ending.returned (.tuple #[.string a, .bool c]) = .returned (.tuple #[.string b, .bool d]) := by rw [h, h']
theorem beq_str (a b : ByteArray) (h : a = b) : (a.toList == b.toList) = true := by rw [S.toList_beq]; exact decide_eq_true h
theorem bne_str (a b : ByteArray) (h : a ≠ b) : (a.toList == b.toList) = false := by rw [S.toList_beq]; exact decide_eq_false h
set_option maxHeartbeats 1000000 in
theorem read_impl (s : ByteArray) (hs : s.size ≤ 1048576) (w : World) : Calls Tryz.prog 91 #[.string s] w fun e w' => e = .returned (.tuple #[.string (S.rdS s), .bool (S.rdB s)]) ∧ Below w.heap.size w w' := by
  by_cases h5 : 5 ≤ s.size
  · have h4 : ¬ ((s.size : Int) ≤ 4) := by omega
    have hm : (S.mid s).size = s.size - 4 := S.mid_size s (by omega)
    have hsl : ∀ W : World, (Instr.slice 9 (.string s) (some (.int .i64 1)) (some (.int .i64 ((s.size : Int) - 4 + 1))) none).run Tryz.prog W = .ok (.string (S.mid s)) W := fun W => by
      have h := run_slice_string (P := Tryz.prog) W 9 s .i64 .i64 1 ((s.size : Int) - 4 + 1) Tryz.underlying9 (by omega) (by omega) (by omega)
      rw [show ((s.size : Int) - 4 + 1).toNat = s.size - 3 from by omega, show (1 : Int).toNat = 1 from rfl] at h
      exact h
    have hm2 : (S.mid s).size ≤ 1048576 := by omega
    have HM := Lib.hid hm
    clear hm
    by_cases he : S.frame (S.mid s) = s
    · have hr := S.rdB_yes h5 he
      have hb := beq_str _ _ he
      rw [hr, S.rdS_yes hr]
      clear hr he
      generalize S.mid s = t at *
      go_enter Tryz.func91, Tryz.ntmps91
      go_wp2_with (first | (go_at_call 32; refine (frameB_impl _ (by unfold maxLen; omega) _).mono ?_; rintro e w2 ⟨rfl, b2⟩) | (go_at_call 114; refine (clone_any _ _ hm2).mono ?_; rintro e w3 ⟨rfl, b3⟩))
      go_ret2
      exact ⟨rfl, b2.trans (b3.mono b2.size)⟩
    · have hr := S.rdB_no (s := s) (fun k => he k.2)
      have hb := bne_str _ _ he
      rw [hr, S.rdS_no hr]
      clear hr he
      generalize S.mid s = t at *
      go_enter Tryz.func91, Tryz.ntmps91
      go_wp2_with (first | (go_at_call 32; refine (frameB_impl _ (by unfold maxLen; omega) _).mono ?_; rintro e w2 ⟨rfl, b2⟩))
      go_ret2
      exact ⟨rfl, b2⟩
  · have h4 : ((s.size : Int) ≤ 4) := by omega
    have hr := S.rdB_no (s := s) (fun k => h5 k.1)
    rw [hr, S.rdS_no hr]
    clear hr h5
    go_enter Tryz.func91, Tryz.ntmps91
    go_wp2
    go_ret2
    exact ⟨rfl, Below.refl _ _⟩
set_option maxHeartbeats 1000000 in
theorem read_spec (s : ByteArray) (hs : s.size ≤ 1048576) (w : World) : Calls Tryz.prog 101 #[.string s] w fun e w' => e = .returned (.tuple #[.string (S.rdS s), .bool (S.rdB s)]) ∧ w = w' := by
  by_cases h5 : 5 ≤ s.size
  · have h4 : ¬ ((s.size : Int) < 5) := by omega
    have hm : (S.mid s).size = s.size - 4 := S.mid_size s (by omega)
    have hsl : ∀ W : World, (Instr.slice 9 (.string s) (some (.int .i64 1)) (some (.int .i64 ((s.size : Int) - 3))) none).run Tryz.prog W = .ok (.string (S.mid s)) W := fun W => by
      have h := run_slice_string (P := Tryz.prog) W 9 s .i64 .i64 1 ((s.size : Int) - 3) Tryz.underlying9 (by omega) (by omega) (by omega)
      rw [show ((s.size : Int) - 3).toNat = s.size - 3 from by omega, show (1 : Int).toNat = 1 from rfl] at h
      exact h
    have hm2 : (S.mid s).size ≤ 1048576 := by omega
    have HM := Lib.hid hm
    clear hm
    by_cases he : S.frame (S.mid s) = s
    · have hr := S.rdB_yes h5 he
      have hy := S.rd_body hr
      have hb := beq_str _ _ he
      rw [hr, S.rdS_yes hr]
      clear hr he
      generalize S.mid s = t at *
      go_enter Tryz.func101, Tryz.ntmps101
      go_wp2_with (first | (go_at_call 36; refine (frameB_spec _ (by unfold maxLen; omega) _).mono ?_; rintro e w' ⟨rfl, rfl⟩) | (go_at_call 64; refine (body_spec _ (by unfold maxLen; omega) _).mono ?_; rintro e w' ⟨rfl, rfl⟩))
      go_ret2
      exact ⟨rfl, rfl⟩
    · have hr := S.rdB_no (s := s) (fun k => he k.2)
      have hb := bne_str _ _ he
      rw [hr, S.rdS_no hr]
      clear hr he
      generalize S.mid s = t at *
      rcases hy : S.body t with _ | _
      all_goals
        go_enter Tryz.func101, Tryz.ntmps101
        go_wp2_with (first | (go_at_call 36; refine (frameB_spec _ (by unfold maxLen; omega) _).mono ?_; rintro e w' ⟨rfl, rfl⟩) | (go_at_call 64; refine (body_spec _ (by unfold maxLen; omega) _).mono ?_; rintro e w' ⟨rfl, rfl⟩))
        go_ret2
        exact ⟨rfl, rfl⟩
  · have h4 : ((s.size : Int) < 5) := by omega
    have hr := S.rdB_no (s := s) (fun k => h5 k.1)
    rw [hr, S.rdS_no hr]
    clear hr h5
    go_enter Tryz.func101, Tryz.ntmps101
    go_wp2
    go_ret2
    exact ⟨rfl, rfl⟩
end Go.Proofs.YtpfdjmffgbbmdaaGreatDoor
