/-
  What the program says is agreed on: MostVotes, AgreedSpan, MiddleOf, FalseSources.
-/
import Derived.Test.YtlehpfcealohoaaIMost
import Derived.Test.YtlehpfcealohoaaNums
namespace Go.Proofs.Ytlehpfcealohoaa
open Go.RowKit
set_option linter.unusedVariables false
theorem MV_impl (B n c : Nat) (a : Option Addr) (l : List (Int × Int)) (w : World) (h : Sps B w a n l) (hB : B ≤ w.heap.size) : Calls Try.prog 14 #[.slice a n c] w fun e w' => e = .returned (.int .i64 (V.mv l)) ∧ Below w.heap.size w w' := by
  go_enter Try.func14, Try.ntmps14
  cases hv : V.vs l
  · go_wp2_with (go_at_call 24; refine (vs_impl _ _ _ _ l _ h hB).mono ?_; rw [hv]; rintro e w1 ⟨rfl, b1⟩)
    go_ret
    exact ⟨ret_int (V.mv_no hv).symm, b1⟩
  · go_wp2_with (first | (go_at_call 24; refine (vs_impl _ _ _ _ l _ h hB).mono ?_; rw [hv]; rintro e w1 ⟨rfl, b1⟩; have HS2 := Lib.hid (((h.more hB).below b1).more b1.size)) | (go_at_call 25; refine (mv_impl _ _ _ l _ HS2.out hv).mono ?_; rintro e w2 ⟨rfl, b2⟩))
    go_ret
    exact ⟨ret_int (V.mv_yes hv).symm, b1.trans ((b2.alloc b2.size _).mono b1.size)⟩
set_option maxHeartbeats 2000000 in
theorem ag_impl (B n c : Nat) (a : Option Addr) (l : List (Int × Int)) (w : World) (h : Sps B w a n l) (hB : B ≤ w.heap.size) : Calls Try.prog 7 #[.slice a n c] w fun e w' => e = .returned (.tuple #[.agg #[.int .i64 (V.rlo l), .int .i64 (V.rhi l)], .bool (V.agB l)]) ∧ Below w.heap.size w w' := by
  obtain ⟨hl, hn, _⟩ := id h
  have HL := Lib.hid hl
  have hb0 := (Below.refl w.heap.size w).alloc (Nat.le_refl _) (Obj.cells #[.int .i64 0, .int .i64 0] 26)
  have h1 := (h.more hB).below hb0
  have HB := Lib.hid hb0
  have HS1 := Lib.hid h1
  clear hl hb0 h h1
  go_enter Try.func7, Try.ntmps7
  cases hv : V.vs l
  · rw [(V.r_no (V.agB_no1 hv)).1, (V.r_no (V.agB_no1 hv)).2, V.agB_no1 hv]
    go_wp2_with (go_at_call 24; refine (vs_impl _ _ _ _ l _ HS1.out (by simp)).mono ?_; rw [hv]; rintro e w1 ⟨rfl, b1⟩; have b1 : Below (w.heap.size + 1) (w.alloc (Obj.cells #[.int .i64 0, .int .i64 0] 26)) w1 := (by simpa using b1); obtain ⟨c0, c1, f0, f1⟩ := two_below b1; have hfin := HB.out.trans (b1.mono (by omega)); have hsz := b1.size; have hszl : w.heap.size < w1.heap.size := (by simp at hsz; omega); clear b1 hsz)
    exact bodyPost_ret (v := .tuple #[.agg #[.int .i64 0, .int .i64 0], .bool false]) (by simp [results, Try.results7, go_sem, c0, c1]) rfl ⟨rfl, (hfin.setCell (Nat.le_refl _) _).setCell (Nat.le_refl _) _⟩
  · have hmost := V.most_le l
    have hl7 := (V.vs_of hv).1
    by_cases hm : l.length < 2 * V.most l
    · rw [(V.r_yes (V.agB_yes hv hm)).1, (V.r_yes (V.agB_yes hv hm)).2, V.agB_yes hv hm]
      have hm' : decide (2 * (V.most l : Int) ≤ (n : Int)) = false := by have := HL.out; simp; omega
      go_wp2_with (first | (go_at_call 24; refine (vs_impl _ _ _ _ l _ HS1.out (by simp)).mono ?_; rw [hv]; rintro e w1 ⟨rfl, b1⟩; have b1 : Below (w.heap.size + 1) (w.alloc (Obj.cells #[.int .i64 0, .int .i64 0] 26)) w1 := (by simpa using b1); obtain ⟨c0, c1, f0, f1⟩ := two_below b1; have hfin := HB.out.trans (b1.mono (by omega)); have hsz := b1.size; have hszl : w.heap.size < w1.heap.size := (by simp at hsz; omega); have HS2 := Lib.hid ((HS1.out.below (b1.mono (by omega))).more (show w.heap.size ≤ w1.heap.size by omega)); clear hsz) | (go_at_call 25; refine (mv_impl _ _ _ l _ HS2.out hv).mono ?_; rintro e w3 ⟨rfl, b3⟩; have d0 := (b3.cell (p := ⟨w.heap.size, 0, none⟩) hszl).trans c0; have d1 := (b3.cell (p := ⟨w.heap.size, 1, none⟩) hszl).trans c1; have g0 := (b3.frozen (p := ⟨w.heap.size, 0, none⟩) hszl).trans f0; have g1 := (b3.frozen (p := ⟨w.heap.size, 1, none⟩) hszl).trans f1; have hfin2 := Lib.hid (hfin.trans (b3.mono (by omega))); have hsz3 := b3.size; have hszl3 : w.heap.size < w3.heap.size := (by omega); clear b3 hsz3))
      exact bodyPost_ret (v := .tuple #[.agg #[.int .i64 (V.low l), .int .i64 (V.high l)], .bool true]) (by simp [results, Try.results7, go_sem, d0, d1, hszl3]) rfl ⟨rfl, ((hfin2.out.setCell (Nat.le_refl _) _).setCell (Nat.le_refl _) _).alloc (by simp; omega) _⟩
    · rw [(V.r_no (V.agB_no2 hm)).1, (V.r_no (V.agB_no2 hm)).2, V.agB_no2 hm]
      have hm' : (2 * (V.most l : Int) ≤ (n : Int)) := by have := HL.out; omega
      go_wp2_with (first | (go_at_call 24; refine (vs_impl _ _ _ _ l _ HS1.out (by simp)).mono ?_; rw [hv]; rintro e w1 ⟨rfl, b1⟩; have b1 : Below (w.heap.size + 1) (w.alloc (Obj.cells #[.int .i64 0, .int .i64 0] 26)) w1 := (by simpa using b1); obtain ⟨c0, c1, f0, f1⟩ := two_below b1; have hfin := HB.out.trans (b1.mono (by omega)); have hsz := b1.size; have hszl : w.heap.size < w1.heap.size := (by simp at hsz; omega); have HS2 := Lib.hid ((HS1.out.below (b1.mono (by omega))).more (show w.heap.size ≤ w1.heap.size by omega)); clear hsz) | (go_at_call 25; refine (mv_impl _ _ _ l _ HS2.out hv).mono ?_; rintro e w3 ⟨rfl, b3⟩; have d0 := (b3.cell (p := ⟨w.heap.size, 0, none⟩) hszl).trans c0; have d1 := (b3.cell (p := ⟨w.heap.size, 1, none⟩) hszl).trans c1; have g0 := (b3.frozen (p := ⟨w.heap.size, 0, none⟩) hszl).trans f0; have g1 := (b3.frozen (p := ⟨w.heap.size, 1, none⟩) hszl).trans f1; have hfin2 := Lib.hid (hfin.trans (b3.mono (by omega))); have hsz3 := b3.size; have hszl3 : w.heap.size < w3.heap.size := (by omega); clear b3 hsz3))
      exact bodyPost_ret (v := .tuple #[.agg #[.int .i64 0, .int .i64 0], .bool false]) (by simp [results, Try.results7, go_sem, d0, d1, hszl3]) rfl ⟨rfl, ((hfin2.out.setCell (Nat.le_refl _) _).setCell (Nat.le_refl _) _).alloc (by simp; omega) _⟩
end Go.Proofs.Ytlehpfcealohoaa
