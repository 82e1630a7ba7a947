/-
  What the program says is agreed on: MostVotes, AgreedSpan, MiddleOf, FalseSources.
-/
import Derived.Test.YtoaldklkacmflaaIMost
import Derived.Test.YtoaldklkacmflaaNums
namespace Go.Proofs.Ytoaldklkacmflaa
open Go.RowKit
set_option linter.unusedVariables false
set_option maxHeartbeats 2000000 in
theorem ag_impl (B n c : Nat) (a : Option Addr) (l : List (Int × Int)) (w : World) (h : Sps B w a n l) (hB : B ≤ w.heap.size) : Calls Try.prog 36 #[.slice a n c] w fun e w' => e = .returned (.tuple #[.agg #[.int .i64 (V.rlo l), .int .i64 (V.rhi l)], .bool (V.agB l)]) ∧ Below w.heap.size w w' := by
  obtain ⟨hl, hn, _⟩ := id h
  have HL := Lib.hid hl
  have hb0 := (Below.refl w.heap.size w).alloc (Nat.le_refl _) (Obj.cells #[.int .i64 0, .int .i64 0] 30)
  have h1 := (h.more hB).below hb0
  have HB := Lib.hid hb0
  have HS1 := Lib.hid h1
  clear hl hb0 h h1
  go_enter Try.func36, Try.ntmps36
  cases hv : V.vs l
  · rw [(V.r_no (V.agB_no1 hv)).1, (V.r_no (V.agB_no1 hv)).2, V.agB_no1 hv]
    go_wp2_with (go_at_call 21; refine (vs_impl _ _ _ _ l _ HS1.out (by simp)).mono ?_; rw [hv]; rintro e w1 ⟨rfl, b1⟩; have b1 : Below (w.heap.size + 1) (w.alloc (Obj.cells #[.int .i64 0, .int .i64 0] 30)) w1 := (by simpa using b1); obtain ⟨c0, c1, f0, f1⟩ := two_below b1; have hfin := HB.out.trans (b1.mono (by omega)); have hsz := b1.size; have hszl : w.heap.size < w1.heap.size := (by simp at hsz; omega); clear b1 hsz)
    exact bodyPost_ret (v := .tuple #[.agg #[.int .i64 0, .int .i64 0], .bool false]) (by simp [results, Try.results36, go_sem, c0, c1]) rfl ⟨rfl, (hfin.setCell (Nat.le_refl _) _).setCell (Nat.le_refl _) _⟩
  · have hmost := V.most_le l
    have hl7 := (V.vs_of hv).1
    by_cases hm : l.length < 2 * V.most l
    · rw [(V.r_yes (V.agB_yes hv hm)).1, (V.r_yes (V.agB_yes hv hm)).2, V.agB_yes hv hm]
      have hm' : decide (2 * (V.most l : Int) ≤ (n : Int)) = false := by have := HL.out; simp; omega
      go_wp2_with (first | (go_at_call 21; refine (vs_impl _ _ _ _ l _ HS1.out (by simp)).mono ?_; rw [hv]; rintro e w1 ⟨rfl, b1⟩; have b1 : Below (w.heap.size + 1) (w.alloc (Obj.cells #[.int .i64 0, .int .i64 0] 30)) w1 := (by simpa using b1); obtain ⟨c0, c1, f0, f1⟩ := two_below b1; have hfin := HB.out.trans (b1.mono (by omega)); have hsz := b1.size; have hszl : w.heap.size < w1.heap.size := (by simp at hsz; omega); have HS2 := Lib.hid ((HS1.out.below (b1.mono (by omega))).more (show w.heap.size ≤ w1.heap.size by omega)); clear hsz) | (go_at_call 46; refine (mv_impl _ _ _ l _ HS2.out hv).mono ?_; rintro e w3 ⟨rfl, b3⟩; have d0 := (b3.cell (p := ⟨w.heap.size, 0, none⟩) hszl).trans c0; have d1 := (b3.cell (p := ⟨w.heap.size, 1, none⟩) hszl).trans c1; have g0 := (b3.frozen (p := ⟨w.heap.size, 0, none⟩) hszl).trans f0; have g1 := (b3.frozen (p := ⟨w.heap.size, 1, none⟩) hszl).trans f1; have hfin2 := Lib.hid (hfin.trans (b3.mono (by omega))); have hsz3 := b3.size; have hszl3 : w.heap.size < w3.heap.size := (by omega); clear b3 hsz3))
      exact bodyPost_ret (v := .tuple #[.agg #[.int .i64 (V.low l), .int .i64 (V.high l)], .bool true]) (by simp [results, Try.results36, go_sem, d0, d1, hszl3]) rfl ⟨rfl, ((hfin2.out.setCell (Nat.le_refl _) _).setCell (Nat.le_refl _) _).alloc (by simp; omega) _⟩
    · rw [(V.r_no (V.agB_no2 hm)).1, (V.r_no (V.agB_no2 hm)).2, V.agB_no2 hm]
      have hm' : (2 * (V.most l : Int) ≤ (n : Int)) := by have := HL.out; omega
      go_wp2_with (first | (go_at_call 21; refine (vs_impl _ _ _ _ l _ HS1.out (by simp)).mono ?_; rw [hv]; rintro e w1 ⟨rfl, b1⟩; have b1 : Below (w.heap.size + 1) (w.alloc (Obj.cells #[.int .i64 0, .int .i64 0] 30)) w1 := (by simpa using b1); obtain ⟨c0, c1, f0, f1⟩ := two_below b1; have hfin := HB.out.trans (b1.mono (by omega)); have hsz := b1.size; have hszl : w.heap.size < w1.heap.size := (by simp at hsz; omega); have HS2 := Lib.hid ((HS1.out.below (b1.mono (by omega))).more (show w.heap.size ≤ w1.heap.size by omega)); clear hsz) | (go_at_call 46; refine (mv_impl _ _ _ l _ HS2.out hv).mono ?_; rintro e w3 ⟨rfl, b3⟩; have d0 := (b3.cell (p := ⟨w.heap.size, 0, none⟩) hszl).trans c0; have d1 := (b3.cell (p := ⟨w.heap.size, 1, none⟩) hszl).trans c1; have g0 := (b3.frozen (p := ⟨w.heap.size, 0, none⟩) hszl).trans f0; have g1 := (b3.frozen (p := ⟨w.heap.size, 1, none⟩) hszl).trans f1; have hfin2 := Lib.hid (hfin.trans (b3.mono (by omega))); have hsz3 := b3.size; have hszl3 : w.heap.size < w3.heap.size := (by omega); clear b3 hsz3))
      exact bodyPost_ret (v := .tuple #[.agg #[.int .i64 0, .int .i64 0], .bool false]) (by simp [results, Try.results36, go_sem, d0, d1, hszl3]) rfl ⟨rfl, ((hfin2.out.setCell (Nat.le_refl _) _).setCell (Nat.le_refl _) _).alloc (by simp; omega) _⟩
theorem MO_impl (B n c : Nat) (a : Option Addr) (l : List (Int × Int)) (w : World) (h : Sps B w a n l) (hB : B ≤ w.heap.size) : Calls Try.prog 22 #[.slice a n c] w fun e w' => e = .returned (.tuple #[.int .i64 (V.mid l), .bool (V.agB l)]) ∧ Below w.heap.size w w' := by
  have hbd := V.r_bd l
  go_enter Try.func22, Try.ntmps22
  cases hv : V.agB l
  · go_wp2_with (go_at_call 36; refine (ag_impl _ _ _ _ l _ h hB).mono ?_; rw [hv]; rintro e w1 ⟨rfl, b1⟩)
    go_ret2
    exact ⟨by rw [V.mid_no hv]; rfl, b1.trans ((Below.refl _ _).alloc (Nat.le_refl _) _ |>.mono b1.size)⟩
  · go_wp2_with (go_at_call 36; refine (ag_impl _ _ _ _ l _ h hB).mono ?_; rw [hv]; rintro e w1 ⟨rfl, b1⟩)
    go_ret2
    exact ⟨by rw [V.mid_yes hv, ← (V.r_yes hv).1, ← (V.r_yes hv).2]; rfl, b1.trans ((Below.refl _ _).alloc (Nat.le_refl _) _ |>.mono b1.size)⟩
end Go.Proofs.Ytoaldklkacmflaa
