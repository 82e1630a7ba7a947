/-
  FormatPacket of the model once more: the bytes are the call's own.
-/
import Derived.Test.YtegkmdinnkbkiaaFormatS
namespace Go.Proofs.Ytegkmdinnkbkiaa
open Go.RowKit
set_option linter.unusedVariables false
set_option maxRecDepth 100000
theorem D.fb_bd {a b c d e f g h : Int} (k : D.Vp a b c d e f g h) (i : Nat) : 0 ≤ D.fb a b c d e f g h i ∧ D.fb a b c d e f g h i < 256 := by
  obtain ⟨h1, h2, h3, h4, _⟩ := k
  unfold D.fb
  repeat' split
  all_goals first | omega | exact D.dg_bd _ _
set_option maxHeartbeats 4000000 in
theorem FP_specO (a b c d e f g h : Int) (w : World) : Calls Try.prog 9 #[.agg #[.int .i64 a, .int .i64 b, .int .i64 c, .int .i64 d, .int .i64 e, .int .i64 f, .int .i64 g, .int .i64 h]] w fun r w' =>
    Below w.heap.size w w' ∧ ((D.vp a b c d e f g h = false ∧ r = .returned (.slice none 0 0)) ∨ (D.vp a b c d e f g h = true ∧ ∃ E cp, w.heap.size ≤ E ∧ E < w'.heap.size ∧ 23 ≤ cp ∧ r = .returned (.slice (some ⟨E, 0, none⟩) 23 cp) ∧ (∃ E0, w.heap.size ≤ E0 ∧ w'.ownsRow E0 5 1 (.slice (some ⟨E, 0, none⟩) 23 cp) 23 (D.xs a b c d e f g h)) ∧ ∀ i, i < 23 → w'.cell? ⟨E, i, none⟩ = some (.int .u8 (D.fb a b c d e f g h i)))) := by
  have bA := (Below.refl w.heap.size w).alloc (Nat.le_refl _) (.cells #[.int .i64 a, .int .i64 b, .int .i64 c, .int .i64 d, .int .i64 e, .int .i64 f, .int .i64 g, .int .i64 h] 24)
  have xA := C8.new w a b c d e f g h 24
  have k1 := fun w' => vp_spec a b c d e f g h w'
  rcases hv : D.vp a b c d e f g h with _ | _
  · simp only [hv] at k1
    clear hv
    go_enter Try.func9, Try.ntmps9
    go_wp2_with fail
    refine (k1 _).mono ?_
    rintro r w1 ⟨rfl, b1⟩
    have b2 := bA.trans (b1.mono bA.size)
    clear bA b1 xA k1
    go_wp2
    go_ret
    exact ⟨b2, .inl ⟨by trivial, rfl⟩⟩
  · have hvp := D.vp_of hv
    simp only [hv] at k1
    clear hv
    obtain ⟨i0, hi0, hz0, hz1, hz2⟩ := info_parts u8s_info
    have hI := Lib.hid hi0
    have hZ0 := Lib.hid hz0
    have hZ1 := Lib.hid hz1
    have hZ2 := Lib.hid hz2
    clear hi0 hz0 hz1 hz2
    have hst := And.intro (T.vs_of hvp.2.2.2.2.2.1) (And.intro (T.vs_of hvp.2.2.2.2.2.2.1) (T.vs_of hvp.2.2.2.2.2.2.2))
    have g1 : (64 * a + 32 + b) % 256 = 64 * a + 32 + b := by have := hvp.1; have := hvp.2.1; omega
    have g2 : c % 256 = c := by have := hvp.2.2.1; omega
    have g3 : d % 256 = d := by have := hvp.2.2.2.1; omega
    have e1 : IntKind.i64.wrap (64 * a) = 64 * a := IntWalk.i64_in _ (by have := hvp.1; omega)
    have e2 : IntKind.i64.wrap (64 * a + 32) = 64 * a + 32 := IntWalk.i64_in _ (by have := hvp.1; omega)
    have e3 : IntKind.i64.wrap (64 * a + 32 + b) = 64 * a + 32 + b := IntWalk.i64_in _ (by have := hvp.1; have := hvp.2.1; omega)
    have HV := Lib.hid (And.intro hvp.2.2.2.2.1 hst)
    clear hvp hst
    go_enter Try.func9, Try.ntmps9
    go_wp2_with fail
    refine (k1 _).mono ?_
    rintro r w1 ⟨rfl, b1⟩
    have b2 := bA.trans (b1.mono bA.size)
    have x1 := xA.bw b1
    clear bA b1 xA k1
    have X1 := x1.al (.cells #[.int .u8 (64 * a + 32 + b), .int .u8 c, .int .u8 d] 5)
    have O1 : OwB w (w1.alloc (.cells #[.int .u8 (64 * a + 32 + b), .int .u8 c, .int .u8 d] 5)) w1.heap.size (.slice (some ⟨w1.heap.size, 0, none⟩) 3 3) [.int .u8 (64 * a + 32 + b), .int .u8 c, .int .u8 d] :=
      ⟨⟨rfl, .inr ⟨w1.heap.size, 3, #[.int .u8 (64 * a + 32 + b), .int .u8 c, .int .u8 d], rfl, Nat.le_refl _, heap_alloc_new w1 _, Nat.le_refl _, by unfold maxLen; omega, rfl, rfl⟩⟩, b2.alloc b2.size _, b2.size, by simp⟩
    have p0 := x1.c0
    have p1 := x1.c1
    have p2 := x1.c2
    have p3 := x1.c3
    have p4 := X1.c4
    have hPE := x1.lt
    generalize hP : w.heap.size = P at p0 p1 p2 p3 p4 x1 X1 hPE ⊢
    clear x1
    go_upto_region 4 with (fail)
    clear p0 p1 p2 p3 e1 e2 e3 g1 g2 g3 b2
    generalize w1.alloc (.cells #[.int .u8 (64 * a + 32 + b), .int .u8 c, .int .u8 d] 5) = W1 at *
    generalize w1.heap.size = E at *
    go_wp2_with fail
    refine (bo_spec 2 e _ (by omega) (by have := HV.out.1; omega)).mono ?_
    rintro r w2 ⟨rfl, b2, l2, c2⟩
    have X2 := X1.bw b2
    have O2 := O1.b b2
    clear X1 O1 p4 b2
    go_wp2_with (at_builtin; refine wpList_append_own _ rfl _ _ 22 rfl E 5 i0 (.int .u8 0) 1 1 Try.underlying22 hI.out hZ0.out hZ1.out hZ2.out rfl (by decide) _ _ _ rfl O2.own ⟨W1.heap.size, 0, none⟩ 2 2 (D.bs 2 e) rfl (D.bs_len _ _) (D.bs_cells c2) (D.bs_one _ _) (by simp [maxLen]) (by simp) O2.hi ?_)
    intro v2 W2 own2 hg2 _
    have X2 := X2.grown hg2 (fun q hq => Nat.lt_of_lt_of_le hPE (O2.own.lt q hq).1)
    have O2 := O2.grown own2 hg2
    clear own2 hg2 c2 l2
    have p5 := X2.c5
    go_wp2_with fail
    refine (bo_spec 6 f _ (by omega) (by have := HV.out.2.1; omega)).mono ?_
    rintro r w3 ⟨rfl, b3, l3, c3⟩
    have X3 := X2.bw b3
    have O3 := O2.b b3
    clear X2 O2 p5 b3
    go_wp2_with (at_builtin; refine wpList_append_own _ rfl _ _ 22 rfl E 5 i0 (.int .u8 0) 1 1 Try.underlying22 hI.out hZ0.out hZ1.out hZ2.out rfl (by decide) _ _ _ rfl O3.own ⟨W2.heap.size, 0, none⟩ 6 6 (D.bs 6 f) rfl (D.bs_len _ _) (D.bs_cells c3) (D.bs_one _ _) (by simp [maxLen]) (by simp) O3.hi ?_)
    intro v3 W3 own3 hg3 _
    have X3 := X3.grown hg3 (fun q hq => Nat.lt_of_lt_of_le hPE (O3.own.lt q hq).1)
    have O3 := O3.grown own3 hg3
    clear own3 hg3 c3 l3
    have p6 := X3.c6
    go_wp2_with fail
    refine (bo_spec 6 g _ (by omega) (by have := HV.out.2.2.1; omega)).mono ?_
    rintro r w4 ⟨rfl, b4, l4, c4⟩
    have X4 := X3.bw b4
    have O4 := O3.b b4
    clear X3 O3 p6 b4
    go_wp2_with (at_builtin; refine wpList_append_own _ rfl _ _ 22 rfl E 5 i0 (.int .u8 0) 1 1 Try.underlying22 hI.out hZ0.out hZ1.out hZ2.out rfl (by decide) _ _ _ rfl O4.own ⟨W3.heap.size, 0, none⟩ 6 6 (D.bs 6 g) rfl (D.bs_len _ _) (D.bs_cells c4) (D.bs_one _ _) (by simp [maxLen]) (by simp) O4.hi ?_)
    intro v4 W4 own4 hg4 _
    have X4 := X4.grown hg4 (fun q hq => Nat.lt_of_lt_of_le hPE (O4.own.lt q hq).1)
    have O4 := O4.grown own4 hg4
    clear own4 hg4 c4 l4
    have p7 := X4.c7
    go_wp2_with fail
    refine (bo_spec 6 h _ (by omega) (by have := HV.out.2.2.2; omega)).mono ?_
    rintro r w5 ⟨rfl, b5, l5, c5⟩
    have X5 := X4.bw b5
    have O5 := O4.b b5
    clear X4 O4 p7 b5
    go_wp2_with (at_builtin; refine wpList_append_own _ rfl _ _ 22 rfl E 5 i0 (.int .u8 0) 1 1 Try.underlying22 hI.out hZ0.out hZ1.out hZ2.out rfl (by decide) _ _ _ rfl O5.own ⟨W4.heap.size, 0, none⟩ 6 6 (D.bs 6 h) rfl (D.bs_len _ _) (D.bs_cells c5) (D.bs_one _ _) (by simp [maxLen]) (by simp) O5.hi ?_)
    intro v5 W5 own5 hg5 _
    have X5 := X5.grown hg5 (fun q hq => Nat.lt_of_lt_of_le hPE (O5.own.lt q hq).1)
    have O5 := O5.grown own5 hg5
    clear own5 hg5 c5 l5
    have p7 := X5.c7
    have O5 : OwB w W5 E v5 (D.xs a b c d e f g h) := O5
    have hown := O5.own
    rw [D.xs_len] at hown
    obtain ⟨q, cq, rfl, hq0, hq1⟩ := hown.form (by omega)
    have hcq : 23 ≤ cq := by
      rcases hown.2 with ⟨hv, _⟩ | ⟨g', cap', cur', hv, _, _, hle, _⟩
      · cases hv
      · injection hv with _ _ hv; omega
    have hcells : ∀ i, i < 23 → W5.cell? ⟨q, i, none⟩ = some (.int .u8 (D.fb a b c d e f g h i)) := fun i hi => by
      have := hown.cells (g := q) rfl i _ (D.xs_get a b c d e f g h i hi)
      rwa [show (Addr.add ⟨q, 0, none⟩ i) = ⟨q, i, none⟩ from by unfold Addr.add; split <;> simp_all] at this
    have hfin := O5.bel
    have hlo := O5.lo
    have HF := Lib.hid (And.intro hfin (And.intro (Nat.le_trans hlo hq0) (And.intro hq1 (And.intro hcq (And.intro (show ∃ E0, w.heap.size ≤ E0 ∧ W5.ownsRow E0 5 1 (.slice (some ⟨q, 0, none⟩) 23 cq) 23 (D.xs a b c d e f g h) from ⟨E, hlo, hown⟩) hcells)))))
    clear O5 X5 hown hfin hlo hq0 hq1 hcq hcells p7
    go_wp2
    go_ret
    obtain ⟨f1, f2, f3, f4, f5, f6⟩ := HF.out
    exact ⟨f1, .inr ⟨by trivial, q, cq, f2, f3, f4, rfl, f5, f6⟩⟩
end Go.Proofs.Ytegkmdinnkbkiaa
