/-
  Packets (chapter 10): the packet of bytes; the model's function. (Written by wip/tools/gen_parse.py.)
-/
import Derived.Test.YtegkmdinnkbkiaaParse
namespace Go.Proofs.Ytegkmdinnkbkiaa
open Go.RowKit
set_option linter.unusedVariables false
set_option maxRecDepth 100000
set_option maxHeartbeats 16000000 in
theorem PP_spec (n cp : Nat) (a : Option Addr) (f : Nat → Int) (w : World) (h : Bts w.heap.size w a n f) (hf : ∀ i, 0 ≤ f i ∧ f i < 256) (hn : n ≤ 1048576) (hcp : n ≤ cp) : Calls Try.prog 12 #[.slice a n cp] w fun e w' => e = .returned (D.pr n f) ∧ Below w.heap.size w w' := by
  have bR := (Below.refl w.heap.size w).alloc (Nat.le_refl _) (.cells #[.int .i64 0, .int .i64 0, .int .i64 0, .int .i64 0, .int .i64 0, .int .i64 0, .int .i64 0, .int .i64 0] 24)
  have zR0 : CN (w.alloc (.cells #[.int .i64 0, .int .i64 0, .int .i64 0, .int .i64 0, .int .i64 0, .int .i64 0, .int .i64 0, .int .i64 0] 24)) w.heap.size [0, 0, 0, 0, 0, 0, 0, 0] := CN.new _ _
  have hRl : w.heap.size < (w.alloc (.cells #[.int .i64 0, .int .i64 0, .int .i64 0, .int .i64 0, .int .i64 0, .int .i64 0, .int .i64 0, .int .i64 0] 24)).heap.size := by simp
  have hU := (h.below bR).more bR.size
  by_cases h23 : n = 23
  rotate_left
  · have HT := Lib.hid (D.pr_no (n := n) (f := f) (fun k => h23 k.1))
    have hne : ((n : Int) == 23) = false := by rw [beq_eq_false_iff_ne]; omega
    have hnI : ¬ (n : Int) = 23 := by omega
    have HZ := Lib.hid (((((((((bR.setCell (p := ⟨w.heap.size, 0, none⟩) (Nat.le_refl _) (.int .i64 0)).setCell (p := ⟨w.heap.size, 1, none⟩) (Nat.le_refl _) (.int .i64 0)).setCell (p := ⟨w.heap.size, 2, none⟩) (Nat.le_refl _) (.int .i64 0)).setCell (p := ⟨w.heap.size, 3, none⟩) (Nat.le_refl _) (.int .i64 0)).setCell (p := ⟨w.heap.size, 4, none⟩) (Nat.le_refl _) (.int .i64 0)).setCell (p := ⟨w.heap.size, 5, none⟩) (Nat.le_refl _) (.int .i64 0)).setCell (p := ⟨w.heap.size, 6, none⟩) (Nat.le_refl _) (.int .i64 0)).setCell (p := ⟨w.heap.size, 7, none⟩) (Nat.le_refl _) (.int .i64 0)))
    clear hU hRl bR h
    go_enter Try.func12, Try.ntmps12
    go_upto_region 1 with (fail)
    generalize w.alloc (.cells #[.int .i64 0, .int .i64 0, .int .i64 0, .int .i64 0, .int .i64 0, .int .i64 0, .int .i64 0, .int .i64 0] 24) = V0 at *
    have u0 : V0.cell? ⟨w.heap.size, 0, none⟩ = some (.int .i64 0) := (zR0.at_ 0 (by simp)).1
    have v0 := (zR0.at_ 0 (by simp)).2
    have u1 : V0.cell? ⟨w.heap.size, 1, none⟩ = some (.int .i64 0) := (zR0.at_ 1 (by simp)).1
    have v1 := (zR0.at_ 1 (by simp)).2
    have u2 : V0.cell? ⟨w.heap.size, 2, none⟩ = some (.int .i64 0) := (zR0.at_ 2 (by simp)).1
    have v2 := (zR0.at_ 2 (by simp)).2
    have u3 : V0.cell? ⟨w.heap.size, 3, none⟩ = some (.int .i64 0) := (zR0.at_ 3 (by simp)).1
    have v3 := (zR0.at_ 3 (by simp)).2
    have u4 : V0.cell? ⟨w.heap.size, 4, none⟩ = some (.int .i64 0) := (zR0.at_ 4 (by simp)).1
    have v4 := (zR0.at_ 4 (by simp)).2
    have u5 : V0.cell? ⟨w.heap.size, 5, none⟩ = some (.int .i64 0) := (zR0.at_ 5 (by simp)).1
    have v5 := (zR0.at_ 5 (by simp)).2
    have u6 : V0.cell? ⟨w.heap.size, 6, none⟩ = some (.int .i64 0) := (zR0.at_ 6 (by simp)).1
    have v6 := (zR0.at_ 6 (by simp)).2
    have u7 : V0.cell? ⟨w.heap.size, 7, none⟩ = some (.int .i64 0) := (zR0.at_ 7 (by simp)).1
    have v7 := (zR0.at_ 7 (by simp)).2
    clear zR0
    go_wp2
    exact bodyPost_ret (v := .tuple #[.agg #[.int .i64 0, .int .i64 0, .int .i64 0, .int .i64 0, .int .i64 0, .int .i64 0, .int .i64 0, .int .i64 0], .bool false]) (by simp [results, Try.results12, go_sem, u0, u1, u2, u3, u4, u5, u6, u7]) rfl ⟨by rw [HT.out]; first | done | rfl, HZ.out⟩
  subst h23
  obtain ⟨b, off, rfl, hb, hcl⟩ := hU.at_ 0 (by omega)
  have s00 := hcl 0 (by omega)
  rw [Nat.add_zero] at s00
  have hcI : (23 : Int) ≤ (cp : Int) := by omega
  have hf0 := hf 0
  clear h
  by_cases hver : f 0 / 8 % 8 = 4
  rotate_left
  · have HT := Lib.hid (D.pr_no (n := 23) (f := f) (fun k => hver k.2.1))
    have HZ := Lib.hid (((((((((bR.setCell (p := ⟨w.heap.size, 0, none⟩) (Nat.le_refl _) (.int .i64 0)).setCell (p := ⟨w.heap.size, 1, none⟩) (Nat.le_refl _) (.int .i64 0)).setCell (p := ⟨w.heap.size, 2, none⟩) (Nat.le_refl _) (.int .i64 0)).setCell (p := ⟨w.heap.size, 3, none⟩) (Nat.le_refl _) (.int .i64 0)).setCell (p := ⟨w.heap.size, 4, none⟩) (Nat.le_refl _) (.int .i64 0)).setCell (p := ⟨w.heap.size, 5, none⟩) (Nat.le_refl _) (.int .i64 0)).setCell (p := ⟨w.heap.size, 6, none⟩) (Nat.le_refl _) (.int .i64 0)).setCell (p := ⟨w.heap.size, 7, none⟩) (Nat.le_refl _) (.int .i64 0)))
    have g0 : IntKind.i64.wrap (f 0) = f 0 := IntWalk.i64_in _ (by omega)
    have g2 : (f 0 / 8 % 8 == 4) = false := by rw [beq_eq_false_iff_ne]; exact hver
    clear hU hRl bR hcl
    generalize f 0 = f0 at *
    go_enter Try.func12, Try.ntmps12
    go_upto_region 1 with (fail)
    generalize w.alloc (.cells #[.int .i64 0, .int .i64 0, .int .i64 0, .int .i64 0, .int .i64 0, .int .i64 0, .int .i64 0, .int .i64 0] 24) = V0 at *
    have u0 : V0.cell? ⟨w.heap.size, 0, none⟩ = some (.int .i64 0) := (zR0.at_ 0 (by simp)).1
    have v0 := (zR0.at_ 0 (by simp)).2
    have u1 : V0.cell? ⟨w.heap.size, 1, none⟩ = some (.int .i64 0) := (zR0.at_ 1 (by simp)).1
    have v1 := (zR0.at_ 1 (by simp)).2
    have u2 : V0.cell? ⟨w.heap.size, 2, none⟩ = some (.int .i64 0) := (zR0.at_ 2 (by simp)).1
    have v2 := (zR0.at_ 2 (by simp)).2
    have u3 : V0.cell? ⟨w.heap.size, 3, none⟩ = some (.int .i64 0) := (zR0.at_ 3 (by simp)).1
    have v3 := (zR0.at_ 3 (by simp)).2
    have u4 : V0.cell? ⟨w.heap.size, 4, none⟩ = some (.int .i64 0) := (zR0.at_ 4 (by simp)).1
    have v4 := (zR0.at_ 4 (by simp)).2
    have u5 : V0.cell? ⟨w.heap.size, 5, none⟩ = some (.int .i64 0) := (zR0.at_ 5 (by simp)).1
    have v5 := (zR0.at_ 5 (by simp)).2
    have u6 : V0.cell? ⟨w.heap.size, 6, none⟩ = some (.int .i64 0) := (zR0.at_ 6 (by simp)).1
    have v6 := (zR0.at_ 6 (by simp)).2
    have u7 : V0.cell? ⟨w.heap.size, 7, none⟩ = some (.int .i64 0) := (zR0.at_ 7 (by simp)).1
    have v7 := (zR0.at_ 7 (by simp)).2
    clear zR0
    go_wp2
    exact bodyPost_ret (v := .tuple #[.agg #[.int .i64 0, .int .i64 0, .int .i64 0, .int .i64 0, .int .i64 0, .int .i64 0, .int .i64 0, .int .i64 0], .bool false]) (by simp [results, Try.results12, go_sem, u0, u1, u2, u3, u4, u5, u6, u7]) rfl ⟨by rw [HT.out]; first | done | rfl, HZ.out⟩
  · have c1 : ¬ cp = 1 := by omega
    have c2 : ¬ cp = 2 := by omega
    have c3 : ¬ cp = 3 := by omega
    have c5 : ¬ cp = 5 := by omega
    have c11 : ¬ cp = 11 := by omega
    have c17 : ¬ cp = 17 := by omega
    have i1 : (1 : Int) ≤ (cp : Int) := by omega
    have i2 : (2 : Int) ≤ (cp : Int) := by omega
    have i3 : (3 : Int) ≤ (cp : Int) := by omega
    have i5 : (5 : Int) ≤ (cp : Int) := by omega
    have i11 : (11 : Int) ≤ (cp : Int) := by omega
    have i17 : (17 : Int) ≤ (cp : Int) := by omega
    have g0 : IntKind.i64.wrap (f 0) = f 0 := IntWalk.i64_in _ (by omega)
    have g5 : IntKind.i64.wrap ((f 0).tdiv 64) = D.pa f := by rw [Int.tdiv_eq_ediv_of_nonneg hf0.1, show D.pa f = f 0 / 64 from rfl]; exact IntWalk.i64_in _ (by omega)
    have g6 : (f 0).tmod 8 = D.pb f := Int.tmod_eq_emod_of_nonneg hf0.1
    have s01 := hcl 1 (by omega)
    have s02 := hcl 2 (by omega)
    have hf1 := hf 1
    have hf2 := hf 2
    have g3 : IntKind.i64.wrap (f 1) = D.pc f := by rw [show D.pc f = f 1 from rfl]; exact IntWalk.i64_in _ (by omega)
    have g4 : IntKind.i64.wrap (f 2) = D.pd f := by rw [show D.pd f = f 2 from rfl]; exact IntWalk.i64_in _ (by omega)
    clear hcl hcp
    go_enter Try.func12, Try.ntmps12
    go_wp2_with fail
    generalize w.alloc (.cells #[.int .i64 0, .int .i64 0, .int .i64 0, .int .i64 0, .int .i64 0, .int .i64 0, .int .i64 0, .int .i64 0] 24) = V0 at *
    refine wp_region_held_drew (S := (fun w' => w'.cell? ⟨b, off, none⟩ = some (.int .u8 (f 0)) ∧ w'.cell? ⟨b, off + 1, none⟩ = some (.int .u8 (f 1)) ∧ w'.cell? ⟨b, off + 2, none⟩ = some (.int .u8 (f 2)))) (by kernel_rfl) (⟨s00, s01, s02⟩) (fun hHeld => ?_)
    have s0 : V0.drew.cell? ⟨b, off, none⟩ = some (.int .u8 (f 0)) := s00
    have s1 : V0.drew.cell? ⟨b, off + 1, none⟩ = some (.int .u8 (f 1)) := s01
    have s2 : V0.drew.cell? ⟨b, off + 2, none⟩ = some (.int .u8 (f 2)) := s02
    have bV := bR.drew
    have zR : CN V0.drew w.heap.size [0, 0, 0, 0, 0, 0, 0, 0] := zR0.same ⟨1, rfl⟩
    have hV : Bts V0.drew.heap.size V0.drew (some ⟨b, off, none⟩) 23 f := hU
    have hb : b < V0.drew.heap.size := hb
    have hRl : w.heap.size < V0.drew.heap.size := hRl
    clear s00 s01 s02 bR zR0 hU
    generalize V0.drew = V at *
    have bW := Below.refl V.heap.size V
    refine wpAnyH_take (i := 0) (v := ?_) rfl (by kernel_rfl) (by kernel_rfl) (by kernel_rfl) (fun _ _ _ h => h) (Or.inl ⟨by rfl, ?_⟩) (by assumption) ?_
    rotate_left
    · intro w hSw
      (try dsimp only at hSw)
      go_simp
      all_goals with_reducible rfl
    try simp only [Act.put, List.setIfInBounds_toArray, List.set_cons_zero, List.set_cons_succ, List.getElem_toArray, List.getElem_cons_zero]
    refine wpAnyH_take (i := 1) (v := ?_) rfl (by kernel_rfl) (by kernel_rfl) (by kernel_rfl) (fun _ _ _ h => h) (Or.inl ⟨by rfl, ?_⟩) (by assumption) ?_
    rotate_left
    · intro w hSw
      (try dsimp only at hSw)
      go_simp
      all_goals with_reducible rfl
    try simp only [Act.put, List.setIfInBounds_toArray, List.set_cons_zero, List.set_cons_succ, List.getElem_toArray, List.getElem_cons_zero, List.getElem_cons_succ]
    refine wpAnyH_take (i := 2) (v := ?_) rfl (by kernel_rfl) (by kernel_rfl) (by kernel_rfl) (fun _ _ _ h => h) (Or.inl ⟨by rfl, ?_⟩) (by assumption) ?_
    rotate_left
    · intro w hSw
      (try dsimp only at hSw)
      go_simp
      all_goals with_reducible rfl
    try simp only [Act.put, List.setIfInBounds_toArray, List.set_cons_zero, List.set_cons_succ, List.getElem_toArray, List.getElem_cons_zero, List.getElem_cons_succ]
    refine wpAnyH_take (i := 3) (v := ?_) rfl (by kernel_rfl) (by kernel_rfl) (by kernel_rfl) (fun _ _ _ h => h) (Or.inl ⟨by rfl, ?_⟩) (by assumption) ?_
    rotate_left
    · intro w hSw
      (try dsimp only at hSw)
      go_simp
      all_goals with_reducible rfl
    try simp only [Act.put, List.setIfInBounds_toArray, List.set_cons_zero, List.set_cons_succ, List.getElem_toArray, List.getElem_cons_zero, List.getElem_cons_succ]
    refine wpAnyH_take (i := 4) (v := ?_) rfl (by kernel_rfl) (by kernel_rfl) (by kernel_rfl) (fun _ _ _ h => h) (Or.inl ⟨by rfl, ?_⟩) (by assumption) ?_
    rotate_left
    · intro w hSw
      (try dsimp only at hSw)
      go_simp
      all_goals with_reducible rfl
    try simp only [Act.put, List.setIfInBounds_toArray, List.set_cons_zero, List.set_cons_succ, List.getElem_toArray, List.getElem_cons_zero, List.getElem_cons_succ]
    refine wpAnyH_take (i := 5) (v := ?_) rfl (by kernel_rfl) (by kernel_rfl) (by kernel_rfl) (fun _ _ _ h => h) (Or.inl ⟨by rfl, ?_⟩) (by assumption) ?_
    rotate_left
    · intro w hSw
      (try dsimp only at hSw)
      go_simp
      all_goals with_reducible rfl
    try simp only [Act.put, List.setIfInBounds_toArray, List.set_cons_zero, List.set_cons_succ, List.getElem_toArray, List.getElem_cons_zero, List.getElem_cons_succ]
    refine wpAnyH_take (i := 6) (v := ?_) rfl (by kernel_rfl) (by kernel_rfl) (by kernel_rfl) (fun _ _ _ h => h) (Or.inl ⟨by rfl, ?_⟩) (by assumption) ?_
    rotate_left
    · intro w hSw
      (try dsimp only at hSw)
      go_simp
      all_goals with_reducible rfl
    try simp only [Act.put, List.setIfInBounds_toArray, List.set_cons_zero, List.set_cons_succ, List.getElem_toArray, List.getElem_cons_zero, List.getElem_cons_succ]
    refine wpAnyH_take (i := 7) (v := ?_) rfl (by kernel_rfl) (by kernel_rfl) (by kernel_rfl) (fun _ _ _ h => h) (Or.inl ⟨by rfl, ?_⟩) (by assumption) ?_
    rotate_left
    · intro w hSw
      (try dsimp only at hSw)
      go_simp
      all_goals with_reducible rfl
    try simp only [Act.put, List.setIfInBounds_toArray, List.set_cons_zero, List.set_cons_succ, List.getElem_toArray, List.getElem_cons_zero, List.getElem_cons_succ]
    refine wpAnyH_take (i := 8) (v := ?_) rfl (by kernel_rfl) (by kernel_rfl) (by kernel_rfl) (fun _ _ _ h => h) (Or.inl ⟨by rfl, ?_⟩) (by assumption) ?_
    rotate_left
    · intro w hSw
      (try dsimp only at hSw)
      go_simp
      all_goals with_reducible rfl
    try simp only [Act.put, List.setIfInBounds_toArray, List.set_cons_zero, List.set_cons_succ, List.getElem_toArray, List.getElem_cons_zero, List.getElem_cons_succ]
    refine wpAnyH_take (i := 9) (v := ?_) rfl (by kernel_rfl) (by kernel_rfl) (by kernel_rfl) (fun _ _ _ h => h) (Or.inl ⟨by rfl, ?_⟩) (by assumption) ?_
    rotate_left
    · intro w hSw
      (try dsimp only at hSw)
      go_simp
      all_goals with_reducible rfl
    try simp only [Act.put, List.setIfInBounds_toArray, List.set_cons_zero, List.set_cons_succ, List.getElem_toArray, List.getElem_cons_zero, List.getElem_cons_succ]
    refine wpAnyH_take (i := 10) (v := ?_) rfl (by kernel_rfl) (by kernel_rfl) (by kernel_rfl) (fun _ _ _ h => h) (Or.inl ⟨by rfl, ?_⟩) (by assumption) ?_
    rotate_left
    · intro w hSw
      (try dsimp only at hSw)
      go_simp
      all_goals with_reducible rfl
    try simp only [Act.put, List.setIfInBounds_toArray, List.set_cons_zero, List.set_cons_succ, List.getElem_toArray, List.getElem_cons_zero, List.getElem_cons_succ]
    refine wpAnyH_take (i := 11) (v := ?_) rfl (by kernel_rfl) (by kernel_rfl) (by kernel_rfl) (fun _ _ _ h => h) (Or.inl ⟨by rfl, ?_⟩) (by assumption) ?_
    rotate_left
    · intro w hSw
      (try dsimp only at hSw)
      go_simp
      all_goals with_reducible rfl
    try simp only [Act.put, List.setIfInBounds_toArray, List.set_cons_zero, List.set_cons_succ, List.getElem_toArray, List.getElem_cons_zero, List.getElem_cons_succ]
    refine wpAnyH_take (i := 12) (v := ?_) rfl (by kernel_rfl) (by kernel_rfl) (by kernel_rfl) (fun _ _ _ h => h) (Or.inl ⟨by rfl, ?_⟩) (by assumption) ?_
    rotate_left
    · intro w hSw
      (try dsimp only at hSw)
      go_simp
      all_goals with_reducible rfl
    try simp only [Act.put, List.setIfInBounds_toArray, List.set_cons_zero, List.set_cons_succ, List.getElem_toArray, List.getElem_cons_zero, List.getElem_cons_succ]
    refine wpAnyH_take (i := 13) (v := ?_) rfl (by kernel_rfl) (by kernel_rfl) (by kernel_rfl) (fun _ _ _ h => h) (Or.inl ⟨by rfl, ?_⟩) (by assumption) ?_
    rotate_left
    · intro w hSw
      (try dsimp only at hSw)
      go_simp
      all_goals with_reducible rfl
    try simp only [Act.put, List.setIfInBounds_toArray, List.set_cons_zero, List.set_cons_succ, List.getElem_toArray, List.getElem_cons_zero, List.getElem_cons_succ]
    refine wpAnyH_take (i := 14) (v := ?_) rfl (by kernel_rfl) (by kernel_rfl) (by kernel_rfl) (fun _ _ _ h => h) (Or.inl ⟨by rfl, ?_⟩) (by assumption) ?_
    rotate_left
    · intro w hSw
      (try dsimp only at hSw)
      go_simp
      all_goals with_reducible rfl
    try simp only [Act.put, List.setIfInBounds_toArray, List.set_cons_zero, List.set_cons_succ, List.getElem_toArray, List.getElem_cons_zero, List.getElem_cons_succ]
    refine wpAnyH_take (i := 15) (v := ?_) rfl (by kernel_rfl) (by kernel_rfl) (by kernel_rfl) (fun _ _ _ h => h) (Or.inl ⟨by rfl, ?_⟩) (by assumption) ?_
    rotate_left
    · intro w hSw
      (try dsimp only at hSw)
      go_simp
      all_goals with_reducible rfl
    try simp only [Act.put, List.setIfInBounds_toArray, List.set_cons_zero, List.set_cons_succ, List.getElem_toArray, List.getElem_cons_zero, List.getElem_cons_succ]
    refine wpAnyH_take (i := 16) (v := ?_) rfl (by kernel_rfl) (by kernel_rfl) (by kernel_rfl) (fun _ _ _ h => h) (Or.inl ⟨by rfl, ?_⟩) (by assumption) ?_
    rotate_left
    · intro w hSw
      (try dsimp only at hSw)
      go_simp
      all_goals with_reducible rfl
    try simp only [Act.put, List.setIfInBounds_toArray, List.set_cons_zero, List.set_cons_succ, List.getElem_toArray, List.getElem_cons_zero, List.getElem_cons_succ]
    refine wpAnyH_take (i := 17) (v := ?_) rfl (by kernel_rfl) (by kernel_rfl) (by kernel_rfl) (fun _ _ _ h => h) (Or.inl ⟨by rfl, ?_⟩) (by assumption) ?_
    rotate_left
    · intro w hSw
      (try dsimp only at hSw)
      go_simp
      all_goals with_reducible rfl
    try simp only [Act.put, List.setIfInBounds_toArray, List.set_cons_zero, List.set_cons_succ, List.getElem_toArray, List.getElem_cons_zero, List.getElem_cons_succ]
    refine wpAnyH_take (i := 18) (v := ?_) rfl (by kernel_rfl) (by kernel_rfl) (by kernel_rfl) (fun _ _ _ h => h) (Or.inl ⟨by rfl, ?_⟩) (by assumption) ?_
    rotate_left
    · intro w hSw
      (try dsimp only at hSw)
      go_simp
      all_goals with_reducible rfl
    try simp only [Act.put, List.setIfInBounds_toArray, List.set_cons_zero, List.set_cons_succ, List.getElem_toArray, List.getElem_cons_zero, List.getElem_cons_succ]
    refine wpAnyH_take (i := 19) (v := ?_) rfl (by kernel_rfl) (by kernel_rfl) (by kernel_rfl) (fun _ _ _ h => h) (Or.inl ⟨by rfl, ?_⟩) (by assumption) ?_
    rotate_left
    · intro w hSw
      (try dsimp only at hSw)
      go_simp
      all_goals with_reducible rfl
    try simp only [Act.put, List.setIfInBounds_toArray, List.set_cons_zero, List.set_cons_succ, List.getElem_toArray, List.getElem_cons_zero, List.getElem_cons_succ]
    refine wpAnyH_take (i := 21) (v := ?_) rfl (by kernel_rfl) (by kernel_rfl) (by kernel_rfl) (fun _ _ _ h => h) (Or.inl ⟨by rfl, ?_⟩) (by assumption) ?_
    rotate_left
    · intro w hSw
      (try dsimp only at hSw)
      go_simp
      all_goals with_reducible rfl
    try simp only [Act.put, List.setIfInBounds_toArray, List.set_cons_zero, List.set_cons_succ, List.getElem_toArray, List.getElem_cons_zero, List.getElem_cons_succ]
    refine wpAnyH_take (i := 22) (v := ?_) rfl (by kernel_rfl) (by kernel_rfl) (by kernel_rfl) (fun _ _ _ h => h) (Or.inl ⟨by rfl, ?_⟩) (by assumption) ?_
    rotate_left
    · intro w hSw
      (try dsimp only at hSw)
      go_simp
      all_goals with_reducible rfl
    try simp only [Act.put, List.setIfInBounds_toArray, List.set_cons_zero, List.set_cons_succ, List.getElem_toArray, List.getElem_cons_zero, List.getElem_cons_succ]
    refine wpAnyH_take (i := 24) (v := ?_) rfl (by kernel_rfl) (by kernel_rfl) (by kernel_rfl) (fun _ _ _ h => h) (Or.inl ⟨by rfl, ?_⟩) (by assumption) ?_
    rotate_left
    · intro w hSw
      (try dsimp only at hSw)
      go_simp
      all_goals with_reducible rfl
    try simp only [Act.put, List.setIfInBounds_toArray, List.set_cons_zero, List.set_cons_succ, List.getElem_toArray, List.getElem_cons_zero, List.getElem_cons_succ]
    refine wpAnyH_take (i := 25) (v := ?_) rfl (by kernel_rfl) (by kernel_rfl) (by kernel_rfl) (fun _ _ _ h => h) (Or.inl ⟨by rfl, ?_⟩) (by assumption) ?_
    rotate_left
    · intro w hSw
      (try dsimp only at hSw)
      go_simp
      all_goals with_reducible rfl
    try simp only [Act.put, List.setIfInBounds_toArray, List.set_cons_zero, List.set_cons_succ, List.getElem_toArray, List.getElem_cons_zero, List.getElem_cons_succ]
    refine wpAnyH_take (i := 27) (v := ?_) rfl (by kernel_rfl) (by kernel_rfl) (by kernel_rfl) (fun _ _ _ h => h) (Or.inl ⟨by rfl, ?_⟩) (by assumption) ?_
    rotate_left
    · intro w hSw
      (try dsimp only at hSw)
      go_simp
      all_goals with_reducible rfl
    try simp only [Act.put, List.setIfInBounds_toArray, List.set_cons_zero, List.set_cons_succ, List.getElem_toArray, List.getElem_cons_zero, List.getElem_cons_succ]
    refine wpAnyH_take (i := 28) (v := ?_) rfl (by kernel_rfl) (by kernel_rfl) (by kernel_rfl) (fun _ _ _ h => h) (Or.inl ⟨by rfl, ?_⟩) (by assumption) ?_
    rotate_left
    · intro w hSw
      (try dsimp only at hSw)
      go_simp
      all_goals with_reducible rfl
    try simp only [Act.put, List.setIfInBounds_toArray, List.set_cons_zero, List.set_cons_succ, List.getElem_toArray, List.getElem_cons_zero, List.getElem_cons_succ]
    refine wpAnyH_ready (rs := [20, 31]) (by kernel_rfl) (by simp) ?_
    refine AllReadyH.cons rfl (fun K hK => ?_) (AllReadyH.cons rfl (fun K hK => ?_) AllReadyH.nil)
    · go_simp
      (go_at_call 24; refine (nm_spec_pe V _ b off _ f hV hf bW).mono ?_; rintro r w1 ⟨rfl, q1⟩)
      have bW := bW.trans (q1.below (B := V.heap.size))
      refine hK.out _ _ (⟨(bW.cell (p := ⟨b, off, none⟩) hb).trans s0, (bW.cell (p := ⟨b, off + 1, none⟩) hb).trans s1, (bW.cell (p := ⟨b, off + 2, none⟩) hb).trans s2⟩) (fun hHeld => ?_)
      clear hK K q1
      try simp only [Act.put, List.setIfInBounds_toArray, List.set_cons_zero, List.set_cons_succ, List.getElem_toArray, List.getElem_cons_zero, List.getElem_cons_succ]
      refine wpAnyH_ready (rs := [23, 31]) (by kernel_rfl) (by simp) ?_
      refine AllReadyH.cons rfl (fun K hK => ?_) (AllReadyH.cons rfl (fun K hK => ?_) AllReadyH.nil)
      · go_simp
        (go_at_call 24; refine (nm_spec_pf V _ b off _ f hV hf bW).mono ?_; rintro r w2 ⟨rfl, q2⟩)
        have bW := bW.trans (q2.below (B := V.heap.size))
        refine hK.out _ _ (⟨(bW.cell (p := ⟨b, off, none⟩) hb).trans s0, (bW.cell (p := ⟨b, off + 1, none⟩) hb).trans s1, (bW.cell (p := ⟨b, off + 2, none⟩) hb).trans s2⟩) (fun hHeld => ?_)
        clear hK K q2
        try simp only [Act.put, List.setIfInBounds_toArray, List.set_cons_zero, List.set_cons_succ, List.getElem_toArray, List.getElem_cons_zero, List.getElem_cons_succ]
        refine wpAnyH_ready (rs := [26, 31]) (by kernel_rfl) (by simp) ?_
        refine AllReadyH.cons rfl (fun K hK => ?_) (AllReadyH.cons rfl (fun K hK => ?_) AllReadyH.nil)
        · go_simp
          (go_at_call 24; refine (nm_spec_pg V _ b off _ f hV hf bW).mono ?_; rintro r w3 ⟨rfl, q3⟩)
          have bW := bW.trans (q3.below (B := V.heap.size))
          refine hK.out _ _ (⟨(bW.cell (p := ⟨b, off, none⟩) hb).trans s0, (bW.cell (p := ⟨b, off + 1, none⟩) hb).trans s1, (bW.cell (p := ⟨b, off + 2, none⟩) hb).trans s2⟩) (fun hHeld => ?_)
          clear hK K q3
          try simp only [Act.put, List.setIfInBounds_toArray, List.set_cons_zero, List.set_cons_succ, List.getElem_toArray, List.getElem_cons_zero, List.getElem_cons_succ]
          refine wpAnyH_ready (rs := [29, 31]) (by kernel_rfl) (by simp) ?_
          refine AllReadyH.cons rfl (fun K hK => ?_) (AllReadyH.cons rfl (fun K hK => ?_) AllReadyH.nil)
          · go_simp
            (go_at_call 24; refine (nm_spec_ph V _ b off _ f hV hf bW).mono ?_; rintro r w4 ⟨rfl, q4⟩)
            have bW := bW.trans (q4.below (B := V.heap.size))
            refine hK.out _ _ (⟨(bW.cell (p := ⟨b, off, none⟩) hb).trans s0, (bW.cell (p := ⟨b, off + 1, none⟩) hb).trans s1, (bW.cell (p := ⟨b, off + 2, none⟩) hb).trans s2⟩) (fun hHeld => ?_)
            clear hK K q4
            try simp only [Act.put, List.setIfInBounds_toArray, List.set_cons_zero, List.set_cons_succ, List.getElem_toArray, List.getElem_cons_zero, List.getElem_cons_succ]
            refine wpAnyH_take (i := 30) (v := ?_) rfl (by kernel_rfl) (by kernel_rfl) (by kernel_rfl) (fun _ _ _ h => h) (Or.inl ⟨by rfl, ?_⟩) (by assumption) ?_
            rotate_left
            · intro w hSw
              (try dsimp only at hSw)
              go_simp
              all_goals with_reducible rfl
            try simp only [Act.put, List.setIfInBounds_toArray, List.set_cons_zero, List.set_cons_succ, List.getElem_toArray, List.getElem_cons_zero, List.getElem_cons_succ]
            have hEq := bW.size
            have hz : CN (w4.alloc (.cells #[.int .i64 0, .int .i64 0, .int .i64 0, .int .i64 0, .int .i64 0, .int .i64 0, .int .i64 0, .int .i64 0] 24)) w4.heap.size [0, 0, 0, 0, 0, 0, 0, 0] := CN.new _ _
            have hE := bW.size
            have bW' := bW.alloc bW.size (.cells #[.int .i64 0, .int .i64 0, .int .i64 0, .int .i64 0, .int .i64 0, .int .i64 0, .int .i64 0, .int .i64 0] 24)
            refine wpAnyH_ready (rs := [31]) (by kernel_rfl) (by simp) ?_
            refine AllReadyH.cons rfl (fun K hK => ?_) AllReadyH.nil
            go_simp
            skip
            refine hK.out _ _ (⟨(bW'.cell (p := ⟨b, off, none⟩) hb).trans s0, (bW'.cell (p := ⟨b, off + 1, none⟩) hb).trans s1, (bW'.cell (p := ⟨b, off + 2, none⟩) hb).trans s2⟩) (fun hHeld => ?_)
            clear hK K
            try simp only [Act.put, List.setIfInBounds_toArray, List.set_cons_zero, List.set_cons_succ, List.getElem_toArray, List.getElem_cons_zero, List.getElem_cons_succ]
            generalize w4.alloc (.cells #[.int .i64 0, .int .i64 0, .int .i64 0, .int .i64 0, .int .i64 0, .int .i64 0, .int .i64 0, .int .i64 0] 24) = X at *
            generalize w4.heap.size = E at *
            have hz8 := ((((((((hz.set 0 (by simp) (D.pa f)).set 1 (by simp) (D.pb f)).set 2 (by simp) (D.pc f)).set 3 (by simp) (D.pd f)).set 4 (by simp) (D.pe f)).set 5 (by simp) (D.pf f)).set 6 (by simp) (D.pg f)).set 7 (by simp) (D.ph f))
            have bS := ((((((((bW'.setCell (p := ⟨E, 0, none⟩) hE (.int .i64 (D.pa f))).setCell (p := ⟨E, 1, none⟩) hE (.int .i64 (D.pb f))).setCell (p := ⟨E, 2, none⟩) hE (.int .i64 (D.pc f))).setCell (p := ⟨E, 3, none⟩) hE (.int .i64 (D.pd f))).setCell (p := ⟨E, 4, none⟩) hE (.int .i64 (D.pe f))).setCell (p := ⟨E, 5, none⟩) hE (.int .i64 (D.pf f))).setCell (p := ⟨E, 6, none⟩) hE (.int .i64 (D.pg f))).setCell (p := ⟨E, 7, none⟩) hE (.int .i64 (D.ph f)))
            have e0 := (hz.at_ 0 (by simp)).1
            have f0 := (hz.at_ 0 (by simp)).2
            have e1 := (hz.at_ 1 (by simp)).1
            have f1 := (hz.at_ 1 (by simp)).2
            have e2 := (hz.at_ 2 (by simp)).1
            have f2 := (hz.at_ 2 (by simp)).2
            have e3 := (hz.at_ 3 (by simp)).1
            have f3 := (hz.at_ 3 (by simp)).2
            have e4 := (hz.at_ 4 (by simp)).1
            have f4 := (hz.at_ 4 (by simp)).2
            have e5 := (hz.at_ 5 (by simp)).1
            have f5 := (hz.at_ 5 (by simp)).2
            have e6 := (hz.at_ 6 (by simp)).1
            have f6 := (hz.at_ 6 (by simp)).2
            have e7 := (hz.at_ 7 (by simp)).1
            have f7 := (hz.at_ 7 (by simp)).2
            refine wpAnyH_ready (rs := [32]) (by kernel_rfl) (by simp) ?_
            refine AllReadyH.cons rfl (fun K hK => ?_) AllReadyH.nil
            go_simp
            skip
            refine hK.out _ _ (⟨(bS.cell (p := ⟨b, off, none⟩) hb).trans s0, (bS.cell (p := ⟨b, off + 1, none⟩) hb).trans s1, (bS.cell (p := ⟨b, off + 2, none⟩) hb).trans s2⟩) (fun hHeld => ?_)
            clear hK K
            try simp only [Act.put, List.setIfInBounds_toArray, List.set_cons_zero, List.set_cons_succ, List.getElem_toArray, List.getElem_cons_zero, List.getElem_cons_succ]
            refine wpAnyH_done (by kernel_rfl) ?_ _
            clear hHeld e0 e1 e2 e3 e4 e5 e6 e7 f0 f1 f2 f3 f4 f5 f6 f7 hz bW'
            generalize ((((((((X).setCell ⟨E, 0, none⟩ (.int .i64 (D.pa f))).setCell ⟨E, 1, none⟩ (.int .i64 (D.pb f))).setCell ⟨E, 2, none⟩ (.int .i64 (D.pc f))).setCell ⟨E, 3, none⟩ (.int .i64 (D.pd f))).setCell ⟨E, 4, none⟩ (.int .i64 (D.pe f))).setCell ⟨E, 5, none⟩ (.int .i64 (D.pf f))).setCell ⟨E, 6, none⟩ (.int .i64 (D.pg f))).setCell ⟨E, 7, none⟩ (.int .i64 (D.ph f)) = WS at *
            have hR := zR.bl bS hRl
            have hRW := Nat.lt_of_lt_of_le hRl bS.size
            have bb := bV.trans (bS.mono bV.size)
            have p0 : WS.cell? ⟨E, 0, none⟩ = some (.int .i64 (D.pa f)) := (hz8.at_ 0 (by simp)).1
            have p1 : WS.cell? ⟨E, 1, none⟩ = some (.int .i64 (D.pb f)) := (hz8.at_ 1 (by simp)).1
            have p2 : WS.cell? ⟨E, 2, none⟩ = some (.int .i64 (D.pc f)) := (hz8.at_ 2 (by simp)).1
            have p3 : WS.cell? ⟨E, 3, none⟩ = some (.int .i64 (D.pd f)) := (hz8.at_ 3 (by simp)).1
            have p4 : WS.cell? ⟨E, 4, none⟩ = some (.int .i64 (D.pe f)) := (hz8.at_ 4 (by simp)).1
            have p5 : WS.cell? ⟨E, 5, none⟩ = some (.int .i64 (D.pf f)) := (hz8.at_ 5 (by simp)).1
            have p6 : WS.cell? ⟨E, 6, none⟩ = some (.int .i64 (D.pg f)) := (hz8.at_ 6 (by simp)).1
            have p7 : WS.cell? ⟨E, 7, none⟩ = some (.int .i64 (D.ph f)) := (hz8.at_ 7 (by simp)).1
            clear hz8 bS
            have bE := bb
            go_wp2_with fail
            refine (vp_spec _ _ _ _ _ _ _ _ _).mono ?_
            rintro r w9 ⟨rfl, b9⟩
            have hR9 := hR.bl b9 hRW
            have bb9 := bb.trans (b9.mono bb.size)
            have hEl : E < WS.heap.size := World.block_lt_of_cell? _ _ p0
            have q0 := (b9.cell (p := ⟨E, 0, none⟩) hEl).trans p0
            have q1 := (b9.cell (p := ⟨E, 1, none⟩) hEl).trans p1
            have q2 := (b9.cell (p := ⟨E, 2, none⟩) hEl).trans p2
            have q3 := (b9.cell (p := ⟨E, 3, none⟩) hEl).trans p3
            have q4 := (b9.cell (p := ⟨E, 4, none⟩) hEl).trans p4
            have q5 := (b9.cell (p := ⟨E, 5, none⟩) hEl).trans p5
            have q6 := (b9.cell (p := ⟨E, 6, none⟩) hEl).trans p6
            have q7 := (b9.cell (p := ⟨E, 7, none⟩) hEl).trans p7
            have u0 : w9.cell? ⟨w.heap.size, 0, none⟩ = some (.int .i64 0) := (hR9.at_ 0 (by simp)).1
            have v0 := (hR9.at_ 0 (by simp)).2
            have u1 : w9.cell? ⟨w.heap.size, 1, none⟩ = some (.int .i64 0) := (hR9.at_ 1 (by simp)).1
            have v1 := (hR9.at_ 1 (by simp)).2
            have u2 : w9.cell? ⟨w.heap.size, 2, none⟩ = some (.int .i64 0) := (hR9.at_ 2 (by simp)).1
            have v2 := (hR9.at_ 2 (by simp)).2
            have u3 : w9.cell? ⟨w.heap.size, 3, none⟩ = some (.int .i64 0) := (hR9.at_ 3 (by simp)).1
            have v3 := (hR9.at_ 3 (by simp)).2
            have u4 : w9.cell? ⟨w.heap.size, 4, none⟩ = some (.int .i64 0) := (hR9.at_ 4 (by simp)).1
            have v4 := (hR9.at_ 4 (by simp)).2
            have u5 : w9.cell? ⟨w.heap.size, 5, none⟩ = some (.int .i64 0) := (hR9.at_ 5 (by simp)).1
            have v5 := (hR9.at_ 5 (by simp)).2
            have u6 : w9.cell? ⟨w.heap.size, 6, none⟩ = some (.int .i64 0) := (hR9.at_ 6 (by simp)).1
            have v6 := (hR9.at_ 6 (by simp)).2
            have u7 : w9.cell? ⟨w.heap.size, 7, none⟩ = some (.int .i64 0) := (hR9.at_ 7 (by simp)).1
            have v7 := (hR9.at_ 7 (by simp)).2
            clear p0 p1 p2 p3 p4 p5 p6 p7 hR b9 hR9 bb bE hRW
            rcases hv : D.vp (D.pa f) (D.pb f) (D.pc f) (D.pd f) (D.pe f) (D.pf f) (D.pg f) (D.ph f) with _ | _
            · have HT := Lib.hid (D.pr_no (n := 23) (f := f) (fun h => by have := h.2.2; rw [hv] at this; cases this))
              have HZ := Lib.hid (((((((((bb9.setCell (p := ⟨w.heap.size, 0, none⟩) (Nat.le_refl _) (.int .i64 0)).setCell (p := ⟨w.heap.size, 1, none⟩) (Nat.le_refl _) (.int .i64 0)).setCell (p := ⟨w.heap.size, 2, none⟩) (Nat.le_refl _) (.int .i64 0)).setCell (p := ⟨w.heap.size, 3, none⟩) (Nat.le_refl _) (.int .i64 0)).setCell (p := ⟨w.heap.size, 4, none⟩) (Nat.le_refl _) (.int .i64 0)).setCell (p := ⟨w.heap.size, 5, none⟩) (Nat.le_refl _) (.int .i64 0)).setCell (p := ⟨w.heap.size, 6, none⟩) (Nat.le_refl _) (.int .i64 0)).setCell (p := ⟨w.heap.size, 7, none⟩) (Nat.le_refl _) (.int .i64 0)))
              simp only
              clear bb9 hv
              go_wp2
              exact bodyPost_ret (v := .tuple #[.agg #[.int .i64 0, .int .i64 0, .int .i64 0, .int .i64 0, .int .i64 0, .int .i64 0, .int .i64 0, .int .i64 0], .bool false]) (by simp [results, Try.results12, go_sem, u0, u1, u2, u3, u4, u5, u6, u7]) rfl ⟨by rw [HT.out]; first | done | rfl, HZ.out⟩
            · have HT := Lib.hid (D.pr_yes (n := 23) (f := f) ⟨rfl, hver, hv⟩)
              have HZ := Lib.hid (((((((((bb9.setCell (p := ⟨w.heap.size, 0, none⟩) (Nat.le_refl _) (.int .i64 (D.pa f))).setCell (p := ⟨w.heap.size, 1, none⟩) (Nat.le_refl _) (.int .i64 (D.pb f))).setCell (p := ⟨w.heap.size, 2, none⟩) (Nat.le_refl _) (.int .i64 (D.pc f))).setCell (p := ⟨w.heap.size, 3, none⟩) (Nat.le_refl _) (.int .i64 (D.pd f))).setCell (p := ⟨w.heap.size, 4, none⟩) (Nat.le_refl _) (.int .i64 (D.pe f))).setCell (p := ⟨w.heap.size, 5, none⟩) (Nat.le_refl _) (.int .i64 (D.pf f))).setCell (p := ⟨w.heap.size, 6, none⟩) (Nat.le_refl _) (.int .i64 (D.pg f))).setCell (p := ⟨w.heap.size, 7, none⟩) (Nat.le_refl _) (.int .i64 (D.ph f))))
              simp only
              clear bb9 hv
              go_wp2
              exact bodyPost_ret (v := .tuple #[.agg #[.int .i64 (D.pa f), .int .i64 (D.pb f), .int .i64 (D.pc f), .int .i64 (D.pd f), .int .i64 (D.pe f), .int .i64 (D.pf f), .int .i64 (D.pg f), .int .i64 (D.ph f)], .bool true]) (by simp [results, Try.results12, go_sem, u0, u1, u2, u3, u4, u5, u6, u7]) rfl ⟨by rw [HT.out]; first | done | rfl, HZ.out⟩
          · go_simp
            have hz : CN (w3.alloc (.cells #[.int .i64 0, .int .i64 0, .int .i64 0, .int .i64 0, .int .i64 0, .int .i64 0, .int .i64 0, .int .i64 0] 24)) w3.heap.size [0, 0, 0, 0, 0, 0, 0, 0] := CN.new _ _
            have hE0 := bW.size
            have bW := bW.alloc bW.size (.cells #[.int .i64 0, .int .i64 0, .int .i64 0, .int .i64 0, .int .i64 0, .int .i64 0, .int .i64 0, .int .i64 0] 24)
            refine hK.out _ _ (⟨(bW.cell (p := ⟨b, off, none⟩) hb).trans s0, (bW.cell (p := ⟨b, off + 1, none⟩) hb).trans s1, (bW.cell (p := ⟨b, off + 2, none⟩) hb).trans s2⟩) (fun hHeld => ?_)
            clear hK K
            try simp only [Act.put, List.setIfInBounds_toArray, List.set_cons_zero, List.set_cons_succ, List.getElem_toArray, List.getElem_cons_zero, List.getElem_cons_succ]
            generalize w3.alloc (.cells #[.int .i64 0, .int .i64 0, .int .i64 0, .int .i64 0, .int .i64 0, .int .i64 0, .int .i64 0, .int .i64 0] 24) = X at *
            generalize hEE : w3.heap.size = E at hz ⊢
            have hE : V.heap.size ≤ E := by rw [← hEE]; exact hE0
            clear hEE hE0
            refine wpAnyH_ready (rs := [29]) (by kernel_rfl) (by simp) ?_
            refine AllReadyH.cons rfl (fun K hK => ?_) AllReadyH.nil
            go_simp
            (go_at_call 24; refine (nm_spec_ph V _ b off _ f hV hf bW).mono ?_; rintro r w4 ⟨rfl, q4⟩)
            refine hK.out _ _ (⟨((bW.trans (q4.below (B := V.heap.size))).cell (p := ⟨b, off, none⟩) hb).trans s0, ((bW.trans (q4.below (B := V.heap.size))).cell (p := ⟨b, off + 1, none⟩) hb).trans s1, ((bW.trans (q4.below (B := V.heap.size))).cell (p := ⟨b, off + 2, none⟩) hb).trans s2⟩) (fun hHeld => ?_)
            clear hK K
            try simp only [Act.put, List.setIfInBounds_toArray, List.set_cons_zero, List.set_cons_succ, List.getElem_toArray, List.getElem_cons_zero, List.getElem_cons_succ]
            have hz := hz.same q4
            have bW := bW.trans (q4.below (B := V.heap.size))
            clear q4
            have hz8 := ((((((((hz.set 0 (by simp) (D.pa f)).set 1 (by simp) (D.pb f)).set 2 (by simp) (D.pc f)).set 3 (by simp) (D.pd f)).set 4 (by simp) (D.pe f)).set 5 (by simp) (D.pf f)).set 6 (by simp) (D.pg f)).set 7 (by simp) (D.ph f))
            have bS := ((((((((bW.setCell (p := ⟨E, 0, none⟩) hE (.int .i64 (D.pa f))).setCell (p := ⟨E, 1, none⟩) hE (.int .i64 (D.pb f))).setCell (p := ⟨E, 2, none⟩) hE (.int .i64 (D.pc f))).setCell (p := ⟨E, 3, none⟩) hE (.int .i64 (D.pd f))).setCell (p := ⟨E, 4, none⟩) hE (.int .i64 (D.pe f))).setCell (p := ⟨E, 5, none⟩) hE (.int .i64 (D.pf f))).setCell (p := ⟨E, 6, none⟩) hE (.int .i64 (D.pg f))).setCell (p := ⟨E, 7, none⟩) hE (.int .i64 (D.ph f)))
            have e0 := (hz.at_ 0 (by simp)).1
            have f0 := (hz.at_ 0 (by simp)).2
            have e1 := (hz.at_ 1 (by simp)).1
            have f1 := (hz.at_ 1 (by simp)).2
            have e2 := (hz.at_ 2 (by simp)).1
            have f2 := (hz.at_ 2 (by simp)).2
            have e3 := (hz.at_ 3 (by simp)).1
            have f3 := (hz.at_ 3 (by simp)).2
            have e4 := (hz.at_ 4 (by simp)).1
            have f4 := (hz.at_ 4 (by simp)).2
            have e5 := (hz.at_ 5 (by simp)).1
            have f5 := (hz.at_ 5 (by simp)).2
            have e6 := (hz.at_ 6 (by simp)).1
            have f6 := (hz.at_ 6 (by simp)).2
            have e7 := (hz.at_ 7 (by simp)).1
            have f7 := (hz.at_ 7 (by simp)).2
            refine wpAnyH_take (i := 30) (v := ?_) rfl (by kernel_rfl) (by kernel_rfl) (by kernel_rfl) (fun _ _ _ h => h) (Or.inl ⟨by rfl, ?_⟩) (by assumption) ?_
            rotate_left
            · intro w hSw
              (try dsimp only at hSw)
              go_simp
              all_goals with_reducible rfl
            try simp only [Act.put, List.setIfInBounds_toArray, List.set_cons_zero, List.set_cons_succ, List.getElem_toArray, List.getElem_cons_zero, List.getElem_cons_succ]
            refine wpAnyH_ready (rs := [32]) (by kernel_rfl) (by simp) ?_
            refine AllReadyH.cons rfl (fun K hK => ?_) AllReadyH.nil
            go_simp
            skip
            refine hK.out _ _ (⟨(bS.cell (p := ⟨b, off, none⟩) hb).trans s0, (bS.cell (p := ⟨b, off + 1, none⟩) hb).trans s1, (bS.cell (p := ⟨b, off + 2, none⟩) hb).trans s2⟩) (fun hHeld => ?_)
            clear hK K
            try simp only [Act.put, List.setIfInBounds_toArray, List.set_cons_zero, List.set_cons_succ, List.getElem_toArray, List.getElem_cons_zero, List.getElem_cons_succ]
            refine wpAnyH_done (by kernel_rfl) ?_ _
            clear hHeld e0 e1 e2 e3 e4 e5 e6 e7 f0 f1 f2 f3 f4 f5 f6 f7 hz bW
            generalize ((((((((w4).setCell ⟨E, 0, none⟩ (.int .i64 (D.pa f))).setCell ⟨E, 1, none⟩ (.int .i64 (D.pb f))).setCell ⟨E, 2, none⟩ (.int .i64 (D.pc f))).setCell ⟨E, 3, none⟩ (.int .i64 (D.pd f))).setCell ⟨E, 4, none⟩ (.int .i64 (D.pe f))).setCell ⟨E, 5, none⟩ (.int .i64 (D.pf f))).setCell ⟨E, 6, none⟩ (.int .i64 (D.pg f))).setCell ⟨E, 7, none⟩ (.int .i64 (D.ph f)) = WS at *
            have hR := zR.bl bS hRl
            have hRW := Nat.lt_of_lt_of_le hRl bS.size
            have bb := bV.trans (bS.mono bV.size)
            have p0 : WS.cell? ⟨E, 0, none⟩ = some (.int .i64 (D.pa f)) := (hz8.at_ 0 (by simp)).1
            have p1 : WS.cell? ⟨E, 1, none⟩ = some (.int .i64 (D.pb f)) := (hz8.at_ 1 (by simp)).1
            have p2 : WS.cell? ⟨E, 2, none⟩ = some (.int .i64 (D.pc f)) := (hz8.at_ 2 (by simp)).1
            have p3 : WS.cell? ⟨E, 3, none⟩ = some (.int .i64 (D.pd f)) := (hz8.at_ 3 (by simp)).1
            have p4 : WS.cell? ⟨E, 4, none⟩ = some (.int .i64 (D.pe f)) := (hz8.at_ 4 (by simp)).1
            have p5 : WS.cell? ⟨E, 5, none⟩ = some (.int .i64 (D.pf f)) := (hz8.at_ 5 (by simp)).1
            have p6 : WS.cell? ⟨E, 6, none⟩ = some (.int .i64 (D.pg f)) := (hz8.at_ 6 (by simp)).1
            have p7 : WS.cell? ⟨E, 7, none⟩ = some (.int .i64 (D.ph f)) := (hz8.at_ 7 (by simp)).1
            clear hz8 bS
            have bE := bb
            go_wp2_with fail
            refine (vp_spec _ _ _ _ _ _ _ _ _).mono ?_
            rintro r w9 ⟨rfl, b9⟩
            have hR9 := hR.bl b9 hRW
            have bb9 := bb.trans (b9.mono bb.size)
            have hEl : E < WS.heap.size := World.block_lt_of_cell? _ _ p0
            have q0 := (b9.cell (p := ⟨E, 0, none⟩) hEl).trans p0
            have q1 := (b9.cell (p := ⟨E, 1, none⟩) hEl).trans p1
            have q2 := (b9.cell (p := ⟨E, 2, none⟩) hEl).trans p2
            have q3 := (b9.cell (p := ⟨E, 3, none⟩) hEl).trans p3
            have q4 := (b9.cell (p := ⟨E, 4, none⟩) hEl).trans p4
            have q5 := (b9.cell (p := ⟨E, 5, none⟩) hEl).trans p5
            have q6 := (b9.cell (p := ⟨E, 6, none⟩) hEl).trans p6
            have q7 := (b9.cell (p := ⟨E, 7, none⟩) hEl).trans p7
            have u0 : w9.cell? ⟨w.heap.size, 0, none⟩ = some (.int .i64 0) := (hR9.at_ 0 (by simp)).1
            have v0 := (hR9.at_ 0 (by simp)).2
            have u1 : w9.cell? ⟨w.heap.size, 1, none⟩ = some (.int .i64 0) := (hR9.at_ 1 (by simp)).1
            have v1 := (hR9.at_ 1 (by simp)).2
            have u2 : w9.cell? ⟨w.heap.size, 2, none⟩ = some (.int .i64 0) := (hR9.at_ 2 (by simp)).1
            have v2 := (hR9.at_ 2 (by simp)).2
            have u3 : w9.cell? ⟨w.heap.size, 3, none⟩ = some (.int .i64 0) := (hR9.at_ 3 (by simp)).1
            have v3 := (hR9.at_ 3 (by simp)).2
            have u4 : w9.cell? ⟨w.heap.size, 4, none⟩ = some (.int .i64 0) := (hR9.at_ 4 (by simp)).1
            have v4 := (hR9.at_ 4 (by simp)).2
            have u5 : w9.cell? ⟨w.heap.size, 5, none⟩ = some (.int .i64 0) := (hR9.at_ 5 (by simp)).1
            have v5 := (hR9.at_ 5 (by simp)).2
            have u6 : w9.cell? ⟨w.heap.size, 6, none⟩ = some (.int .i64 0) := (hR9.at_ 6 (by simp)).1
            have v6 := (hR9.at_ 6 (by simp)).2
            have u7 : w9.cell? ⟨w.heap.size, 7, none⟩ = some (.int .i64 0) := (hR9.at_ 7 (by simp)).1
            have v7 := (hR9.at_ 7 (by simp)).2
            clear p0 p1 p2 p3 p4 p5 p6 p7 hR b9 hR9 bb bE hRW
            rcases hv : D.vp (D.pa f) (D.pb f) (D.pc f) (D.pd f) (D.pe f) (D.pf f) (D.pg f) (D.ph f) with _ | _
            · have HT := Lib.hid (D.pr_no (n := 23) (f := f) (fun h => by have := h.2.2; rw [hv] at this; cases this))
              have HZ := Lib.hid (((((((((bb9.setCell (p := ⟨w.heap.size, 0, none⟩) (Nat.le_refl _) (.int .i64 0)).setCell (p := ⟨w.heap.size, 1, none⟩) (Nat.le_refl _) (.int .i64 0)).setCell (p := ⟨w.heap.size, 2, none⟩) (Nat.le_refl _) (.int .i64 0)).setCell (p := ⟨w.heap.size, 3, none⟩) (Nat.le_refl _) (.int .i64 0)).setCell (p := ⟨w.heap.size, 4, none⟩) (Nat.le_refl _) (.int .i64 0)).setCell (p := ⟨w.heap.size, 5, none⟩) (Nat.le_refl _) (.int .i64 0)).setCell (p := ⟨w.heap.size, 6, none⟩) (Nat.le_refl _) (.int .i64 0)).setCell (p := ⟨w.heap.size, 7, none⟩) (Nat.le_refl _) (.int .i64 0)))
              simp only
              clear bb9 hv
              go_wp2
              exact bodyPost_ret (v := .tuple #[.agg #[.int .i64 0, .int .i64 0, .int .i64 0, .int .i64 0, .int .i64 0, .int .i64 0, .int .i64 0, .int .i64 0], .bool false]) (by simp [results, Try.results12, go_sem, u0, u1, u2, u3, u4, u5, u6, u7]) rfl ⟨by rw [HT.out]; first | done | rfl, HZ.out⟩
            · have HT := Lib.hid (D.pr_yes (n := 23) (f := f) ⟨rfl, hver, hv⟩)
              have HZ := Lib.hid (((((((((bb9.setCell (p := ⟨w.heap.size, 0, none⟩) (Nat.le_refl _) (.int .i64 (D.pa f))).setCell (p := ⟨w.heap.size, 1, none⟩) (Nat.le_refl _) (.int .i64 (D.pb f))).setCell (p := ⟨w.heap.size, 2, none⟩) (Nat.le_refl _) (.int .i64 (D.pc f))).setCell (p := ⟨w.heap.size, 3, none⟩) (Nat.le_refl _) (.int .i64 (D.pd f))).setCell (p := ⟨w.heap.size, 4, none⟩) (Nat.le_refl _) (.int .i64 (D.pe f))).setCell (p := ⟨w.heap.size, 5, none⟩) (Nat.le_refl _) (.int .i64 (D.pf f))).setCell (p := ⟨w.heap.size, 6, none⟩) (Nat.le_refl _) (.int .i64 (D.pg f))).setCell (p := ⟨w.heap.size, 7, none⟩) (Nat.le_refl _) (.int .i64 (D.ph f))))
              simp only
              clear bb9 hv
              go_wp2
              exact bodyPost_ret (v := .tuple #[.agg #[.int .i64 (D.pa f), .int .i64 (D.pb f), .int .i64 (D.pc f), .int .i64 (D.pd f), .int .i64 (D.pe f), .int .i64 (D.pf f), .int .i64 (D.pg f), .int .i64 (D.ph f)], .bool true]) (by simp [results, Try.results12, go_sem, u0, u1, u2, u3, u4, u5, u6, u7]) rfl ⟨by rw [HT.out]; first | done | rfl, HZ.out⟩
        · go_simp
          have hz : CN (w2.alloc (.cells #[.int .i64 0, .int .i64 0, .int .i64 0, .int .i64 0, .int .i64 0, .int .i64 0, .int .i64 0, .int .i64 0] 24)) w2.heap.size [0, 0, 0, 0, 0, 0, 0, 0] := CN.new _ _
          have hE0 := bW.size
          have bW := bW.alloc bW.size (.cells #[.int .i64 0, .int .i64 0, .int .i64 0, .int .i64 0, .int .i64 0, .int .i64 0, .int .i64 0, .int .i64 0] 24)
          refine hK.out _ _ (⟨(bW.cell (p := ⟨b, off, none⟩) hb).trans s0, (bW.cell (p := ⟨b, off + 1, none⟩) hb).trans s1, (bW.cell (p := ⟨b, off + 2, none⟩) hb).trans s2⟩) (fun hHeld => ?_)
          clear hK K
          try simp only [Act.put, List.setIfInBounds_toArray, List.set_cons_zero, List.set_cons_succ, List.getElem_toArray, List.getElem_cons_zero, List.getElem_cons_succ]
          generalize w2.alloc (.cells #[.int .i64 0, .int .i64 0, .int .i64 0, .int .i64 0, .int .i64 0, .int .i64 0, .int .i64 0, .int .i64 0] 24) = X at *
          generalize hEE : w2.heap.size = E at hz ⊢
          have hE : V.heap.size ≤ E := by rw [← hEE]; exact hE0
          clear hEE hE0
          refine wpAnyH_ready (rs := [26]) (by kernel_rfl) (by simp) ?_
          refine AllReadyH.cons rfl (fun K hK => ?_) AllReadyH.nil
          go_simp
          (go_at_call 24; refine (nm_spec_pg V _ b off _ f hV hf bW).mono ?_; rintro r w3 ⟨rfl, q3⟩)
          refine hK.out _ _ (⟨((bW.trans (q3.below (B := V.heap.size))).cell (p := ⟨b, off, none⟩) hb).trans s0, ((bW.trans (q3.below (B := V.heap.size))).cell (p := ⟨b, off + 1, none⟩) hb).trans s1, ((bW.trans (q3.below (B := V.heap.size))).cell (p := ⟨b, off + 2, none⟩) hb).trans s2⟩) (fun hHeld => ?_)
          clear hK K
          try simp only [Act.put, List.setIfInBounds_toArray, List.set_cons_zero, List.set_cons_succ, List.getElem_toArray, List.getElem_cons_zero, List.getElem_cons_succ]
          have hz := hz.same q3
          have bW := bW.trans (q3.below (B := V.heap.size))
          clear q3
          refine wpAnyH_ready (rs := [29]) (by kernel_rfl) (by simp) ?_
          refine AllReadyH.cons rfl (fun K hK => ?_) AllReadyH.nil
          go_simp
          (go_at_call 24; refine (nm_spec_ph V _ b off _ f hV hf bW).mono ?_; rintro r w4 ⟨rfl, q4⟩)
          refine hK.out _ _ (⟨((bW.trans (q4.below (B := V.heap.size))).cell (p := ⟨b, off, none⟩) hb).trans s0, ((bW.trans (q4.below (B := V.heap.size))).cell (p := ⟨b, off + 1, none⟩) hb).trans s1, ((bW.trans (q4.below (B := V.heap.size))).cell (p := ⟨b, off + 2, none⟩) hb).trans s2⟩) (fun hHeld => ?_)
          clear hK K
          try simp only [Act.put, List.setIfInBounds_toArray, List.set_cons_zero, List.set_cons_succ, List.getElem_toArray, List.getElem_cons_zero, List.getElem_cons_succ]
          have hz := hz.same q4
          have bW := bW.trans (q4.below (B := V.heap.size))
          clear q4
          have hz8 := ((((((((hz.set 0 (by simp) (D.pa f)).set 1 (by simp) (D.pb f)).set 2 (by simp) (D.pc f)).set 3 (by simp) (D.pd f)).set 4 (by simp) (D.pe f)).set 5 (by simp) (D.pf f)).set 6 (by simp) (D.pg f)).set 7 (by simp) (D.ph f))
          have bS := ((((((((bW.setCell (p := ⟨E, 0, none⟩) hE (.int .i64 (D.pa f))).setCell (p := ⟨E, 1, none⟩) hE (.int .i64 (D.pb f))).setCell (p := ⟨E, 2, none⟩) hE (.int .i64 (D.pc f))).setCell (p := ⟨E, 3, none⟩) hE (.int .i64 (D.pd f))).setCell (p := ⟨E, 4, none⟩) hE (.int .i64 (D.pe f))).setCell (p := ⟨E, 5, none⟩) hE (.int .i64 (D.pf f))).setCell (p := ⟨E, 6, none⟩) hE (.int .i64 (D.pg f))).setCell (p := ⟨E, 7, none⟩) hE (.int .i64 (D.ph f)))
          have e0 := (hz.at_ 0 (by simp)).1
          have f0 := (hz.at_ 0 (by simp)).2
          have e1 := (hz.at_ 1 (by simp)).1
          have f1 := (hz.at_ 1 (by simp)).2
          have e2 := (hz.at_ 2 (by simp)).1
          have f2 := (hz.at_ 2 (by simp)).2
          have e3 := (hz.at_ 3 (by simp)).1
          have f3 := (hz.at_ 3 (by simp)).2
          have e4 := (hz.at_ 4 (by simp)).1
          have f4 := (hz.at_ 4 (by simp)).2
          have e5 := (hz.at_ 5 (by simp)).1
          have f5 := (hz.at_ 5 (by simp)).2
          have e6 := (hz.at_ 6 (by simp)).1
          have f6 := (hz.at_ 6 (by simp)).2
          have e7 := (hz.at_ 7 (by simp)).1
          have f7 := (hz.at_ 7 (by simp)).2
          refine wpAnyH_take (i := 30) (v := ?_) rfl (by kernel_rfl) (by kernel_rfl) (by kernel_rfl) (fun _ _ _ h => h) (Or.inl ⟨by rfl, ?_⟩) (by assumption) ?_
          rotate_left
          · intro w hSw
            (try dsimp only at hSw)
            go_simp
            all_goals with_reducible rfl
          try simp only [Act.put, List.setIfInBounds_toArray, List.set_cons_zero, List.set_cons_succ, List.getElem_toArray, List.getElem_cons_zero, List.getElem_cons_succ]
          refine wpAnyH_ready (rs := [32]) (by kernel_rfl) (by simp) ?_
          refine AllReadyH.cons rfl (fun K hK => ?_) AllReadyH.nil
          go_simp
          skip
          refine hK.out _ _ (⟨(bS.cell (p := ⟨b, off, none⟩) hb).trans s0, (bS.cell (p := ⟨b, off + 1, none⟩) hb).trans s1, (bS.cell (p := ⟨b, off + 2, none⟩) hb).trans s2⟩) (fun hHeld => ?_)
          clear hK K
          try simp only [Act.put, List.setIfInBounds_toArray, List.set_cons_zero, List.set_cons_succ, List.getElem_toArray, List.getElem_cons_zero, List.getElem_cons_succ]
          refine wpAnyH_done (by kernel_rfl) ?_ _
          clear hHeld e0 e1 e2 e3 e4 e5 e6 e7 f0 f1 f2 f3 f4 f5 f6 f7 hz bW
          generalize ((((((((w4).setCell ⟨E, 0, none⟩ (.int .i64 (D.pa f))).setCell ⟨E, 1, none⟩ (.int .i64 (D.pb f))).setCell ⟨E, 2, none⟩ (.int .i64 (D.pc f))).setCell ⟨E, 3, none⟩ (.int .i64 (D.pd f))).setCell ⟨E, 4, none⟩ (.int .i64 (D.pe f))).setCell ⟨E, 5, none⟩ (.int .i64 (D.pf f))).setCell ⟨E, 6, none⟩ (.int .i64 (D.pg f))).setCell ⟨E, 7, none⟩ (.int .i64 (D.ph f)) = WS at *
          have hR := zR.bl bS hRl
          have hRW := Nat.lt_of_lt_of_le hRl bS.size
          have bb := bV.trans (bS.mono bV.size)
          have p0 : WS.cell? ⟨E, 0, none⟩ = some (.int .i64 (D.pa f)) := (hz8.at_ 0 (by simp)).1
          have p1 : WS.cell? ⟨E, 1, none⟩ = some (.int .i64 (D.pb f)) := (hz8.at_ 1 (by simp)).1
          have p2 : WS.cell? ⟨E, 2, none⟩ = some (.int .i64 (D.pc f)) := (hz8.at_ 2 (by simp)).1
          have p3 : WS.cell? ⟨E, 3, none⟩ = some (.int .i64 (D.pd f)) := (hz8.at_ 3 (by simp)).1
          have p4 : WS.cell? ⟨E, 4, none⟩ = some (.int .i64 (D.pe f)) := (hz8.at_ 4 (by simp)).1
          have p5 : WS.cell? ⟨E, 5, none⟩ = some (.int .i64 (D.pf f)) := (hz8.at_ 5 (by simp)).1
          have p6 : WS.cell? ⟨E, 6, none⟩ = some (.int .i64 (D.pg f)) := (hz8.at_ 6 (by simp)).1
          have p7 : WS.cell? ⟨E, 7, none⟩ = some (.int .i64 (D.ph f)) := (hz8.at_ 7 (by simp)).1
          clear hz8 bS
          have bE := bb
          go_wp2_with fail
          refine (vp_spec _ _ _ _ _ _ _ _ _).mono ?_
          rintro r w9 ⟨rfl, b9⟩
          have hR9 := hR.bl b9 hRW
          have bb9 := bb.trans (b9.mono bb.size)
          have hEl : E < WS.heap.size := World.block_lt_of_cell? _ _ p0
          have q0 := (b9.cell (p := ⟨E, 0, none⟩) hEl).trans p0
          have q1 := (b9.cell (p := ⟨E, 1, none⟩) hEl).trans p1
          have q2 := (b9.cell (p := ⟨E, 2, none⟩) hEl).trans p2
          have q3 := (b9.cell (p := ⟨E, 3, none⟩) hEl).trans p3
          have q4 := (b9.cell (p := ⟨E, 4, none⟩) hEl).trans p4
          have q5 := (b9.cell (p := ⟨E, 5, none⟩) hEl).trans p5
          have q6 := (b9.cell (p := ⟨E, 6, none⟩) hEl).trans p6
          have q7 := (b9.cell (p := ⟨E, 7, none⟩) hEl).trans p7
          have u0 : w9.cell? ⟨w.heap.size, 0, none⟩ = some (.int .i64 0) := (hR9.at_ 0 (by simp)).1
          have v0 := (hR9.at_ 0 (by simp)).2
          have u1 : w9.cell? ⟨w.heap.size, 1, none⟩ = some (.int .i64 0) := (hR9.at_ 1 (by simp)).1
          have v1 := (hR9.at_ 1 (by simp)).2
          have u2 : w9.cell? ⟨w.heap.size, 2, none⟩ = some (.int .i64 0) := (hR9.at_ 2 (by simp)).1
          have v2 := (hR9.at_ 2 (by simp)).2
          have u3 : w9.cell? ⟨w.heap.size, 3, none⟩ = some (.int .i64 0) := (hR9.at_ 3 (by simp)).1
          have v3 := (hR9.at_ 3 (by simp)).2
          have u4 : w9.cell? ⟨w.heap.size, 4, none⟩ = some (.int .i64 0) := (hR9.at_ 4 (by simp)).1
          have v4 := (hR9.at_ 4 (by simp)).2
          have u5 : w9.cell? ⟨w.heap.size, 5, none⟩ = some (.int .i64 0) := (hR9.at_ 5 (by simp)).1
          have v5 := (hR9.at_ 5 (by simp)).2
          have u6 : w9.cell? ⟨w.heap.size, 6, none⟩ = some (.int .i64 0) := (hR9.at_ 6 (by simp)).1
          have v6 := (hR9.at_ 6 (by simp)).2
          have u7 : w9.cell? ⟨w.heap.size, 7, none⟩ = some (.int .i64 0) := (hR9.at_ 7 (by simp)).1
          have v7 := (hR9.at_ 7 (by simp)).2
          clear p0 p1 p2 p3 p4 p5 p6 p7 hR b9 hR9 bb bE hRW
          rcases hv : D.vp (D.pa f) (D.pb f) (D.pc f) (D.pd f) (D.pe f) (D.pf f) (D.pg f) (D.ph f) with _ | _
          · have HT := Lib.hid (D.pr_no (n := 23) (f := f) (fun h => by have := h.2.2; rw [hv] at this; cases this))
            have HZ := Lib.hid (((((((((bb9.setCell (p := ⟨w.heap.size, 0, none⟩) (Nat.le_refl _) (.int .i64 0)).setCell (p := ⟨w.heap.size, 1, none⟩) (Nat.le_refl _) (.int .i64 0)).setCell (p := ⟨w.heap.size, 2, none⟩) (Nat.le_refl _) (.int .i64 0)).setCell (p := ⟨w.heap.size, 3, none⟩) (Nat.le_refl _) (.int .i64 0)).setCell (p := ⟨w.heap.size, 4, none⟩) (Nat.le_refl _) (.int .i64 0)).setCell (p := ⟨w.heap.size, 5, none⟩) (Nat.le_refl _) (.int .i64 0)).setCell (p := ⟨w.heap.size, 6, none⟩) (Nat.le_refl _) (.int .i64 0)).setCell (p := ⟨w.heap.size, 7, none⟩) (Nat.le_refl _) (.int .i64 0)))
            simp only
            clear bb9 hv
            go_wp2
            exact bodyPost_ret (v := .tuple #[.agg #[.int .i64 0, .int .i64 0, .int .i64 0, .int .i64 0, .int .i64 0, .int .i64 0, .int .i64 0, .int .i64 0], .bool false]) (by simp [results, Try.results12, go_sem, u0, u1, u2, u3, u4, u5, u6, u7]) rfl ⟨by rw [HT.out]; first | done | rfl, HZ.out⟩
          · have HT := Lib.hid (D.pr_yes (n := 23) (f := f) ⟨rfl, hver, hv⟩)
            have HZ := Lib.hid (((((((((bb9.setCell (p := ⟨w.heap.size, 0, none⟩) (Nat.le_refl _) (.int .i64 (D.pa f))).setCell (p := ⟨w.heap.size, 1, none⟩) (Nat.le_refl _) (.int .i64 (D.pb f))).setCell (p := ⟨w.heap.size, 2, none⟩) (Nat.le_refl _) (.int .i64 (D.pc f))).setCell (p := ⟨w.heap.size, 3, none⟩) (Nat.le_refl _) (.int .i64 (D.pd f))).setCell (p := ⟨w.heap.size, 4, none⟩) (Nat.le_refl _) (.int .i64 (D.pe f))).setCell (p := ⟨w.heap.size, 5, none⟩) (Nat.le_refl _) (.int .i64 (D.pf f))).setCell (p := ⟨w.heap.size, 6, none⟩) (Nat.le_refl _) (.int .i64 (D.pg f))).setCell (p := ⟨w.heap.size, 7, none⟩) (Nat.le_refl _) (.int .i64 (D.ph f))))
            simp only
            clear bb9 hv
            go_wp2
            exact bodyPost_ret (v := .tuple #[.agg #[.int .i64 (D.pa f), .int .i64 (D.pb f), .int .i64 (D.pc f), .int .i64 (D.pd f), .int .i64 (D.pe f), .int .i64 (D.pf f), .int .i64 (D.pg f), .int .i64 (D.ph f)], .bool true]) (by simp [results, Try.results12, go_sem, u0, u1, u2, u3, u4, u5, u6, u7]) rfl ⟨by rw [HT.out]; first | done | rfl, HZ.out⟩
      · go_simp
        have hz : CN (w1.alloc (.cells #[.int .i64 0, .int .i64 0, .int .i64 0, .int .i64 0, .int .i64 0, .int .i64 0, .int .i64 0, .int .i64 0] 24)) w1.heap.size [0, 0, 0, 0, 0, 0, 0, 0] := CN.new _ _
        have hE0 := bW.size
        have bW := bW.alloc bW.size (.cells #[.int .i64 0, .int .i64 0, .int .i64 0, .int .i64 0, .int .i64 0, .int .i64 0, .int .i64 0, .int .i64 0] 24)
        refine hK.out _ _ (⟨(bW.cell (p := ⟨b, off, none⟩) hb).trans s0, (bW.cell (p := ⟨b, off + 1, none⟩) hb).trans s1, (bW.cell (p := ⟨b, off + 2, none⟩) hb).trans s2⟩) (fun hHeld => ?_)
        clear hK K
        try simp only [Act.put, List.setIfInBounds_toArray, List.set_cons_zero, List.set_cons_succ, List.getElem_toArray, List.getElem_cons_zero, List.getElem_cons_succ]
        generalize w1.alloc (.cells #[.int .i64 0, .int .i64 0, .int .i64 0, .int .i64 0, .int .i64 0, .int .i64 0, .int .i64 0, .int .i64 0] 24) = X at *
        generalize hEE : w1.heap.size = E at hz ⊢
        have hE : V.heap.size ≤ E := by rw [← hEE]; exact hE0
        clear hEE hE0
        refine wpAnyH_ready (rs := [23]) (by kernel_rfl) (by simp) ?_
        refine AllReadyH.cons rfl (fun K hK => ?_) AllReadyH.nil
        go_simp
        (go_at_call 24; refine (nm_spec_pf V _ b off _ f hV hf bW).mono ?_; rintro r w2 ⟨rfl, q2⟩)
        refine hK.out _ _ (⟨((bW.trans (q2.below (B := V.heap.size))).cell (p := ⟨b, off, none⟩) hb).trans s0, ((bW.trans (q2.below (B := V.heap.size))).cell (p := ⟨b, off + 1, none⟩) hb).trans s1, ((bW.trans (q2.below (B := V.heap.size))).cell (p := ⟨b, off + 2, none⟩) hb).trans s2⟩) (fun hHeld => ?_)
        clear hK K
        try simp only [Act.put, List.setIfInBounds_toArray, List.set_cons_zero, List.set_cons_succ, List.getElem_toArray, List.getElem_cons_zero, List.getElem_cons_succ]
        have hz := hz.same q2
        have bW := bW.trans (q2.below (B := V.heap.size))
        clear q2
        refine wpAnyH_ready (rs := [26]) (by kernel_rfl) (by simp) ?_
        refine AllReadyH.cons rfl (fun K hK => ?_) AllReadyH.nil
        go_simp
        (go_at_call 24; refine (nm_spec_pg V _ b off _ f hV hf bW).mono ?_; rintro r w3 ⟨rfl, q3⟩)
        refine hK.out _ _ (⟨((bW.trans (q3.below (B := V.heap.size))).cell (p := ⟨b, off, none⟩) hb).trans s0, ((bW.trans (q3.below (B := V.heap.size))).cell (p := ⟨b, off + 1, none⟩) hb).trans s1, ((bW.trans (q3.below (B := V.heap.size))).cell (p := ⟨b, off + 2, none⟩) hb).trans s2⟩) (fun hHeld => ?_)
        clear hK K
        try simp only [Act.put, List.setIfInBounds_toArray, List.set_cons_zero, List.set_cons_succ, List.getElem_toArray, List.getElem_cons_zero, List.getElem_cons_succ]
        have hz := hz.same q3
        have bW := bW.trans (q3.below (B := V.heap.size))
        clear q3
        refine wpAnyH_ready (rs := [29]) (by kernel_rfl) (by simp) ?_
        refine AllReadyH.cons rfl (fun K hK => ?_) AllReadyH.nil
        go_simp
        (go_at_call 24; refine (nm_spec_ph V _ b off _ f hV hf bW).mono ?_; rintro r w4 ⟨rfl, q4⟩)
        refine hK.out _ _ (⟨((bW.trans (q4.below (B := V.heap.size))).cell (p := ⟨b, off, none⟩) hb).trans s0, ((bW.trans (q4.below (B := V.heap.size))).cell (p := ⟨b, off + 1, none⟩) hb).trans s1, ((bW.trans (q4.below (B := V.heap.size))).cell (p := ⟨b, off + 2, none⟩) hb).trans s2⟩) (fun hHeld => ?_)
        clear hK K
        try simp only [Act.put, List.setIfInBounds_toArray, List.set_cons_zero, List.set_cons_succ, List.getElem_toArray, List.getElem_cons_zero, List.getElem_cons_succ]
        have hz := hz.same q4
        have bW := bW.trans (q4.below (B := V.heap.size))
        clear q4
        have hz8 := ((((((((hz.set 0 (by simp) (D.pa f)).set 1 (by simp) (D.pb f)).set 2 (by simp) (D.pc f)).set 3 (by simp) (D.pd f)).set 4 (by simp) (D.pe f)).set 5 (by simp) (D.pf f)).set 6 (by simp) (D.pg f)).set 7 (by simp) (D.ph f))
        have bS := ((((((((bW.setCell (p := ⟨E, 0, none⟩) hE (.int .i64 (D.pa f))).setCell (p := ⟨E, 1, none⟩) hE (.int .i64 (D.pb f))).setCell (p := ⟨E, 2, none⟩) hE (.int .i64 (D.pc f))).setCell (p := ⟨E, 3, none⟩) hE (.int .i64 (D.pd f))).setCell (p := ⟨E, 4, none⟩) hE (.int .i64 (D.pe f))).setCell (p := ⟨E, 5, none⟩) hE (.int .i64 (D.pf f))).setCell (p := ⟨E, 6, none⟩) hE (.int .i64 (D.pg f))).setCell (p := ⟨E, 7, none⟩) hE (.int .i64 (D.ph f)))
        have e0 := (hz.at_ 0 (by simp)).1
        have f0 := (hz.at_ 0 (by simp)).2
        have e1 := (hz.at_ 1 (by simp)).1
        have f1 := (hz.at_ 1 (by simp)).2
        have e2 := (hz.at_ 2 (by simp)).1
        have f2 := (hz.at_ 2 (by simp)).2
        have e3 := (hz.at_ 3 (by simp)).1
        have f3 := (hz.at_ 3 (by simp)).2
        have e4 := (hz.at_ 4 (by simp)).1
        have f4 := (hz.at_ 4 (by simp)).2
        have e5 := (hz.at_ 5 (by simp)).1
        have f5 := (hz.at_ 5 (by simp)).2
        have e6 := (hz.at_ 6 (by simp)).1
        have f6 := (hz.at_ 6 (by simp)).2
        have e7 := (hz.at_ 7 (by simp)).1
        have f7 := (hz.at_ 7 (by simp)).2
        refine wpAnyH_take (i := 30) (v := ?_) rfl (by kernel_rfl) (by kernel_rfl) (by kernel_rfl) (fun _ _ _ h => h) (Or.inl ⟨by rfl, ?_⟩) (by assumption) ?_
        rotate_left
        · intro w hSw
          (try dsimp only at hSw)
          go_simp
          all_goals with_reducible rfl
        try simp only [Act.put, List.setIfInBounds_toArray, List.set_cons_zero, List.set_cons_succ, List.getElem_toArray, List.getElem_cons_zero, List.getElem_cons_succ]
        refine wpAnyH_ready (rs := [32]) (by kernel_rfl) (by simp) ?_
        refine AllReadyH.cons rfl (fun K hK => ?_) AllReadyH.nil
        go_simp
        skip
        refine hK.out _ _ (⟨(bS.cell (p := ⟨b, off, none⟩) hb).trans s0, (bS.cell (p := ⟨b, off + 1, none⟩) hb).trans s1, (bS.cell (p := ⟨b, off + 2, none⟩) hb).trans s2⟩) (fun hHeld => ?_)
        clear hK K
        try simp only [Act.put, List.setIfInBounds_toArray, List.set_cons_zero, List.set_cons_succ, List.getElem_toArray, List.getElem_cons_zero, List.getElem_cons_succ]
        refine wpAnyH_done (by kernel_rfl) ?_ _
        clear hHeld e0 e1 e2 e3 e4 e5 e6 e7 f0 f1 f2 f3 f4 f5 f6 f7 hz bW
        generalize ((((((((w4).setCell ⟨E, 0, none⟩ (.int .i64 (D.pa f))).setCell ⟨E, 1, none⟩ (.int .i64 (D.pb f))).setCell ⟨E, 2, none⟩ (.int .i64 (D.pc f))).setCell ⟨E, 3, none⟩ (.int .i64 (D.pd f))).setCell ⟨E, 4, none⟩ (.int .i64 (D.pe f))).setCell ⟨E, 5, none⟩ (.int .i64 (D.pf f))).setCell ⟨E, 6, none⟩ (.int .i64 (D.pg f))).setCell ⟨E, 7, none⟩ (.int .i64 (D.ph f)) = WS at *
        have hR := zR.bl bS hRl
        have hRW := Nat.lt_of_lt_of_le hRl bS.size
        have bb := bV.trans (bS.mono bV.size)
        have p0 : WS.cell? ⟨E, 0, none⟩ = some (.int .i64 (D.pa f)) := (hz8.at_ 0 (by simp)).1
        have p1 : WS.cell? ⟨E, 1, none⟩ = some (.int .i64 (D.pb f)) := (hz8.at_ 1 (by simp)).1
        have p2 : WS.cell? ⟨E, 2, none⟩ = some (.int .i64 (D.pc f)) := (hz8.at_ 2 (by simp)).1
        have p3 : WS.cell? ⟨E, 3, none⟩ = some (.int .i64 (D.pd f)) := (hz8.at_ 3 (by simp)).1
        have p4 : WS.cell? ⟨E, 4, none⟩ = some (.int .i64 (D.pe f)) := (hz8.at_ 4 (by simp)).1
        have p5 : WS.cell? ⟨E, 5, none⟩ = some (.int .i64 (D.pf f)) := (hz8.at_ 5 (by simp)).1
        have p6 : WS.cell? ⟨E, 6, none⟩ = some (.int .i64 (D.pg f)) := (hz8.at_ 6 (by simp)).1
        have p7 : WS.cell? ⟨E, 7, none⟩ = some (.int .i64 (D.ph f)) := (hz8.at_ 7 (by simp)).1
        clear hz8 bS
        have bE := bb
        go_wp2_with fail
        refine (vp_spec _ _ _ _ _ _ _ _ _).mono ?_
        rintro r w9 ⟨rfl, b9⟩
        have hR9 := hR.bl b9 hRW
        have bb9 := bb.trans (b9.mono bb.size)
        have hEl : E < WS.heap.size := World.block_lt_of_cell? _ _ p0
        have q0 := (b9.cell (p := ⟨E, 0, none⟩) hEl).trans p0
        have q1 := (b9.cell (p := ⟨E, 1, none⟩) hEl).trans p1
        have q2 := (b9.cell (p := ⟨E, 2, none⟩) hEl).trans p2
        have q3 := (b9.cell (p := ⟨E, 3, none⟩) hEl).trans p3
        have q4 := (b9.cell (p := ⟨E, 4, none⟩) hEl).trans p4
        have q5 := (b9.cell (p := ⟨E, 5, none⟩) hEl).trans p5
        have q6 := (b9.cell (p := ⟨E, 6, none⟩) hEl).trans p6
        have q7 := (b9.cell (p := ⟨E, 7, none⟩) hEl).trans p7
        have u0 : w9.cell? ⟨w.heap.size, 0, none⟩ = some (.int .i64 0) := (hR9.at_ 0 (by simp)).1
        have v0 := (hR9.at_ 0 (by simp)).2
        have u1 : w9.cell? ⟨w.heap.size, 1, none⟩ = some (.int .i64 0) := (hR9.at_ 1 (by simp)).1
        have v1 := (hR9.at_ 1 (by simp)).2
        have u2 : w9.cell? ⟨w.heap.size, 2, none⟩ = some (.int .i64 0) := (hR9.at_ 2 (by simp)).1
        have v2 := (hR9.at_ 2 (by simp)).2
        have u3 : w9.cell? ⟨w.heap.size, 3, none⟩ = some (.int .i64 0) := (hR9.at_ 3 (by simp)).1
        have v3 := (hR9.at_ 3 (by simp)).2
        have u4 : w9.cell? ⟨w.heap.size, 4, none⟩ = some (.int .i64 0) := (hR9.at_ 4 (by simp)).1
        have v4 := (hR9.at_ 4 (by simp)).2
        have u5 : w9.cell? ⟨w.heap.size, 5, none⟩ = some (.int .i64 0) := (hR9.at_ 5 (by simp)).1
        have v5 := (hR9.at_ 5 (by simp)).2
        have u6 : w9.cell? ⟨w.heap.size, 6, none⟩ = some (.int .i64 0) := (hR9.at_ 6 (by simp)).1
        have v6 := (hR9.at_ 6 (by simp)).2
        have u7 : w9.cell? ⟨w.heap.size, 7, none⟩ = some (.int .i64 0) := (hR9.at_ 7 (by simp)).1
        have v7 := (hR9.at_ 7 (by simp)).2
        clear p0 p1 p2 p3 p4 p5 p6 p7 hR b9 hR9 bb bE hRW
        rcases hv : D.vp (D.pa f) (D.pb f) (D.pc f) (D.pd f) (D.pe f) (D.pf f) (D.pg f) (D.ph f) with _ | _
        · have HT := Lib.hid (D.pr_no (n := 23) (f := f) (fun h => by have := h.2.2; rw [hv] at this; cases this))
          have HZ := Lib.hid (((((((((bb9.setCell (p := ⟨w.heap.size, 0, none⟩) (Nat.le_refl _) (.int .i64 0)).setCell (p := ⟨w.heap.size, 1, none⟩) (Nat.le_refl _) (.int .i64 0)).setCell (p := ⟨w.heap.size, 2, none⟩) (Nat.le_refl _) (.int .i64 0)).setCell (p := ⟨w.heap.size, 3, none⟩) (Nat.le_refl _) (.int .i64 0)).setCell (p := ⟨w.heap.size, 4, none⟩) (Nat.le_refl _) (.int .i64 0)).setCell (p := ⟨w.heap.size, 5, none⟩) (Nat.le_refl _) (.int .i64 0)).setCell (p := ⟨w.heap.size, 6, none⟩) (Nat.le_refl _) (.int .i64 0)).setCell (p := ⟨w.heap.size, 7, none⟩) (Nat.le_refl _) (.int .i64 0)))
          simp only
          clear bb9 hv
          go_wp2
          exact bodyPost_ret (v := .tuple #[.agg #[.int .i64 0, .int .i64 0, .int .i64 0, .int .i64 0, .int .i64 0, .int .i64 0, .int .i64 0, .int .i64 0], .bool false]) (by simp [results, Try.results12, go_sem, u0, u1, u2, u3, u4, u5, u6, u7]) rfl ⟨by rw [HT.out]; first | done | rfl, HZ.out⟩
        · have HT := Lib.hid (D.pr_yes (n := 23) (f := f) ⟨rfl, hver, hv⟩)
          have HZ := Lib.hid (((((((((bb9.setCell (p := ⟨w.heap.size, 0, none⟩) (Nat.le_refl _) (.int .i64 (D.pa f))).setCell (p := ⟨w.heap.size, 1, none⟩) (Nat.le_refl _) (.int .i64 (D.pb f))).setCell (p := ⟨w.heap.size, 2, none⟩) (Nat.le_refl _) (.int .i64 (D.pc f))).setCell (p := ⟨w.heap.size, 3, none⟩) (Nat.le_refl _) (.int .i64 (D.pd f))).setCell (p := ⟨w.heap.size, 4, none⟩) (Nat.le_refl _) (.int .i64 (D.pe f))).setCell (p := ⟨w.heap.size, 5, none⟩) (Nat.le_refl _) (.int .i64 (D.pf f))).setCell (p := ⟨w.heap.size, 6, none⟩) (Nat.le_refl _) (.int .i64 (D.pg f))).setCell (p := ⟨w.heap.size, 7, none⟩) (Nat.le_refl _) (.int .i64 (D.ph f))))
          simp only
          clear bb9 hv
          go_wp2
          exact bodyPost_ret (v := .tuple #[.agg #[.int .i64 (D.pa f), .int .i64 (D.pb f), .int .i64 (D.pc f), .int .i64 (D.pd f), .int .i64 (D.pe f), .int .i64 (D.pf f), .int .i64 (D.pg f), .int .i64 (D.ph f)], .bool true]) (by simp [results, Try.results12, go_sem, u0, u1, u2, u3, u4, u5, u6, u7]) rfl ⟨by rw [HT.out]; first | done | rfl, HZ.out⟩
    · go_simp
      have hz : CN (V.alloc (.cells #[.int .i64 0, .int .i64 0, .int .i64 0, .int .i64 0, .int .i64 0, .int .i64 0, .int .i64 0, .int .i64 0] 24)) V.heap.size [0, 0, 0, 0, 0, 0, 0, 0] := CN.new _ _
      have hE0 := bW.size
      have bW := bW.alloc bW.size (.cells #[.int .i64 0, .int .i64 0, .int .i64 0, .int .i64 0, .int .i64 0, .int .i64 0, .int .i64 0, .int .i64 0] 24)
      refine hK.out _ _ (⟨(bW.cell (p := ⟨b, off, none⟩) hb).trans s0, (bW.cell (p := ⟨b, off + 1, none⟩) hb).trans s1, (bW.cell (p := ⟨b, off + 2, none⟩) hb).trans s2⟩) (fun hHeld => ?_)
      clear hK K
      try simp only [Act.put, List.setIfInBounds_toArray, List.set_cons_zero, List.set_cons_succ, List.getElem_toArray, List.getElem_cons_zero, List.getElem_cons_succ]
      generalize V.alloc (.cells #[.int .i64 0, .int .i64 0, .int .i64 0, .int .i64 0, .int .i64 0, .int .i64 0, .int .i64 0, .int .i64 0] 24) = X at *
      generalize hEE : V.heap.size = E at hz ⊢
      have hE : V.heap.size ≤ E := by rw [← hEE]; exact hE0
      clear hEE hE0
      refine wpAnyH_ready (rs := [20]) (by kernel_rfl) (by simp) ?_
      refine AllReadyH.cons rfl (fun K hK => ?_) AllReadyH.nil
      go_simp
      (go_at_call 24; refine (nm_spec_pe V _ b off _ f hV hf bW).mono ?_; rintro r w1 ⟨rfl, q1⟩)
      refine hK.out _ _ (⟨((bW.trans (q1.below (B := V.heap.size))).cell (p := ⟨b, off, none⟩) hb).trans s0, ((bW.trans (q1.below (B := V.heap.size))).cell (p := ⟨b, off + 1, none⟩) hb).trans s1, ((bW.trans (q1.below (B := V.heap.size))).cell (p := ⟨b, off + 2, none⟩) hb).trans s2⟩) (fun hHeld => ?_)
      clear hK K
      try simp only [Act.put, List.setIfInBounds_toArray, List.set_cons_zero, List.set_cons_succ, List.getElem_toArray, List.getElem_cons_zero, List.getElem_cons_succ]
      have hz := hz.same q1
      have bW := bW.trans (q1.below (B := V.heap.size))
      clear q1
      refine wpAnyH_ready (rs := [23]) (by kernel_rfl) (by simp) ?_
      refine AllReadyH.cons rfl (fun K hK => ?_) AllReadyH.nil
      go_simp
      (go_at_call 24; refine (nm_spec_pf V _ b off _ f hV hf bW).mono ?_; rintro r w2 ⟨rfl, q2⟩)
      refine hK.out _ _ (⟨((bW.trans (q2.below (B := V.heap.size))).cell (p := ⟨b, off, none⟩) hb).trans s0, ((bW.trans (q2.below (B := V.heap.size))).cell (p := ⟨b, off + 1, none⟩) hb).trans s1, ((bW.trans (q2.below (B := V.heap.size))).cell (p := ⟨b, off + 2, none⟩) hb).trans s2⟩) (fun hHeld => ?_)
      clear hK K
      try simp only [Act.put, List.setIfInBounds_toArray, List.set_cons_zero, List.set_cons_succ, List.getElem_toArray, List.getElem_cons_zero, List.getElem_cons_succ]
      have hz := hz.same q2
      have bW := bW.trans (q2.below (B := V.heap.size))
      clear q2
      refine wpAnyH_ready (rs := [26]) (by kernel_rfl) (by simp) ?_
      refine AllReadyH.cons rfl (fun K hK => ?_) AllReadyH.nil
      go_simp
      (go_at_call 24; refine (nm_spec_pg V _ b off _ f hV hf bW).mono ?_; rintro r w3 ⟨rfl, q3⟩)
      refine hK.out _ _ (⟨((bW.trans (q3.below (B := V.heap.size))).cell (p := ⟨b, off, none⟩) hb).trans s0, ((bW.trans (q3.below (B := V.heap.size))).cell (p := ⟨b, off + 1, none⟩) hb).trans s1, ((bW.trans (q3.below (B := V.heap.size))).cell (p := ⟨b, off + 2, none⟩) hb).trans s2⟩) (fun hHeld => ?_)
      clear hK K
      try simp only [Act.put, List.setIfInBounds_toArray, List.set_cons_zero, List.set_cons_succ, List.getElem_toArray, List.getElem_cons_zero, List.getElem_cons_succ]
      have hz := hz.same q3
      have bW := bW.trans (q3.below (B := V.heap.size))
      clear q3
      refine wpAnyH_ready (rs := [29]) (by kernel_rfl) (by simp) ?_
      refine AllReadyH.cons rfl (fun K hK => ?_) AllReadyH.nil
      go_simp
      (go_at_call 24; refine (nm_spec_ph V _ b off _ f hV hf bW).mono ?_; rintro r w4 ⟨rfl, q4⟩)
      refine hK.out _ _ (⟨((bW.trans (q4.below (B := V.heap.size))).cell (p := ⟨b, off, none⟩) hb).trans s0, ((bW.trans (q4.below (B := V.heap.size))).cell (p := ⟨b, off + 1, none⟩) hb).trans s1, ((bW.trans (q4.below (B := V.heap.size))).cell (p := ⟨b, off + 2, none⟩) hb).trans s2⟩) (fun hHeld => ?_)
      clear hK K
      try simp only [Act.put, List.setIfInBounds_toArray, List.set_cons_zero, List.set_cons_succ, List.getElem_toArray, List.getElem_cons_zero, List.getElem_cons_succ]
      have hz := hz.same q4
      have bW := bW.trans (q4.below (B := V.heap.size))
      clear q4
      have hz8 := ((((((((hz.set 0 (by simp) (D.pa f)).set 1 (by simp) (D.pb f)).set 2 (by simp) (D.pc f)).set 3 (by simp) (D.pd f)).set 4 (by simp) (D.pe f)).set 5 (by simp) (D.pf f)).set 6 (by simp) (D.pg f)).set 7 (by simp) (D.ph f))
      have bS := ((((((((bW.setCell (p := ⟨E, 0, none⟩) hE (.int .i64 (D.pa f))).setCell (p := ⟨E, 1, none⟩) hE (.int .i64 (D.pb f))).setCell (p := ⟨E, 2, none⟩) hE (.int .i64 (D.pc f))).setCell (p := ⟨E, 3, none⟩) hE (.int .i64 (D.pd f))).setCell (p := ⟨E, 4, none⟩) hE (.int .i64 (D.pe f))).setCell (p := ⟨E, 5, none⟩) hE (.int .i64 (D.pf f))).setCell (p := ⟨E, 6, none⟩) hE (.int .i64 (D.pg f))).setCell (p := ⟨E, 7, none⟩) hE (.int .i64 (D.ph f)))
      have e0 := (hz.at_ 0 (by simp)).1
      have f0 := (hz.at_ 0 (by simp)).2
      have e1 := (hz.at_ 1 (by simp)).1
      have f1 := (hz.at_ 1 (by simp)).2
      have e2 := (hz.at_ 2 (by simp)).1
      have f2 := (hz.at_ 2 (by simp)).2
      have e3 := (hz.at_ 3 (by simp)).1
      have f3 := (hz.at_ 3 (by simp)).2
      have e4 := (hz.at_ 4 (by simp)).1
      have f4 := (hz.at_ 4 (by simp)).2
      have e5 := (hz.at_ 5 (by simp)).1
      have f5 := (hz.at_ 5 (by simp)).2
      have e6 := (hz.at_ 6 (by simp)).1
      have f6 := (hz.at_ 6 (by simp)).2
      have e7 := (hz.at_ 7 (by simp)).1
      have f7 := (hz.at_ 7 (by simp)).2
      refine wpAnyH_take (i := 30) (v := ?_) rfl (by kernel_rfl) (by kernel_rfl) (by kernel_rfl) (fun _ _ _ h => h) (Or.inl ⟨by rfl, ?_⟩) (by assumption) ?_
      rotate_left
      · intro w hSw
        (try dsimp only at hSw)
        go_simp
        all_goals with_reducible rfl
      try simp only [Act.put, List.setIfInBounds_toArray, List.set_cons_zero, List.set_cons_succ, List.getElem_toArray, List.getElem_cons_zero, List.getElem_cons_succ]
      refine wpAnyH_ready (rs := [32]) (by kernel_rfl) (by simp) ?_
      refine AllReadyH.cons rfl (fun K hK => ?_) AllReadyH.nil
      go_simp
      skip
      refine hK.out _ _ (⟨(bS.cell (p := ⟨b, off, none⟩) hb).trans s0, (bS.cell (p := ⟨b, off + 1, none⟩) hb).trans s1, (bS.cell (p := ⟨b, off + 2, none⟩) hb).trans s2⟩) (fun hHeld => ?_)
      clear hK K
      try simp only [Act.put, List.setIfInBounds_toArray, List.set_cons_zero, List.set_cons_succ, List.getElem_toArray, List.getElem_cons_zero, List.getElem_cons_succ]
      refine wpAnyH_done (by kernel_rfl) ?_ _
      clear hHeld e0 e1 e2 e3 e4 e5 e6 e7 f0 f1 f2 f3 f4 f5 f6 f7 hz bW
      generalize ((((((((w4).setCell ⟨E, 0, none⟩ (.int .i64 (D.pa f))).setCell ⟨E, 1, none⟩ (.int .i64 (D.pb f))).setCell ⟨E, 2, none⟩ (.int .i64 (D.pc f))).setCell ⟨E, 3, none⟩ (.int .i64 (D.pd f))).setCell ⟨E, 4, none⟩ (.int .i64 (D.pe f))).setCell ⟨E, 5, none⟩ (.int .i64 (D.pf f))).setCell ⟨E, 6, none⟩ (.int .i64 (D.pg f))).setCell ⟨E, 7, none⟩ (.int .i64 (D.ph f)) = WS at *
      have hR := zR.bl bS hRl
      have hRW := Nat.lt_of_lt_of_le hRl bS.size
      have bb := bV.trans (bS.mono bV.size)
      have p0 : WS.cell? ⟨E, 0, none⟩ = some (.int .i64 (D.pa f)) := (hz8.at_ 0 (by simp)).1
      have p1 : WS.cell? ⟨E, 1, none⟩ = some (.int .i64 (D.pb f)) := (hz8.at_ 1 (by simp)).1
      have p2 : WS.cell? ⟨E, 2, none⟩ = some (.int .i64 (D.pc f)) := (hz8.at_ 2 (by simp)).1
      have p3 : WS.cell? ⟨E, 3, none⟩ = some (.int .i64 (D.pd f)) := (hz8.at_ 3 (by simp)).1
      have p4 : WS.cell? ⟨E, 4, none⟩ = some (.int .i64 (D.pe f)) := (hz8.at_ 4 (by simp)).1
      have p5 : WS.cell? ⟨E, 5, none⟩ = some (.int .i64 (D.pf f)) := (hz8.at_ 5 (by simp)).1
      have p6 : WS.cell? ⟨E, 6, none⟩ = some (.int .i64 (D.pg f)) := (hz8.at_ 6 (by simp)).1
      have p7 : WS.cell? ⟨E, 7, none⟩ = some (.int .i64 (D.ph f)) := (hz8.at_ 7 (by simp)).1
      clear hz8 bS
      have bE := bb
      go_wp2_with fail
      refine (vp_spec _ _ _ _ _ _ _ _ _).mono ?_
      rintro r w9 ⟨rfl, b9⟩
      have hR9 := hR.bl b9 hRW
      have bb9 := bb.trans (b9.mono bb.size)
      have hEl : E < WS.heap.size := World.block_lt_of_cell? _ _ p0
      have q0 := (b9.cell (p := ⟨E, 0, none⟩) hEl).trans p0
      have q1 := (b9.cell (p := ⟨E, 1, none⟩) hEl).trans p1
      have q2 := (b9.cell (p := ⟨E, 2, none⟩) hEl).trans p2
      have q3 := (b9.cell (p := ⟨E, 3, none⟩) hEl).trans p3
      have q4 := (b9.cell (p := ⟨E, 4, none⟩) hEl).trans p4
      have q5 := (b9.cell (p := ⟨E, 5, none⟩) hEl).trans p5
      have q6 := (b9.cell (p := ⟨E, 6, none⟩) hEl).trans p6
      have q7 := (b9.cell (p := ⟨E, 7, none⟩) hEl).trans p7
      have u0 : w9.cell? ⟨w.heap.size, 0, none⟩ = some (.int .i64 0) := (hR9.at_ 0 (by simp)).1
      have v0 := (hR9.at_ 0 (by simp)).2
      have u1 : w9.cell? ⟨w.heap.size, 1, none⟩ = some (.int .i64 0) := (hR9.at_ 1 (by simp)).1
      have v1 := (hR9.at_ 1 (by simp)).2
      have u2 : w9.cell? ⟨w.heap.size, 2, none⟩ = some (.int .i64 0) := (hR9.at_ 2 (by simp)).1
      have v2 := (hR9.at_ 2 (by simp)).2
      have u3 : w9.cell? ⟨w.heap.size, 3, none⟩ = some (.int .i64 0) := (hR9.at_ 3 (by simp)).1
      have v3 := (hR9.at_ 3 (by simp)).2
      have u4 : w9.cell? ⟨w.heap.size, 4, none⟩ = some (.int .i64 0) := (hR9.at_ 4 (by simp)).1
      have v4 := (hR9.at_ 4 (by simp)).2
      have u5 : w9.cell? ⟨w.heap.size, 5, none⟩ = some (.int .i64 0) := (hR9.at_ 5 (by simp)).1
      have v5 := (hR9.at_ 5 (by simp)).2
      have u6 : w9.cell? ⟨w.heap.size, 6, none⟩ = some (.int .i64 0) := (hR9.at_ 6 (by simp)).1
      have v6 := (hR9.at_ 6 (by simp)).2
      have u7 : w9.cell? ⟨w.heap.size, 7, none⟩ = some (.int .i64 0) := (hR9.at_ 7 (by simp)).1
      have v7 := (hR9.at_ 7 (by simp)).2
      clear p0 p1 p2 p3 p4 p5 p6 p7 hR b9 hR9 bb bE hRW
      rcases hv : D.vp (D.pa f) (D.pb f) (D.pc f) (D.pd f) (D.pe f) (D.pf f) (D.pg f) (D.ph f) with _ | _
      · have HT := Lib.hid (D.pr_no (n := 23) (f := f) (fun h => by have := h.2.2; rw [hv] at this; cases this))
        have HZ := Lib.hid (((((((((bb9.setCell (p := ⟨w.heap.size, 0, none⟩) (Nat.le_refl _) (.int .i64 0)).setCell (p := ⟨w.heap.size, 1, none⟩) (Nat.le_refl _) (.int .i64 0)).setCell (p := ⟨w.heap.size, 2, none⟩) (Nat.le_refl _) (.int .i64 0)).setCell (p := ⟨w.heap.size, 3, none⟩) (Nat.le_refl _) (.int .i64 0)).setCell (p := ⟨w.heap.size, 4, none⟩) (Nat.le_refl _) (.int .i64 0)).setCell (p := ⟨w.heap.size, 5, none⟩) (Nat.le_refl _) (.int .i64 0)).setCell (p := ⟨w.heap.size, 6, none⟩) (Nat.le_refl _) (.int .i64 0)).setCell (p := ⟨w.heap.size, 7, none⟩) (Nat.le_refl _) (.int .i64 0)))
        simp only
        clear bb9 hv
        go_wp2
        exact bodyPost_ret (v := .tuple #[.agg #[.int .i64 0, .int .i64 0, .int .i64 0, .int .i64 0, .int .i64 0, .int .i64 0, .int .i64 0, .int .i64 0], .bool false]) (by simp [results, Try.results12, go_sem, u0, u1, u2, u3, u4, u5, u6, u7]) rfl ⟨by rw [HT.out]; first | done | rfl, HZ.out⟩
      · have HT := Lib.hid (D.pr_yes (n := 23) (f := f) ⟨rfl, hver, hv⟩)
        have HZ := Lib.hid (((((((((bb9.setCell (p := ⟨w.heap.size, 0, none⟩) (Nat.le_refl _) (.int .i64 (D.pa f))).setCell (p := ⟨w.heap.size, 1, none⟩) (Nat.le_refl _) (.int .i64 (D.pb f))).setCell (p := ⟨w.heap.size, 2, none⟩) (Nat.le_refl _) (.int .i64 (D.pc f))).setCell (p := ⟨w.heap.size, 3, none⟩) (Nat.le_refl _) (.int .i64 (D.pd f))).setCell (p := ⟨w.heap.size, 4, none⟩) (Nat.le_refl _) (.int .i64 (D.pe f))).setCell (p := ⟨w.heap.size, 5, none⟩) (Nat.le_refl _) (.int .i64 (D.pf f))).setCell (p := ⟨w.heap.size, 6, none⟩) (Nat.le_refl _) (.int .i64 (D.pg f))).setCell (p := ⟨w.heap.size, 7, none⟩) (Nat.le_refl _) (.int .i64 (D.ph f))))
        simp only
        clear bb9 hv
        go_wp2
        exact bodyPost_ret (v := .tuple #[.agg #[.int .i64 (D.pa f), .int .i64 (D.pb f), .int .i64 (D.pc f), .int .i64 (D.pd f), .int .i64 (D.pe f), .int .i64 (D.pf f), .int .i64 (D.pg f), .int .i64 (D.ph f)], .bool true]) (by simp [results, Try.results12, go_sem, u0, u1, u2, u3, u4, u5, u6, u7]) rfl ⟨by rw [HT.out]; first | done | rfl, HZ.out⟩
end Go.Proofs.Ytegkmdinnkbkiaa
