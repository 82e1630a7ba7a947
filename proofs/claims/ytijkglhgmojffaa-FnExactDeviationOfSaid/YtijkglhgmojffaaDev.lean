/-
  Second differences as the model makes them; deviations and best steps, the program's and the model's (chapter 8).
-/
import Derived.Test.YtijkglhgmojffaaWin
import Derived.Deep.AppendLies
import Derived.Deep.RegionHeld3
import Derived.BigQuiet
import Derived.Deep.QuietTactic
namespace Go.Proofs.Ytijkglhgmojffaa
open Go.RowKit
set_option linter.unusedVariables false
set_option maxRecDepth 100000
theorem step_i {w0 w : World} {ops : Array Oper} {o : Oper} {a : Act} {K : Act → World → Prop} {R : Exit → Act → World → Prop} {E : Prop} (hgd : o.guard = none) (s x : Operand)
    (ho : o.op = .call { callee := .builtin .append, args := #[s, x], argTypes := #[23, 23] })
    {D q c : Nat} {v : Value} {l : List Int} {y : Int} (hs : a.eval s = v) (hx : a.eval x = .slice (some ⟨q, 0, none⟩) 1 c) (hc : w.cell? ⟨q, 0, none⟩ = some (.int .i64 y)) (O : Ow w0 w D v l) (hl : l.length ≤ 1000) (X : List Int) (hX : l ++ [y] = X)
    (h : ∀ v' w', Ow w0 w' D v' X → Below D w w' → K (a.put o.dst v') w') : if Region.wanted o (yielded ops a.tmps) = true then Oper.wp Try.prog o a w K R else E := by
  have hw : Region.wanted o (yielded ops a.tmps) = true := by simp [Region.wanted, hgd]
  rw [if_pos hw]
  obtain ⟨i0, hi0, hz0, hz1, hz2⟩ := info_parts intC_info
  refine wp_append_lies w s x 23 ho D 3 i0 (.int .i64 0) 1 8 Try.underlying23 hi0 hz0 hz1 hz2 rfl (by decide) v l.length (valsC l) hs O.own ⟨q, 0, none⟩ 1 c [.int .i64 y] hx rfl ?_ (by intro u hu; simp at hu; subst hu; rfl) (by decide) (by unfold maxLen; omega) (by omega) O.hi w.heap.size rfl ?_
  · intro j u hu
    rcases j with _ | j
    · have : u = .int .i64 y := by simpa using hu.symm
      subst this
      exact hc
    · simp at hu
  · intro g cap w' own hg _ _
    have O' := O.grown own hg
    rw [hX] at O'
    exact h _ _ O' ((Below.refl D w).grown hg O.hi (fun k hk => (World.ownsRow.lt O.own k hk).1))
theorem app_i {w0 w : World} {ops : Array Oper} {rest : List Oper} {o : Oper} {a : Act} {R : Exit → Act → World → Prop} (hgd : o.guard = none) (s x : Operand)
    (ho : o.op = .call { callee := .builtin .append, args := #[s, x], argTypes := #[23, 23] })
    {D q c : Nat} {v : Value} {l : List Int} {y : Int} (hs : a.eval s = v) (hx : a.eval x = .slice (some ⟨q, 0, none⟩) 1 c) (hc : w.cell? ⟨q, 0, none⟩ = some (.int .i64 y)) (O : Ow w0 w D v l) (hl : l.length ≤ 1000) (X : List Int) (hX : l ++ [y] = X)
    (h : ∀ v' w', Ow w0 w' D v' X → Below D w w' → wpList Try.prog ops R rest (a.put o.dst v') w') : wpList Try.prog ops R (o :: rest) a w := by
  obtain ⟨i0, hi0, hz0, hz1, hz2⟩ := info_parts intC_info
  refine wpList_append_own _ hgd s x 23 ho D 3 i0 (.int .i64 0) 1 8 Try.underlying23 hi0 hz0 hz1 hz2 rfl (by decide) v l.length (valsC l) hs O.own ⟨q, 0, none⟩ 1 c [.int .i64 y] hx rfl ?_ (by intro u hu; simp at hu; subst hu; rfl) (by unfold maxLen; omega) (by omega) O.hi ?_
  · intro j u hu
    rcases j with _ | j
    · have : u = .int .i64 y := by simpa using hu.symm
      subst this
      exact hc
    · simp at hu
  · intro v' w' own hg _
    have O' := O.grown own hg
    rw [hX] at O'
    exact h _ _ O' ((Below.refl D w).grown hg O.hi (fun k hk => (World.ownsRow.lt O.own k hk).1))
theorem cell_al {w : World} (o : Obj) {b j : Nat} {x : Value} (h : w.cell? ⟨b, j, none⟩ = some x) : (w.alloc o).cell? ⟨b, j, none⟩ = some x :=
  (((Below.refl w.heap.size w).alloc (Nat.le_refl _) o).cell (p := ⟨b, j, none⟩) (World.block_lt_of_cell? _ _ h)).trans h
theorem Ow.told {w w' : World} {D : Nat} {v : Value} {l : List Int} (h : Ow w w' D v l) : Told w l (.returned v) w' := by
  obtain ⟨a, c, rfl, hN⟩ := row_told h.own
  exact ⟨a, c, rfl, hN.more h.lo, h.bel⟩
set_option maxHeartbeats 8000000 in
theorem SD_spec_ok (n c s : Nat) (a : Option Addr) (l : List Int) (w : World) (h : Lst w.heap.size w a n l) (hok : F.dok l (s : Int) = true) : Calls Try.prog 16 #[.slice a n c, .int .i64 (s : Int)] w (Told w (F.sds l s (n - 2 * s))) := by
  have hv := (F.dok_of hok).1
  have hs1 : 1 ≤ s := by have := (F.dok_of hok).2.1; omega
  have hs16 : s ≤ 16 := by have := (F.dok_of hok).2.2; omega
  have h16 : n ≤ 16 := by rw [← h.1]; exact (F.vp_of hv).1
  have hb1 : (1 : Int) ≤ (s : Int) := by omega
  have hb2 : (s : Int) ≤ 16 := by omega
  have k1 := fun w' h => vp_spec w.heap.size n c a l w' h
  simp only [hv] at k1
  have K1 := Lib.hid k1
  have HV := Lib.hid hv
  have k2 := fun w' => inR_spec (s : Int) 1 16 w'
  simp only [inR_yes (show (1 : Int) ≤ (s : Int) ∧ (s : Int) ≤ 16 from ⟨hb1, hb2⟩)] at k2
  have K2 := Lib.hid k2
  clear k1 k2 hv hok
  have O0 := Ow.new (Below.refl w.heap.size w)
  have h1 : Lst w.heap.size (w.alloc (.cells #[] 3)) a n l := h.below ((Below.refl _ _).alloc (Nat.le_refl _) _)
  go_enter Try.func16, Try.ntmps16
  go_wp2_with (first
    | (go_at_call 34; refine (K1.out _ h1).mono ?_; rintro e w1 ⟨rfl, q1⟩)
    | (go_at_call 35; refine (K2.out _).mono ?_; rintro e w' ⟨rfl, rfl⟩))
  have O1 : Ow w w1 w.heap.size (.slice (some ⟨w.heap.size, 0, none⟩) 0 0) [] := by obtain ⟨p, rfl⟩ := q1; exact O0.dr p
  have h2 := h1.same q1
  clear h1 h O0 q1
  go_loopw [5, 6] (fun o i wr => ∃ (k : Nat) (v : Value), o = v ∧ i = .int .i64 k ∧ k ≤ n - 2 * s ∧ Ow w wr w.heap.size v (F.sds l s k) ∧ Lst w.heap.size wr a n l) (fun _ i _ => n - 2 * s - (intOf i).toNat)
  case atStart => exact ⟨0, _, rfl, rfl, Nat.zero_le _, O1, h2⟩
  case round =>
    obtain ⟨k, v, rfl, rfl, hk, O, hL⟩ := hrel
    clear O1 h2
    by_cases hlt : k < n - 2 * s
    · have hlt' : (k : Int) + 2 * (s : Int) < (n : Int) := by omega
      obtain ⟨b, off, rfl, hb, hc⟩ := hL.at_ k (by omega)
      have y0 := hc k (by omega)
      have y1 := hc (k + s) (by omega)
      have y2 := hc (k + 2 * s) (by omega)
      have g0 := F.vp_g HV.out k
      have g1 := F.vp_g HV.out (k + s)
      have g2 := F.vp_g HV.out (k + 2 * s)
      have hsn := F.sds_snoc l s k
      rw [F.sd_eq] at hsn
      have hln := F.sds_len l s k
      obtain ⟨k1, hk1⟩ : ∃ k1, k + s = k1 := ⟨_, rfl⟩
      obtain ⟨k2, hk2⟩ : ∃ k2, k + 2 * s = k2 := ⟨_, rfl⟩
      have e1 : (k : Int) + (s : Int) = (k1 : Int) := by omega
      have e2 : (k : Int) + 2 * (s : Int) = (k2 : Int) := by omega
      have b0 : k < n := by omega
      have b1 : k1 < n := by omega
      have b2 : k2 < n := by omega
      have w1' : IntKind.i64.wrap (k1 : Int) = (k1 : Int) := IntWalk.i64_in _ (by omega)
      have w2' : IntKind.i64.wrap (k2 : Int) = (k2 : Int) := IntWalk.i64_in _ (by omega)
      have w3' : IntKind.i64.wrap (2 * (s : Int)) = 2 * (s : Int) := IntWalk.i64_in _ (by omega)
      rw [hk1] at y1 g1 hsn
      rw [hk2] at y2 g2 hsn
      rw [e2] at hlt'
      generalize L.g l k = x0 at *
      generalize L.g l k1 = x1 at *
      generalize L.g l k2 = x2 at *
      have v0 : IntKind.i64.wrap (2 * x1) = 2 * x1 := IntWalk.i64_in _ (by omega)
      have v1 : IntKind.i64.wrap (x2 - 2 * x1) = x2 - 2 * x1 := IntWalk.i64_in _ (by omega)
      have v2 : IntKind.i64.wrap (x2 - 2 * x1 + x0) = x2 - 2 * x1 + x0 := IntWalk.i64_in _ (by omega)
      have HK := Lib.hid (And.intro hk1 (And.intro hk2 hc))
      have HS := Lib.hid (And.intro hsn (And.intro hln hL))
      clear hk1 hk2 hc hsn hln hL
      go_wp2_with fail
      have OV := O.dr 1
      rw [show wr.drewN 1 = wr.drew from rfl] at OV
      refine wp_region_held_drew (S := (fun w' => w'.cell? ⟨b, off + k, none⟩ = some (.int .i64 x0) ∧ w'.cell? ⟨b, off + k1, none⟩ = some (.int .i64 x1) ∧ w'.cell? ⟨b, off + k2, none⟩ = some (.int .i64 x2))) (by kernel_rfl) (⟨y0, y1, y2⟩) (fun hHeld => ?_)
      have y0 : wr.drew.cell? ⟨b, off + k, none⟩ = some (.int .i64 x0) := y0
      have y1 : wr.drew.cell? ⟨b, off + k1, none⟩ = some (.int .i64 x1) := y1
      have y2 : wr.drew.cell? ⟨b, off + k2, none⟩ = some (.int .i64 x2) := y2
      have HB := Lib.hid (Below.refl w.heap.size wr).drew
      generalize wr.drew = V at *
      refine wpAnyH_take (i := 0) (v := ?_) rfl (by kernel_rfl) (by kernel_rfl) (by kernel_rfl) (fun _ _ _ h => h) (Or.inl ⟨by rfl, ?_⟩) (by assumption) ?_
      rotate_left
      · intro w hSw
        (try dsimp only at hSw)
        go_simp
        all_goals with_reducible rfl
      try simp only [Act.put, List.setIfInBounds_toArray, List.set_cons_zero, List.set_cons_succ, List.getElem_toArray, List.getElem_cons_zero]
      refine wpAnyH_take (i := 1) (v := ?_) rfl (by kernel_rfl) (by kernel_rfl) (by kernel_rfl) (fun _ _ _ h => h) (Or.inl ⟨by rfl, ?_⟩) (by assumption) ?_
      rotate_left
      · intro w hSw
        (try dsimp only at hSw)
        go_simp
        all_goals with_reducible rfl
      try simp only [Act.put, List.setIfInBounds_toArray, List.set_cons_zero, List.set_cons_succ, List.getElem_toArray, List.getElem_cons_zero, List.getElem_cons_succ]
      refine wpAnyH_take (i := 2) (v := ?_) rfl (by kernel_rfl) (by kernel_rfl) (by kernel_rfl) (fun _ _ _ h => h) (Or.inl ⟨by rfl, ?_⟩) (by assumption) ?_
      rotate_left
      · intro w hSw
        (try dsimp only at hSw)
        go_simp
        all_goals with_reducible rfl
      try simp only [Act.put, List.setIfInBounds_toArray, List.set_cons_zero, List.set_cons_succ, List.getElem_toArray, List.getElem_cons_zero, List.getElem_cons_succ]
      refine wpAnyH_take (i := 3) (v := ?_) rfl (by kernel_rfl) (by kernel_rfl) (by kernel_rfl) (fun _ _ _ h => h) (Or.inl ⟨by rfl, ?_⟩) (by assumption) ?_
      rotate_left
      · intro w hSw
        (try dsimp only at hSw)
        go_simp
        all_goals with_reducible rfl
      try simp only [Act.put, List.setIfInBounds_toArray, List.set_cons_zero, List.set_cons_succ, List.getElem_toArray, List.getElem_cons_zero, List.getElem_cons_succ]
      refine wpAnyH_take (i := 4) (v := ?_) rfl (by kernel_rfl) (by kernel_rfl) (by kernel_rfl) (fun _ _ _ h => h) (Or.inl ⟨by rfl, ?_⟩) (by assumption) ?_
      rotate_left
      · intro w hSw
        (try dsimp only at hSw)
        go_simp
        all_goals with_reducible rfl
      try simp only [Act.put, List.setIfInBounds_toArray, List.set_cons_zero, List.set_cons_succ, List.getElem_toArray, List.getElem_cons_zero, List.getElem_cons_succ]
      refine wpAnyH_take (i := 5) (v := ?_) rfl (by kernel_rfl) (by kernel_rfl) (by kernel_rfl) (fun _ _ _ h => h) (Or.inl ⟨by rfl, ?_⟩) (by assumption) ?_
      rotate_left
      · intro w hSw
        (try dsimp only at hSw)
        go_simp
        all_goals with_reducible rfl
      try simp only [Act.put, List.setIfInBounds_toArray, List.set_cons_zero, List.set_cons_succ, List.getElem_toArray, List.getElem_cons_zero, List.getElem_cons_succ]
      refine wpAnyH_take (i := 6) (v := ?_) rfl (by kernel_rfl) (by kernel_rfl) (by kernel_rfl) (fun _ _ _ h => h) (Or.inl ⟨by rfl, ?_⟩) (by assumption) ?_
      rotate_left
      · intro w hSw
        (try dsimp only at hSw)
        go_simp
        all_goals with_reducible rfl
      try simp only [Act.put, List.setIfInBounds_toArray, List.set_cons_zero, List.set_cons_succ, List.getElem_toArray, List.getElem_cons_zero, List.getElem_cons_succ]
      refine wpAnyH_take (i := 7) (v := ?_) rfl (by kernel_rfl) (by kernel_rfl) (by kernel_rfl) (fun _ _ _ h => h) (Or.inl ⟨by rfl, ?_⟩) (by assumption) ?_
      rotate_left
      · intro w hSw
        (try dsimp only at hSw)
        go_simp
        all_goals with_reducible rfl
      try simp only [Act.put, List.setIfInBounds_toArray, List.set_cons_zero, List.set_cons_succ, List.getElem_toArray, List.getElem_cons_zero, List.getElem_cons_succ]
      refine wpAnyH_take (i := 8) (v := ?_) rfl (by kernel_rfl) (by kernel_rfl) (by kernel_rfl) (fun _ _ _ h => h) (Or.inl ⟨by rfl, ?_⟩) (by assumption) ?_
      rotate_left
      · intro w hSw
        (try dsimp only at hSw)
        go_simp
        all_goals with_reducible rfl
      try simp only [Act.put, List.setIfInBounds_toArray, List.set_cons_zero, List.set_cons_succ, List.getElem_toArray, List.getElem_cons_zero, List.getElem_cons_succ]
      refine wpAnyH_take (i := 9) (v := ?_) rfl (by kernel_rfl) (by kernel_rfl) (by kernel_rfl) (fun _ _ _ h => h) (Or.inl ⟨by rfl, ?_⟩) (by assumption) ?_
      rotate_left
      · intro w hSw
        (try dsimp only at hSw)
        go_simp
        all_goals with_reducible rfl
      try simp only [Act.put, List.setIfInBounds_toArray, List.set_cons_zero, List.set_cons_succ, List.getElem_toArray, List.getElem_cons_zero, List.getElem_cons_succ]
      refine wpAnyH_take (i := 10) (v := ?_) rfl (by kernel_rfl) (by kernel_rfl) (by kernel_rfl) (fun _ _ _ h => h) (Or.inl ⟨by rfl, ?_⟩) (by assumption) ?_
      rotate_left
      · intro w hSw
        (try dsimp only at hSw)
        go_simp
        all_goals with_reducible rfl
      try simp only [Act.put, List.setIfInBounds_toArray, List.set_cons_zero, List.set_cons_succ, List.getElem_toArray, List.getElem_cons_zero, List.getElem_cons_succ]
      refine wpAnyH_take (i := 11) (v := ?_) rfl (by kernel_rfl) (by kernel_rfl) (by kernel_rfl) (fun _ _ _ h => h) (Or.inl ⟨by rfl, ?_⟩) (by assumption) ?_
      rotate_left
      · intro w hSw
        (try dsimp only at hSw)
        go_simp
        all_goals with_reducible rfl
      try simp only [Act.put, List.setIfInBounds_toArray, List.set_cons_zero, List.set_cons_succ, List.getElem_toArray, List.getElem_cons_zero, List.getElem_cons_succ]
      refine wpAnyH_take (i := 12) (v := ?_) rfl (by kernel_rfl) (by kernel_rfl) (by kernel_rfl) (fun _ _ _ h => h) (Or.inl ⟨by rfl, ?_⟩) (by assumption) ?_
      rotate_left
      · intro w hSw
        (try dsimp only at hSw)
        go_simp
        all_goals with_reducible rfl
      try simp only [Act.put, List.setIfInBounds_toArray, List.set_cons_zero, List.set_cons_succ, List.getElem_toArray, List.getElem_cons_zero, List.getElem_cons_succ]
      refine wpAnyH_take (i := 13) (v := ?_) rfl (by kernel_rfl) (by kernel_rfl) (by kernel_rfl) (fun _ _ _ h => h) (Or.inl ⟨by rfl, ?_⟩) (by assumption) ?_
      rotate_left
      · intro w hSw
        (try dsimp only at hSw)
        go_simp
        all_goals with_reducible rfl
      try simp only [Act.put, List.setIfInBounds_toArray, List.set_cons_zero, List.set_cons_succ, List.getElem_toArray, List.getElem_cons_zero, List.getElem_cons_succ]
      refine wpAnyH_take (i := 14) (v := ?_) rfl (by kernel_rfl) (by kernel_rfl) (by kernel_rfl) (fun _ _ _ h => h) (Or.inl ⟨by rfl, ?_⟩) (by assumption) ?_
      rotate_left
      · intro w hSw
        (try dsimp only at hSw)
        go_simp
        all_goals with_reducible rfl
      try simp only [Act.put, List.setIfInBounds_toArray, List.set_cons_zero, List.set_cons_succ, List.getElem_toArray, List.getElem_cons_zero, List.getElem_cons_succ]
      refine wpAnyH_take (i := 15) (v := ?_) rfl (by kernel_rfl) (by kernel_rfl) (by kernel_rfl) (fun _ _ _ h => h) (Or.inl ⟨by rfl, ?_⟩) (by assumption) ?_
      rotate_left
      · intro w hSw
        (try dsimp only at hSw)
        go_simp
        all_goals with_reducible rfl
      try simp only [Act.put, List.setIfInBounds_toArray, List.set_cons_zero, List.set_cons_succ, List.getElem_toArray, List.getElem_cons_zero, List.getElem_cons_succ]
      refine wpAnyH_take (i := 16) (v := ?_) rfl (by kernel_rfl) (by kernel_rfl) (by kernel_rfl) (fun _ _ _ h => h) (Or.inl ⟨by rfl, ?_⟩) (by assumption) ?_
      rotate_left
      · intro w hSw
        (try dsimp only at hSw)
        go_simp
        all_goals with_reducible rfl
      try simp only [Act.put, List.setIfInBounds_toArray, List.set_cons_zero, List.set_cons_succ, List.getElem_toArray, List.getElem_cons_zero, List.getElem_cons_succ]
      refine wpAnyH_take (i := 17) (v := ?_) rfl (by kernel_rfl) (by kernel_rfl) (by kernel_rfl) (fun _ _ _ h => h) (Or.inl ⟨by rfl, ?_⟩) (by assumption) ?_
      rotate_left
      · intro w hSw
        (try dsimp only at hSw)
        go_simp
        all_goals with_reducible rfl
      try simp only [Act.put, List.setIfInBounds_toArray, List.set_cons_zero, List.set_cons_succ, List.getElem_toArray, List.getElem_cons_zero, List.getElem_cons_succ]
      refine wpAnyH_take (i := 18) (v := ?_) rfl (by kernel_rfl) (by kernel_rfl) (by kernel_rfl) (fun _ _ _ h => h) (Or.inl ⟨by rfl, ?_⟩) (by assumption) ?_
      rotate_left
      · intro w hSw
        (try dsimp only at hSw)
        go_simp
        all_goals with_reducible rfl
      try simp only [Act.put, List.setIfInBounds_toArray, List.set_cons_zero, List.set_cons_succ, List.getElem_toArray, List.getElem_cons_zero, List.getElem_cons_succ]
      refine wpAnyH_take (i := 19) (v := ?_) rfl (by kernel_rfl) (by kernel_rfl) (by kernel_rfl) (fun _ _ _ h => h) (Or.inl ⟨by rfl, ?_⟩) (by assumption) ?_
      rotate_left
      · intro w hSw
        (try dsimp only at hSw)
        go_simp
        all_goals with_reducible rfl
      try simp only [Act.put, List.setIfInBounds_toArray, List.set_cons_zero, List.set_cons_succ, List.getElem_toArray, List.getElem_cons_zero, List.getElem_cons_succ]
      refine wpAnyH_take (i := 20) (v := ?_) rfl (by kernel_rfl) (by kernel_rfl) (by kernel_rfl) (fun _ _ _ h => h) (Or.inl ⟨by rfl, ?_⟩) (by assumption) ?_
      rotate_left
      · intro w hSw
        (try dsimp only at hSw)
        go_simp
        all_goals with_reducible rfl
      try simp only [Act.put, List.setIfInBounds_toArray, List.set_cons_zero, List.set_cons_succ, List.getElem_toArray, List.getElem_cons_zero, List.getElem_cons_succ]
      have z0 : (V.alloc (.cells #[.int .i64 (x2 - 2 * x1 + x0)] 3)).cell? ⟨b, off + k, none⟩ = some (.int .i64 x0) := cell_al _ y0
      have z1 : (V.alloc (.cells #[.int .i64 (x2 - 2 * x1 + x0)] 3)).cell? ⟨b, off + k1, none⟩ = some (.int .i64 x1) := cell_al _ y1
      have z2 : (V.alloc (.cells #[.int .i64 (x2 - 2 * x1 + x0)] 3)).cell? ⟨b, off + k2, none⟩ = some (.int .i64 x2) := cell_al _ y2
      have zc := cell_one_new V (.int .i64 (x2 - 2 * x1 + x0)) 3
      refine wpAnyH_ready (rs := [21]) (by kernel_rfl) (by simp) ?_
      refine AllReadyH.cons rfl (fun K hK => ?_) AllReadyH.nil
      go_simp
      skip
      refine hK.out _ _ (⟨z0, z1, z2⟩) (fun hHeld => ?_)
      clear hK K
      try simp only [Act.put, List.setIfInBounds_toArray, List.set_cons_zero, List.set_cons_succ, List.getElem_toArray, List.getElem_cons_zero, List.getElem_cons_succ]
      have OA := OV.al (.cells #[.int .i64 (x2 - 2 * x1 + x0)] 3)
      have HBA := Lib.hid (HB.out.alloc OV.hi (.cells #[.int .i64 (x2 - 2 * x1 + x0)] 3))
      refine wpAnyH_ready (rs := [22]) (by kernel_rfl) (by simp) ?_
      refine AllReadyH.cons rfl (fun K hK => ?_) AllReadyH.nil
      refine step_i rfl _ _ (by rfl) (by rfl) (by rfl) (by have := zc 0 _ rfl; exact this) OA (by have := HS.out.2.1; omega) (F.sds l s (k + 1)) HS.out.1 ?_
      intro v9 w9 O9 b9
      refine hK.out _ _ ⟨(b9.cell (p := ⟨b, off + k, none⟩) hb).trans z0, (b9.cell (p := ⟨b, off + k1, none⟩) hb).trans z1, (b9.cell (p := ⟨b, off + k2, none⟩) hb).trans z2⟩ (fun hHeld => ?_)
      clear hK K
      try simp only [Act.put, List.setIfInBounds_toArray, List.set_cons_zero, List.set_cons_succ, List.getElem_toArray, List.getElem_cons_zero, List.getElem_cons_succ]
      refine wpAnyH_take (i := 23) (v := ?_) rfl (by kernel_rfl) (by kernel_rfl) (by kernel_rfl) (fun _ _ _ h => h) (Or.inl ⟨by rfl, ?_⟩) (by assumption) ?_
      rotate_left
      · intro w hSw
        (try dsimp only at hSw)
        go_simp
        all_goals with_reducible rfl
      try simp only [Act.put, List.setIfInBounds_toArray, List.set_cons_zero, List.set_cons_succ, List.getElem_toArray, List.getElem_cons_zero, List.getElem_cons_succ]
      refine wpAnyH_done (by kernel_rfl) ?_ _
      have HL9 := Lib.hid (HS.out.2.2.below (HBA.out.trans b9))
      clear hHeld z0 z1 z2 zc y0 y1 y2 OA OV O v0 v1 v2 w1' w2' w3' e1 e2
      go_wp2
      go_roundw
      case rel => exact ⟨k + 1, v9, rfl, by go_num, by omega, O9, HL9.out⟩
      case measure => simp [intOf]; omega
    · have hkn : k = n - 2 * s := by omega
      have hlt' : ¬ (k : Int) + 2 * (s : Int) < (n : Int) := by omega
      rw [hkn] at O
      have T := Lib.hid O.told
      clear hkn O
      go_wp2
      go_ret
      exact T.out
set_option maxHeartbeats 1000000 in
theorem SD_spec_no (n c : Nat) (st : Int) (a : Option Addr) (l : List Int) (w : World) (h : Lst w.heap.size w a n l) (hok : F.dok l st = false) : Calls Try.prog 16 #[.slice a n c, .int .i64 st] w (Told w []) := by
  have T : ∀ w', Same (w.alloc (.cells #[] 3)) w' → Told w [] (.returned (.slice none 0 0)) w' := fun w' q => ⟨none, 0, rfl, Nums.none_ _ _, ((Below.refl _ _).alloc (Nat.le_refl _) _).trans q.below⟩
  have HT := Lib.hid T
  have h1 : Lst w.heap.size (w.alloc (.cells #[] 3)) a n l := h.below ((Below.refl _ _).alloc (Nat.le_refl _) _)
  clear T
  rcases hv : F.vp l with _ | _
  · have k1 := fun w' h => vp_spec w.heap.size n c a l w' h
    simp only [hv] at k1
    have K1 := Lib.hid k1
    clear k1 hv hok
    go_enter Try.func16, Try.ntmps16
    go_wp2_with (first
      | (go_at_call 34; refine (K1.out _ h1).mono ?_; rintro e w1 ⟨rfl, q1⟩))
    go_ret
    exact HT.out _ q1
  · have hin : inR st 1 16 = false := by
      rcases inR_cases st 1 16 with ⟨r0, r1⟩ | ⟨r0, r1⟩
      · exfalso
        rw [F.dok_yes ⟨hv, r1⟩] at hok; cases hok
      · exact r0
    have k1 := fun w' h => vp_spec w.heap.size n c a l w' h
    simp only [hv] at k1
    have K1 := Lib.hid k1
    have k2 := fun w' => inR_spec st 1 16 w'
    simp only [hin] at k2
    have K2 := Lib.hid k2
    clear k1 k2 hv hok hin
    go_enter Try.func16, Try.ntmps16
    go_wp2_with (first
      | (go_at_call 34; refine (K1.out _ h1).mono ?_; rintro e w1 ⟨rfl, q1⟩)
      | (go_at_call 35; refine (K2.out _).mono ?_; rintro e w' ⟨rfl, rfl⟩))
    go_ret
    exact HT.out _ q1
theorem SD_spec (n c : Nat) (st : Int) (a : Option Addr) (l : List Int) (w : World) (h : Lst w.heap.size w a n l) : Calls Try.prog 16 #[.slice a n c, .int .i64 st] w (Told w (F.sdr l st)) := by
  rcases hok : F.dok l st with _ | _
  · rw [F.sdr_no hok]; exact SD_spec_no n c st a l w h hok
  · obtain ⟨s, rfl⟩ := Int.eq_ofNat_of_zero_le (show 0 ≤ st by have := (F.dok_of hok).2.1; omega)
    rw [F.sdr_yes hok, h.1]
    exact SD_spec_ok n c s a l w h hok
/-- A number that is told; the call may have made memory. -/
def Tell (w : World) (x : Int) (e : Ending) (w' : World) : Prop := e = .returned (.int .i64 x) ∧ Below w.heap.size w w'
set_option maxHeartbeats 2000000 in
theorem DV_impl (n c : Nat) (st : Int) (a : Option Addr) (l : List Int) (w : World) (h : Lst w.heap.size w a n l) : Calls Try.prog 18 #[.slice a n c, .int .i64 st] w (Tell w (F.dev l st)) := by
  have hin := F.sdr_in l st
  have hle := F.sdr_len l st
  have k1 := SD_impl n c st a l w h
  unfold F.dev
  generalize F.sdr l st = d at *
  have K1 := Lib.hid k1
  have HI := Lib.hid hin
  obtain ⟨q, hq⟩ : ∃ q, d.length = q := ⟨_, rfl⟩
  have HQ := Lib.hid hq
  rw [hq] at hle
  clear k1 hin h hq
  go_enter Try.func18, Try.ntmps18
  go_wp2_with fail
  refine K1.out.mono ?_
  rintro e w1 ⟨a1, c1, rfl, N1, b1⟩
  have hL := N1.lst (by have := HQ.out; omega)
  rw [HQ.out] at hL ⊢
  have HB := Lib.hid b1
  clear N1 b1 K1
  rcases Nat.eq_zero_or_pos q with h0 | h0
  · have HV := Lib.hid (F.dv_no (HQ.out.trans h0))
    have h0' : ((q : Int) == 0) = true := by rw [h0]; rfl
    clear hL h0
    go_wp2
    go_ret
    exact ⟨by rw [HV.out]; rfl, HB.out⟩
  · have h0' : ((q : Int) == 0) = false := by rw [beq_eq_false_iff_ne]; omega
    have HL := Lib.hid hL
    clear hL
    go_wp2_with fail
    go_loop [6, 17] (fun t i => ∃ k : Nat, k ≤ q ∧ t = .int .i64 (F.sqs d k) ∧ i = .int .i64 k) (fun _ i => q - (intOf i).toNat)
    case atStart => exact ⟨0, Nat.zero_le _, rfl, rfl⟩
    case round =>
      obtain ⟨k, hk, rfl, rfl⟩ := hrel
      have hs := F.sqs_in HI.out k
      by_cases hlt : k < q
      · obtain ⟨b, off, rfl, hb, hc⟩ := HL.out.at_ k hlt
        have ck := hc k hlt
        have hg := F.sq_in (HI.out k)
        have HS := Lib.hid (F.sqs_succ d k)
        clear hc
        generalize F.sqs d k = S at *
        generalize hx : L.g d k = x at *
        have HX := Lib.hid hx
        clear hx
        have w1' : IntKind.i64.wrap (x * x) = x * x := IntWalk.i64_in _ (by omega)
        have w2' : IntKind.i64.wrap (S + x * x) = S + x * x := IntWalk.i64_in _ (by omega)
        go_wp2
        go_round
        case rel => exact ⟨k + 1, by omega, by rw [HS.out], by go_num⟩
        case measure => simp [intOf]; omega
      · obtain rfl : k = q := by omega
        have HV := Lib.hid (F.dv_yes (d := d) (by have := HQ.out; omega))
        clear HL
        go_wp2
        go_ret
        exact ⟨by rw [HV.out, HQ.out]; rfl, HB.out⟩
set_option maxHeartbeats 2000000 in
theorem DV_spec (n c : Nat) (st : Int) (a : Option Addr) (l : List Int) (w : World) (h : Lst w.heap.size w a n l) : Calls Try.prog 19 #[.slice a n c, .int .i64 st] w (Tell w (F.dev l st)) := by
  have hin := F.sdr_in l st
  have hle := F.sdr_len l st
  have k1 := SD_spec n c st a l w h
  unfold F.dev
  generalize F.sdr l st = d at *
  have K1 := Lib.hid k1
  have HI := Lib.hid hin
  obtain ⟨q, hq⟩ : ∃ q, d.length = q := ⟨_, rfl⟩
  have HQ := Lib.hid hq
  rw [hq] at hle
  clear k1 hin h hq
  go_enter Try.func19, Try.ntmps19
  go_wp2_with fail
  refine K1.out.mono ?_
  rintro e w1 ⟨a1, c1, rfl, N1, b1⟩
  have hL := N1.lst (by have := HQ.out; omega)
  rw [HQ.out] at hL ⊢
  have HB := Lib.hid b1
  clear N1 b1 K1
  rcases Nat.eq_zero_or_pos q with h0 | h0
  · have HV := Lib.hid (F.dv_no (HQ.out.trans h0))
    have h0' : ((q : Int) == 0) = true := by rw [h0]; rfl
    clear hL h0
    go_wp2
    go_ret
    exact ⟨by rw [HV.out]; rfl, HB.out⟩
  · have h0' : ((q : Int) == 0) = false := by rw [beq_eq_false_iff_ne]; omega
    have HL := Lib.hid hL
    clear hL
    go_wp2_with fail
    go_loopw [5, 7] (fun t i wr => ∃ k : Nat, k ≤ q ∧ t = .int .i64 (F.sqs d k) ∧ i = .int .i64 k ∧ Same w1 wr) (fun _ i _ => q - (intOf i).toNat)
    case atStart => exact ⟨0, Nat.zero_le _, rfl, rfl, Same.refl _⟩
    case round =>
      obtain ⟨k, hk, rfl, rfl, hsm⟩ := hrel
      have hs := F.sqs_in HI.out k
      by_cases hlt : k < q
      · obtain ⟨b, off, rfl, hb, hc⟩ := (HL.out.same hsm).at_ k hlt
        have ck := hc k hlt
        have hg := F.sq_in (HI.out k)
        have HS := Lib.hid (F.sqs_succ d k)
        clear hc
        generalize F.sqs d k = S at *
        generalize hx : L.g d k = x at *
        have HX := Lib.hid hx
        clear hx
        have w1' : IntKind.i64.wrap (x * x) = x * x := IntWalk.i64_in _ (by omega)
        have w2' : IntKind.i64.wrap (S + x * x) = S + x * x := IntWalk.i64_in _ (by omega)
        go_wp2_with fail
        go_quiet (fail)
        clear w1' w2'
        go_wp2
        go_roundw
        case rel => exact ⟨k + 1, by omega, by rw [HS.out], by go_num, hsm.drewN _⟩
        case measure => simp [intOf]; omega
      · obtain rfl : k = q := by omega
        have HV := Lib.hid (F.dv_yes (d := d) (by have := HQ.out; omega))
        have HB2 := Lib.hid (bel_same HB.out hsm)
        clear HL
        go_wp2
        go_ret
        exact ⟨by rw [HV.out, HQ.out]; rfl, HB2.out⟩
set_option maxHeartbeats 4000000 in
theorem BS_impl (n c : Nat) (a : Option Addr) (l : List Int) (w : World) (h : Lst w.heap.size w a n l) : Calls Try.prog 21 #[.slice a n c] w (Tell w (F.bs l)) := by
  go_enter Try.func21, Try.ntmps21
  go_wp2_with fail
  go_loopw [3, 4, 5] (fun b m i wr => ∃ j : Nat, 1 ≤ j ∧ j ≤ 17 ∧ b = .int .i64 (F.bl l (j - 1)).1 ∧ m = .int .i64 (F.bl l (j - 1)).2 ∧ i = .int .i64 j ∧ Below w.heap.size w wr ∧ Lst w.heap.size wr a n l) (fun _ _ i _ => 17 - (intOf i).toNat)
  case atStart => exact ⟨1, by omega, by omega, rfl, rfl, rfl, Below.refl _ _, h⟩
  case round =>
    obtain ⟨j, hj1, hj2, rfl, rfl, rfl, hB, hL⟩ := hrel
    clear h
    have hbi := F.bl_in l (j - 1)
    by_cases hlt : j ≤ 16
    · have hj3 : (j : Int) ≤ 16 := by omega
      have hdi := F.dev_in l (j : Int)
      have hsq := F.sq_nat hj1 hj2
      have w1' : IntKind.i64.wrap ((j : Int) * (j : Int)) = (j : Int) * (j : Int) := IntWalk.i64_in _ (by omega)
      have k1 := DV_impl n c (j : Int) a l wr (hL.more hB.size)
      have t1 := @F.bl_take l j hj1
      have t2 := @F.bl_keep l j hj1
      have t3 := @F.bs_stop l j hj1 hlt
      generalize hP : F.bl l (j - 1) = P at *
      obtain ⟨pb, pm⟩ := P
      simp only at hbi t1 t2 t3 ⊢
      generalize F.dev l (j : Int) = D at *
      have K1 := Lib.hid k1
      have T1 := Lib.hid t1
      have T2 := Lib.hid t2
      have T3 := Lib.hid t3
      have HP := Lib.hid hP
      have HB := Lib.hid (And.intro hB hL)
      clear k1 t1 t2 t3 hP hB hL hlt
      go_wp2_with fail
      refine K1.out.mono ?_
      rintro e w2 ⟨rfl, b2⟩
      have HB2 := Lib.hid (And.intro (HB.out.1.trans (b2.mono HB.out.1.size)) (HB.out.2.below (b2.mono HB.out.1.size)))
      clear b2 K1
      rcases Int.lt_or_le D 0 with hD | hD
      · have hD' : decide (D < 0) = true := decide_eq_true hD
        have T := Lib.hid (T3.out hD)
        go_wp2
        go_ret
        exact ⟨by rw [T.out]; rfl, HB2.out.1⟩
      · have hD' : ¬ D < 0 := by omega
        obtain ⟨E, hE⟩ : ∃ E, D / ((j : Int) * (j : Int)) = E := ⟨_, rfl⟩
        have hEi := F.div_in hD hsq.1 hdi.2
        rw [hE] at hEi
        have HE := Lib.hid hE
        by_cases hb : pb = 0
        · have T := Lib.hid (T1.out hD (.inl hb))
          rw [HE.out] at T
          have hb' : (pb == 0) = true := by rw [hb]; rfl
          clear hb
          go_wp2
          go_roundw
          case rel => exact ⟨j + 1, by omega, by omega, by rw [Nat.add_sub_cancel, T.out], by rw [Nat.add_sub_cancel, T.out]; first | done | rfl | exact congrArg _ HE.out, by go_num, HB2.out.1, HB2.out.2⟩
          case measure => simp [intOf]; omega
        · have hb' : (pb == 0) = false := by rw [beq_eq_false_iff_ne]; exact hb
          by_cases hm : E < pm
          · have T := Lib.hid (T1.out hD (.inr (by rw [HE.out]; exact hm)))
            rw [HE.out] at T
            clear hb
            go_wp2
            go_roundw
            case rel => exact ⟨j + 1, by omega, by omega, by rw [Nat.add_sub_cancel, T.out], by rw [Nat.add_sub_cancel, T.out]; first | done | rfl | exact congrArg _ HE.out, by go_num, HB2.out.1, HB2.out.2⟩
            case measure => simp [intOf]; omega
          · have T := Lib.hid (T2.out (fun q => by rcases q.2 with q | q
                                                   · exact hb q
                                                   · rw [HE.out] at q; exact hm q))
            clear hb
            go_wp2
            go_roundw
            case rel => exact ⟨j + 1, by omega, by omega, by rw [Nat.add_sub_cancel, T.out], by rw [Nat.add_sub_cancel, T.out]; first | done | rfl | exact congrArg _ HE.out, by go_num, HB2.out.1, HB2.out.2⟩
            case measure => simp [intOf]; omega
    · obtain rfl : j = 17 := by omega
      have hj3 : ¬ ((17 : Nat) : Int) ≤ 16 := by decide
      have HB := Lib.hid hB
      clear hB hL
      go_wp2
      go_ret
      exact ⟨rfl, HB.out⟩
set_option maxHeartbeats 4000000 in
theorem BS_spec (n c : Nat) (a : Option Addr) (l : List Int) (w : World) (h : Lst w.heap.size w a n l) : Calls Try.prog 22 #[.slice a n c] w (Tell w (F.bs l)) := by
  go_enter Try.func22, Try.ntmps22
  go_wp2_with fail
  go_loopw [3, 4, 5] (fun b m i wr => ∃ j : Nat, 1 ≤ j ∧ j ≤ 17 ∧ b = .int .i64 (F.bl l (j - 1)).1 ∧ m = .int .i64 (F.bl l (j - 1)).2 ∧ i = .int .i64 j ∧ Below w.heap.size w wr ∧ Lst w.heap.size wr a n l) (fun _ _ i _ => 17 - (intOf i).toNat)
  case atStart => exact ⟨1, by omega, by omega, rfl, rfl, rfl, Below.refl _ _, h⟩
  case round =>
    obtain ⟨j, hj1, hj2, rfl, rfl, rfl, hB, hL⟩ := hrel
    clear h
    have hbi := F.bl_in l (j - 1)
    by_cases hlt : j ≤ 16
    · have hj3 : (j : Int) ≤ 16 := by omega
      have hdi := F.dev_in l (j : Int)
      have hsq := F.sq_nat hj1 hj2
      have w1' : IntKind.i64.wrap ((j : Int) * (j : Int)) = (j : Int) * (j : Int) := IntWalk.i64_in _ (by omega)
      have k1 := DV_spec n c (j : Int) a l wr (hL.more hB.size)
      have t1 := @F.bl_take l j hj1
      have t2 := @F.bl_keep l j hj1
      have t3 := @F.bs_stop l j hj1 hlt
      generalize hP : F.bl l (j - 1) = P at *
      obtain ⟨pb, pm⟩ := P
      simp only at hbi t1 t2 t3 ⊢
      generalize F.dev l (j : Int) = D at *
      have K1 := Lib.hid k1
      have T1 := Lib.hid t1
      have T2 := Lib.hid t2
      have T3 := Lib.hid t3
      have HP := Lib.hid hP
      have HB := Lib.hid (And.intro hB hL)
      clear k1 t1 t2 t3 hP hB hL hlt
      go_wp2_with fail
      refine K1.out.mono ?_
      rintro e w2 ⟨rfl, b2⟩
      have HB2 := Lib.hid (And.intro (HB.out.1.trans (b2.mono HB.out.1.size)) (HB.out.2.below (b2.mono HB.out.1.size)))
      clear b2 K1
      rcases Int.lt_or_le D 0 with hD | hD
      · have hD' : ¬ 0 ≤ D := by omega
        have hD'' : D ≤ -1 := by omega
        have T := Lib.hid (T2.out (fun q => hD' q.1))
        go_wp2
        go_roundw
        case rel => exact ⟨j + 1, by omega, by omega, by rw [Nat.add_sub_cancel, T.out], by rw [Nat.add_sub_cancel, T.out], by go_num, HB2.out.1, HB2.out.2⟩
        case measure => simp [intOf]; omega
      · have hD' : ¬ D < 0 := by omega
        obtain ⟨E, hE⟩ : ∃ E, D / ((j : Int) * (j : Int)) = E := ⟨_, rfl⟩
        have hEi := F.div_in hD hsq.1 hdi.2
        rw [hE] at hEi
        have HE := Lib.hid hE
        by_cases hb : pb = 0
        · have T := Lib.hid (T1.out hD (.inl hb))
          rw [HE.out] at T
          have hb' : (pb == 0) = true := by rw [hb]; rfl
          clear hb
          go_wp2
          go_roundw
          case rel => exact ⟨j + 1, by omega, by omega, by rw [Nat.add_sub_cancel, T.out], by rw [Nat.add_sub_cancel, T.out]; first | done | rfl | exact congrArg _ HE.out, by go_num, HB2.out.1, HB2.out.2⟩
          case measure => simp [intOf]; omega
        · have hb' : (pb == 0) = false := by rw [beq_eq_false_iff_ne]; exact hb
          by_cases hm : E < pm
          · have T := Lib.hid (T1.out hD (.inr (by rw [HE.out]; exact hm)))
            rw [HE.out] at T
            clear hb
            go_wp2
            go_roundw
            case rel => exact ⟨j + 1, by omega, by omega, by rw [Nat.add_sub_cancel, T.out], by rw [Nat.add_sub_cancel, T.out]; first | done | rfl | exact congrArg _ HE.out, by go_num, HB2.out.1, HB2.out.2⟩
            case measure => simp [intOf]; omega
          · have T := Lib.hid (T2.out (fun q => by rcases q.2 with q | q
                                                   · exact hb q
                                                   · rw [HE.out] at q; exact hm q))
            clear hb
            go_wp2
            go_roundw
            case rel => exact ⟨j + 1, by omega, by omega, by rw [Nat.add_sub_cancel, T.out], by rw [Nat.add_sub_cancel, T.out]; first | done | rfl | exact congrArg _ HE.out, by go_num, HB2.out.1, HB2.out.2⟩
            case measure => simp [intOf]; omega
    · obtain rfl : j = 17 := by omega
      have hj3 : ¬ ((17 : Nat) : Int) ≤ 16 := by decide
      have HB := Lib.hid hB
      clear hB hL
      go_wp2
      go_ret
      exact ⟨rfl, HB.out⟩
end Go.Proofs.Ytijkglhgmojffaa
