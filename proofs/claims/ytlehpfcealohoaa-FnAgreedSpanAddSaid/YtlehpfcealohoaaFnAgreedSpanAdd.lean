/-
  PROVED: FnAgreedSpanAdd: for every input the law returns true, and the input reads as it did. No condition.
  The frame is as the kit prints it (proof-skeleton.mjs); the walk is mine.
-/
import Derived.Test.YtlehpfcealohoaaRows
import Derived.Test.YtlehpfcealohoaaOwnV
import Derived.Test.YtlehpfcealohoaaIAg
import Derived.WalkKit
import Derived.WalkSpells
import Derived.Deep.Upon
import Derived.Deep.RegionHeld3
import Derived.ProofKit
import Derived.OpenShut
import Derived.ShutString
import Derived.ChangeOld
import Derived.Below
namespace Go.Proofs.Ytlehpfcealohoaa.fnAgreedSpanAdd
open Go.ChangeShapes Go.WideShapes Go.ChangeAt Go.RowKit
open Go.ChangeMaps (open_string shut_string)
set_option linter.unusedVariables false

theorem own : ownKnob Try.prog.godebug = none := by kernel_rfl
theorem laidOut : laidOutB Try.prog = true := by kernel_rfl

/-- WHAT THE WALK IS TOLD OF A SLICE OF INTEGERS THAT CAME IN: it is nil; or it leads to a row of 'cap' cells, the numbers 'zs' (the first 'len' are its elements, the rest its spare room), each fitting its kind. -/
def IsRow (k : IntKind) (w : World) (a : Option Addr) (len cap : Nat) (zs : List Int) : Prop :=
  (a = none ∧ len = 0 ∧ cap = 0 ∧ zs = []) ∨
  ∃ x, a = some x ∧ len ≤ cap ∧ cap ≤ maxLen ∧ zs.length = cap ∧ (∀ i, i < zs.length → w.cell? (x.add i) = some (.int k (zs.getD i 0))) ∧ ∀ n ∈ zs, (Lit.int k n).wf = true

/-! ### STEP 1: THE WALK: the Go text returns true, AND WRITES NOTHING THAT WAS THERE: 'Below w.heap.size w w'' (Derived/Below.lean: '.refl', '.alloc', '.drew', '.setCell' at a new block, '.trans'). Open each 'IsRow' by 'rcases' AHEAD of 'go_enter'; part every test ahead of the walk. -/
set_option maxRecDepth 100000 in
set_option maxHeartbeats 40000000 in
theorem walk (a0 : Option Addr) (len0 cap0 : Nat) (z0 : List Int) (w : World) (w0 : IsRow .u8 w a0 len0 cap0 z0) :
    Calls Try.prog 3 #[.slice a0 len0 cap0] w fun e w' => e = .returned (.bool true) ∧ Below w.heap.size w w' := by
  by_cases hl : 1048576 < len0
  · have hl' : (1048576 : Int) < (len0 : Int) := by omega
    clear w0 hl
    go_enter Try.func3, Try.ntmps3
    go_wp2
    go_ret
    exact ⟨rfl, Below.refl _ _⟩
  have hl' : ¬ (1048576 : Int) < (len0 : Int) := by omega
  obtain ⟨hc, hcap⟩ := code_of w0 (by omega)
  clear w0 hl
  go_enter Try.func3, Try.ntmps3
  go_wp2_with fail
  refine (DrawAgreedSpan_any w a0 len0 cap0 hc hcap).mono ?_
  rintro e w1 ⟨a, c, l, rfl, hl8, hlc, hcm, hS, hsm, bl, hfr⟩
  clear hc hcap
  have st := St.mk hS bl
  clear hS bl hfr hsm hcm
  have hbd := V.r_bd l
  obtain ⟨i0, hi0, hz0, hz1, hz2⟩ := info_parts span_info
  have hI := Lib.hid hi0
  have hZ0 := Lib.hid hz0
  have hZ1 := Lib.hid hz1
  have hZ2 := Lib.hid hz2
  clear hi0 hz0 hz1 hz2
  go_wp2_with fail
  refine (ag_impl _ _ _ _ _ _ st.here (Nat.le_refl _)).mono ?_
  rintro e w2 ⟨rfl, b2⟩
  have st2 := (st.b b2).al (Obj.cells #[.int .i64 (V.rlo l), .int .i64 (V.rhi l)] 26)
  have x2 := Bx.new w2 (V.rlo l) (V.rhi l) 26
  clear st b2
  go_wp2_with fail
  refine (ag_spec _ _ _ _ _ _ st2.here (Nat.le_refl _)).mono ?_
  rintro e w3 ⟨rfl, b3⟩
  have st3 := (st2.b b3).al (Obj.cells #[.int .i64 (V.rlo l), .int .i64 (V.rhi l)] 26)
  have x3 := (x2.b b3).al (Obj.cells #[.int .i64 (V.rlo l), .int .i64 (V.rhi l)] 26)
  have c0 := (x2.b b3).c0
  have c1 := (x2.b b3).c1
  have clt := (x2.b b3).lt
  clear st2 b3 x2
  rcases hv : V.agB l with _ | _
  · go_wp2
    go_ret
    exact ⟨ret_bool (by first | rfl | simp), st3.bel⟩
  · have hvs := (V.agB_of hv).1
    have hl1 := (V.vs_of hvs).1
    by_cases h7 : l.length = 7
    · have h7' : ((l.length : Int) == 7) = true := by rw [h7]; rfl
      clear h7
      go_wp2
      go_ret
      exact ⟨ret_bool (by first | rfl | simp), st3.bel⟩
    · have h7' : ((l.length : Int) == 7) = false := by rw [beq_eq_false_iff_ne]; omega
      have e2 := V.r_yes hv
      have hsn := V.agr_snoc hvs (by omega)
      have hmm := (V.agB_of hv).2
      have hbd2 := V.agr_bd hvs
      have hv2 : V.vs (l ++ [(V.rlo l, V.rhi l)]) = true := by rw [e2.1, e2.2]; exact V.vs_snoc hvs (by omega) ⟨by simp only; omega, by simp only; omega, by simp only; omega⟩
      have hag2 : V.agB (l ++ [(V.rlo l, V.rhi l)]) = true := V.agB_yes hv2 (by rw [e2.1, e2.2, hsn.2.2]; simp; omega)
      have r2 := V.r_yes hag2
      have r3 : V.rlo (l ++ [(V.rlo l, V.rhi l)]) = V.rlo l ∧ V.rhi (l ++ [(V.rlo l, V.rhi l)]) = V.rhi l := by
        rw [r2.1, r2.2, e2.1, e2.2]; exact ⟨hsn.1, hsn.2.1⟩
      have HA := Lib.hid (And.intro hag2 r3)
      have hlen1 : 1 ≤ l.length ∧ l.length ≤ 7 := by omega
      clear h7 e2 hsn hmm hbd2 hv2 hag2 r2 r3 hl1 hbd hvs
      generalize V.rlo l = x at *
      generalize V.rhi l = y at *
      obtain ⟨X, hX⟩ : ∃ X, l ++ [(x, y)] = X := ⟨_, rfl⟩
      rw [hX] at HA
      have HXl := Lib.hid (show X.length = l.length + 1 by rw [← hX]; simp)
      go_wp2_with fail
      have j : J w (w3.alloc (Obj.cells #[.int .i64 x, .int .i64 y] 26)).drew (w3.alloc (Obj.cells #[.int .i64 x, .int .i64 y] 26)).drew.heap.size w2.heap.size l.length a l x y none 0 [] none none := ⟨⟨x3.c0, x3.c1, x3.lt⟩, x3.lt, Nat.le_refl _, st3.bel.size, st3.here, st3.bel.drew, Prs.none_ _ _ _, Nat.zero_le _, fun b e => (by cases e), fun b e => (by cases e)⟩
      refine wp_region_held_drew (S := (fun w' => w'.cell? ⟨w2.heap.size, 0, none⟩ = some (.int .i64 x) ∧ w'.cell? ⟨w2.heap.size, 1, none⟩ = some (.int .i64 y))) (by kernel_rfl) (j.cells) (fun hHeld => ?_)
      clear st3 x3 c0 c1 clt
      generalize (w3.alloc (Obj.cells #[.int .i64 x, .int .i64 y] 26)).drew = V at *
      generalize w2.heap.size = D at *
      generalize hG : V.heap.size = G at j
      clear hG
      refine wpAnyH_take (i := 1) (v := ?_) rfl (by kernel_rfl) (by kernel_rfl) (by kernel_rfl) (fun _ _ _ h => h) (Or.inl ⟨by rfl, ?_⟩) (by assumption) ?_
      rotate_left
      · intro w hSw
        (try dsimp only at hSw)
        go_simp
        all_goals with_reducible rfl
      try simp only [Act.put, List.setIfInBounds_toArray, List.set_cons_zero, List.set_cons_succ, List.getElem_toArray, List.getElem_cons_zero, List.getElem_cons_succ]
      refine wpAnyH_take (i := 3) (v := ?_) rfl (by kernel_rfl) (by kernel_rfl) (by kernel_rfl) (fun _ _ _ h => h) (Or.inl ⟨by rfl, ?_⟩) (by assumption) ?_
      rotate_left
      · intro w hSw
        (try dsimp only at hSw)
        go_simp
        all_goals with_reducible rfl
      try simp only [Act.put, List.setIfInBounds_toArray, List.set_cons_zero, List.set_cons_succ, List.getElem_toArray, List.getElem_cons_zero, List.getElem_cons_succ]
      refine wpAnyH_ready (rs := [0, 4, 10]) (by kernel_rfl) (by simp) ?_
      refine AllReadyH.cons rfl (fun K hK => ?_) (AllReadyH.cons rfl (fun K hK => ?_) (AllReadyH.cons rfl (fun K hK => ?_) AllReadyH.nil))
      · go_simp
        have j1 := j.op0
        refine hK.out _ _ j1.cells (fun hHeld => ?_)
        clear hK K j
        try simp only [Act.put, List.setIfInBounds_toArray, List.set_cons_zero, List.set_cons_succ, List.getElem_toArray, List.getElem_cons_zero, List.getElem_cons_succ]
        generalize V.alloc (.cells #[] 26) = W1 at *
        generalize V.heap.size = E1 at *
        have j := j1
        clear j1
        refine wpAnyH_ready (rs := [2, 4, 10]) (by kernel_rfl) (by simp) ?_
        refine AllReadyH.cons rfl (fun K hK => ?_) (AllReadyH.cons rfl (fun K hK => ?_) (AllReadyH.cons rfl (fun K hK => ?_) AllReadyH.nil))
        · refine step_j rfl _ _ (by rfl) (by rfl) (by rfl) j j.hS (by simp only [List.length_nil]; omega) l (by rfl) ?_
          intro a2 c2 W2 j1
          refine hK.out _ _ j1.cells (fun hHeld => ?_)
          clear hK K j
          try simp only [Act.put, List.setIfInBounds_toArray, List.set_cons_zero, List.set_cons_succ, List.getElem_toArray, List.getElem_cons_zero, List.getElem_cons_succ]
          have j := j1
          clear j1
          refine wpAnyH_ready (rs := [4, 10]) (by kernel_rfl) (by simp) ?_
          refine AllReadyH.cons rfl (fun K hK => ?_) (AllReadyH.cons rfl (fun K hK => ?_) AllReadyH.nil)
          · go_simp
            have j1 := j.op4
            refine hK.out _ _ j1.cells (fun hHeld => ?_)
            clear hK K j
            try simp only [Act.put, List.setIfInBounds_toArray, List.set_cons_zero, List.set_cons_succ, List.getElem_toArray, List.getElem_cons_zero, List.getElem_cons_succ]
            generalize W2.alloc (.cells #[.int .i64 x, .int .i64 y] 26) = W3 at *
            generalize W2.heap.size = E3 at *
            have j := j1
            clear j1
            refine wpAnyH_ready (rs := [5, 10]) (by kernel_rfl) (by simp) ?_
            refine AllReadyH.cons rfl (fun K hK => ?_) (AllReadyH.cons rfl (fun K hK => ?_) AllReadyH.nil)
            · refine step_j rfl _ _ (by rfl) (by rfl) (by rfl) j (Sps.one (j.s4 _ rfl).1) (by omega) X hX ?_
              intro a4 c4 W4 j1
              refine hK.out _ _ j1.cells (fun hHeld => ?_)
              clear hK K j
              try simp only [Act.put, List.setIfInBounds_toArray, List.set_cons_zero, List.set_cons_succ, List.getElem_toArray, List.getElem_cons_zero, List.getElem_cons_succ]
              have j := j1
              clear j1
              refine wpAnyH_ready (rs := [6, 10]) (by kernel_rfl) (by simp) ?_
              refine AllReadyH.cons rfl (fun K hK => ?_) (AllReadyH.cons rfl (fun K hK => ?_) AllReadyH.nil)
              · go_simp
                go_at_call 7
                refine (ag_impl _ _ _ _ _ _ (prs_sps' j.own (by have := HXl.out; omega)) (Nat.le_refl _)).mono ?_
                rw [HA.out.1, HA.out.2.1, HA.out.2.2]
                rintro e W5 ⟨rfl, b1⟩
                have j1 := j.keep b1
                refine hK.out _ _ j1.cells (fun hHeld => ?_)
                clear hK K j b1
                try simp only [Act.put, List.setIfInBounds_toArray, List.set_cons_zero, List.set_cons_succ, List.getElem_toArray, List.getElem_cons_zero, List.getElem_cons_succ]
                have j := j1
                clear j1
                refine wpAnyH_take (i := 7) (v := ?_) rfl (by kernel_rfl) (by kernel_rfl) (by kernel_rfl) (fun _ _ _ h => h) (Or.inl ⟨by rfl, ?_⟩) (by assumption) ?_
                rotate_left
                · intro w hSw
                  (try dsimp only at hSw)
                  go_simp
                  all_goals with_reducible rfl
                try simp only [Act.put, List.setIfInBounds_toArray, List.set_cons_zero, List.set_cons_succ, List.getElem_toArray, List.getElem_cons_zero, List.getElem_cons_succ]
                refine wpAnyH_take (i := 8) (v := ?_) rfl (by kernel_rfl) (by kernel_rfl) (by kernel_rfl) (fun _ _ _ h => h) (Or.inl ⟨by rfl, ?_⟩) (by assumption) ?_
                rotate_left
                · intro w hSw
                  (try dsimp only at hSw)
                  go_simp
                  all_goals with_reducible rfl
                try simp only [Act.put, List.setIfInBounds_toArray, List.set_cons_zero, List.set_cons_succ, List.getElem_toArray, List.getElem_cons_zero, List.getElem_cons_succ]
                refine wpAnyH_take (i := 9) (v := ?_) rfl (by kernel_rfl) (by kernel_rfl) (by kernel_rfl) (fun _ _ _ h => h) (Or.inl ⟨by rfl, ?_⟩) (by assumption) ?_
                rotate_left
                · intro w hSw
                  (try dsimp only at hSw)
                  go_simp
                  all_goals with_reducible rfl
                try simp only [Act.put, List.setIfInBounds_toArray, List.set_cons_zero, List.set_cons_succ, List.getElem_toArray, List.getElem_cons_zero, List.getElem_cons_succ]
                refine wpAnyH_ready (rs := [10]) (by kernel_rfl) (by simp) ?_
                refine AllReadyH.cons rfl (fun K hK => ?_) AllReadyH.nil
                · go_simp
                  have j1 := j.op8
                  refine hK.out _ _ j1.cells (fun hHeld => ?_)
                  clear hK K j
                  try simp only [Act.put, List.setIfInBounds_toArray, List.set_cons_zero, List.set_cons_succ, List.getElem_toArray, List.getElem_cons_zero, List.getElem_cons_succ]
                  generalize W5.alloc (.cells #[.int .i64 0, .int .i64 0] 26) = W6 at *
                  generalize W5.heap.size = E6 at *
                  have j := j1
                  clear j1
                  have hz := (j.s8 _ rfl).1
                  have u0 := hz.c0
                  have u1 := hz.c1
                  have v0 := hz.f0
                  have v1 := hz.f1
                  have hF := j.fin (.int .i64 x) (.int .i64 y)
                  refine wpAnyH_ready (rs := [11]) (by kernel_rfl) (by simp) ?_
                  refine AllReadyH.cons rfl (fun K hK => ?_) AllReadyH.nil
                  go_simp
                  skip
                  refine hK.out _ _ (hF.1) (fun hHeld => ?_)
                  clear hK K
                  try simp only [Act.put, List.setIfInBounds_toArray, List.set_cons_zero, List.set_cons_succ, List.getElem_toArray, List.getElem_cons_zero, List.getElem_cons_succ]
                  refine wpAnyH_take (i := 12) (v := ?_) rfl (by kernel_rfl) (by kernel_rfl) (by kernel_rfl) (fun _ _ _ h => h) (Or.inl ⟨by rfl, ?_⟩) (by assumption) ?_
                  rotate_left
                  · intro w hSw
                    (try dsimp only at hSw)
                    go_simp
                    all_goals with_reducible rfl
                  try simp only [Act.put, List.setIfInBounds_toArray, List.set_cons_zero, List.set_cons_succ, List.getElem_toArray, List.getElem_cons_zero, List.getElem_cons_succ]
                  refine wpAnyH_done (by kernel_rfl) ?_ _
                  clear hHeld u0 u1 v0 v1 hz j
                  obtain ⟨⟨q0, q1⟩, ⟨p0, p1⟩, bS⟩ := hF
                  generalize (World.setCell (World.setCell W6 _ _) _ _) = WS at *
                  go_wp2
                  go_ret
                  exact ⟨ret_bool (by first | rfl | (simp; done)), bS⟩
              · go_simp
                have j1 := j.op8
                refine hK.out _ _ j1.cells (fun hHeld => ?_)
                clear hK K j
                try simp only [Act.put, List.setIfInBounds_toArray, List.set_cons_zero, List.set_cons_succ, List.getElem_toArray, List.getElem_cons_zero, List.getElem_cons_succ]
                generalize W4.alloc (.cells #[.int .i64 0, .int .i64 0] 26) = W7 at *
                generalize W4.heap.size = E7 at *
                have j := j1
                clear j1
                refine wpAnyH_ready (rs := [6]) (by kernel_rfl) (by simp) ?_
                refine AllReadyH.cons rfl (fun K hK => ?_) AllReadyH.nil
                · go_simp
                  go_at_call 7
                  refine (ag_impl _ _ _ _ _ _ (prs_sps' j.own (by have := HXl.out; omega)) (Nat.le_refl _)).mono ?_
                  rw [HA.out.1, HA.out.2.1, HA.out.2.2]
                  rintro e W8 ⟨rfl, b1⟩
                  have j1 := j.keep b1
                  refine hK.out _ _ j1.cells (fun hHeld => ?_)
                  clear hK K j b1
                  try simp only [Act.put, List.setIfInBounds_toArray, List.set_cons_zero, List.set_cons_succ, List.getElem_toArray, List.getElem_cons_zero, List.getElem_cons_succ]
                  have j := j1
                  clear j1
                  refine wpAnyH_take (i := 7) (v := ?_) rfl (by kernel_rfl) (by kernel_rfl) (by kernel_rfl) (fun _ _ _ h => h) (Or.inl ⟨by rfl, ?_⟩) (by assumption) ?_
                  rotate_left
                  · intro w hSw
                    (try dsimp only at hSw)
                    go_simp
                    all_goals with_reducible rfl
                  try simp only [Act.put, List.setIfInBounds_toArray, List.set_cons_zero, List.set_cons_succ, List.getElem_toArray, List.getElem_cons_zero, List.getElem_cons_succ]
                  refine wpAnyH_take (i := 8) (v := ?_) rfl (by kernel_rfl) (by kernel_rfl) (by kernel_rfl) (fun _ _ _ h => h) (Or.inl ⟨by rfl, ?_⟩) (by assumption) ?_
                  rotate_left
                  · intro w hSw
                    (try dsimp only at hSw)
                    go_simp
                    all_goals with_reducible rfl
                  try simp only [Act.put, List.setIfInBounds_toArray, List.set_cons_zero, List.set_cons_succ, List.getElem_toArray, List.getElem_cons_zero, List.getElem_cons_succ]
                  refine wpAnyH_take (i := 9) (v := ?_) rfl (by kernel_rfl) (by kernel_rfl) (by kernel_rfl) (fun _ _ _ h => h) (Or.inl ⟨by rfl, ?_⟩) (by assumption) ?_
                  rotate_left
                  · intro w hSw
                    (try dsimp only at hSw)
                    go_simp
                    all_goals with_reducible rfl
                  try simp only [Act.put, List.setIfInBounds_toArray, List.set_cons_zero, List.set_cons_succ, List.getElem_toArray, List.getElem_cons_zero, List.getElem_cons_succ]
                  have hz := (j.s8 _ rfl).1
                  have u0 := hz.c0
                  have u1 := hz.c1
                  have v0 := hz.f0
                  have v1 := hz.f1
                  have hF := j.fin (.int .i64 x) (.int .i64 y)
                  refine wpAnyH_ready (rs := [11]) (by kernel_rfl) (by simp) ?_
                  refine AllReadyH.cons rfl (fun K hK => ?_) AllReadyH.nil
                  go_simp
                  skip
                  refine hK.out _ _ (hF.1) (fun hHeld => ?_)
                  clear hK K
                  try simp only [Act.put, List.setIfInBounds_toArray, List.set_cons_zero, List.set_cons_succ, List.getElem_toArray, List.getElem_cons_zero, List.getElem_cons_succ]
                  refine wpAnyH_take (i := 12) (v := ?_) rfl (by kernel_rfl) (by kernel_rfl) (by kernel_rfl) (fun _ _ _ h => h) (Or.inl ⟨by rfl, ?_⟩) (by assumption) ?_
                  rotate_left
                  · intro w hSw
                    (try dsimp only at hSw)
                    go_simp
                    all_goals with_reducible rfl
                  try simp only [Act.put, List.setIfInBounds_toArray, List.set_cons_zero, List.set_cons_succ, List.getElem_toArray, List.getElem_cons_zero, List.getElem_cons_succ]
                  refine wpAnyH_done (by kernel_rfl) ?_ _
                  clear hHeld u0 u1 v0 v1 hz j
                  obtain ⟨⟨q0, q1⟩, ⟨p0, p1⟩, bS⟩ := hF
                  generalize (World.setCell (World.setCell W8 _ _) _ _) = WS at *
                  go_wp2
                  go_ret
                  exact ⟨ret_bool (by first | rfl | (simp; done)), bS⟩
            · go_simp
              have j1 := j.op8
              refine hK.out _ _ j1.cells (fun hHeld => ?_)
              clear hK K j
              try simp only [Act.put, List.setIfInBounds_toArray, List.set_cons_zero, List.set_cons_succ, List.getElem_toArray, List.getElem_cons_zero, List.getElem_cons_succ]
              generalize W3.alloc (.cells #[.int .i64 0, .int .i64 0] 26) = W9 at *
              generalize W3.heap.size = E9 at *
              have j := j1
              clear j1
              refine wpAnyH_ready (rs := [5]) (by kernel_rfl) (by simp) ?_
              refine AllReadyH.cons rfl (fun K hK => ?_) AllReadyH.nil
              · refine step_j rfl _ _ (by rfl) (by rfl) (by rfl) j (Sps.one (j.s4 _ rfl).1) (by omega) X hX ?_
                intro a10 c10 W10 j1
                refine hK.out _ _ j1.cells (fun hHeld => ?_)
                clear hK K j
                try simp only [Act.put, List.setIfInBounds_toArray, List.set_cons_zero, List.set_cons_succ, List.getElem_toArray, List.getElem_cons_zero, List.getElem_cons_succ]
                have j := j1
                clear j1
                refine wpAnyH_ready (rs := [6]) (by kernel_rfl) (by simp) ?_
                refine AllReadyH.cons rfl (fun K hK => ?_) AllReadyH.nil
                · go_simp
                  go_at_call 7
                  refine (ag_impl _ _ _ _ _ _ (prs_sps' j.own (by have := HXl.out; omega)) (Nat.le_refl _)).mono ?_
                  rw [HA.out.1, HA.out.2.1, HA.out.2.2]
                  rintro e W11 ⟨rfl, b1⟩
                  have j1 := j.keep b1
                  refine hK.out _ _ j1.cells (fun hHeld => ?_)
                  clear hK K j b1
                  try simp only [Act.put, List.setIfInBounds_toArray, List.set_cons_zero, List.set_cons_succ, List.getElem_toArray, List.getElem_cons_zero, List.getElem_cons_succ]
                  have j := j1
                  clear j1
                  refine wpAnyH_take (i := 7) (v := ?_) rfl (by kernel_rfl) (by kernel_rfl) (by kernel_rfl) (fun _ _ _ h => h) (Or.inl ⟨by rfl, ?_⟩) (by assumption) ?_
                  rotate_left
                  · intro w hSw
                    (try dsimp only at hSw)
                    go_simp
                    all_goals with_reducible rfl
                  try simp only [Act.put, List.setIfInBounds_toArray, List.set_cons_zero, List.set_cons_succ, List.getElem_toArray, List.getElem_cons_zero, List.getElem_cons_succ]
                  refine wpAnyH_take (i := 8) (v := ?_) rfl (by kernel_rfl) (by kernel_rfl) (by kernel_rfl) (fun _ _ _ h => h) (Or.inl ⟨by rfl, ?_⟩) (by assumption) ?_
                  rotate_left
                  · intro w hSw
                    (try dsimp only at hSw)
                    go_simp
                    all_goals with_reducible rfl
                  try simp only [Act.put, List.setIfInBounds_toArray, List.set_cons_zero, List.set_cons_succ, List.getElem_toArray, List.getElem_cons_zero, List.getElem_cons_succ]
                  refine wpAnyH_take (i := 9) (v := ?_) rfl (by kernel_rfl) (by kernel_rfl) (by kernel_rfl) (fun _ _ _ h => h) (Or.inl ⟨by rfl, ?_⟩) (by assumption) ?_
                  rotate_left
                  · intro w hSw
                    (try dsimp only at hSw)
                    go_simp
                    all_goals with_reducible rfl
                  try simp only [Act.put, List.setIfInBounds_toArray, List.set_cons_zero, List.set_cons_succ, List.getElem_toArray, List.getElem_cons_zero, List.getElem_cons_succ]
                  have hz := (j.s8 _ rfl).1
                  have u0 := hz.c0
                  have u1 := hz.c1
                  have v0 := hz.f0
                  have v1 := hz.f1
                  have hF := j.fin (.int .i64 x) (.int .i64 y)
                  refine wpAnyH_ready (rs := [11]) (by kernel_rfl) (by simp) ?_
                  refine AllReadyH.cons rfl (fun K hK => ?_) AllReadyH.nil
                  go_simp
                  skip
                  refine hK.out _ _ (hF.1) (fun hHeld => ?_)
                  clear hK K
                  try simp only [Act.put, List.setIfInBounds_toArray, List.set_cons_zero, List.set_cons_succ, List.getElem_toArray, List.getElem_cons_zero, List.getElem_cons_succ]
                  refine wpAnyH_take (i := 12) (v := ?_) rfl (by kernel_rfl) (by kernel_rfl) (by kernel_rfl) (fun _ _ _ h => h) (Or.inl ⟨by rfl, ?_⟩) (by assumption) ?_
                  rotate_left
                  · intro w hSw
                    (try dsimp only at hSw)
                    go_simp
                    all_goals with_reducible rfl
                  try simp only [Act.put, List.setIfInBounds_toArray, List.set_cons_zero, List.set_cons_succ, List.getElem_toArray, List.getElem_cons_zero, List.getElem_cons_succ]
                  refine wpAnyH_done (by kernel_rfl) ?_ _
                  clear hHeld u0 u1 v0 v1 hz j
                  obtain ⟨⟨q0, q1⟩, ⟨p0, p1⟩, bS⟩ := hF
                  generalize (World.setCell (World.setCell W11 _ _) _ _) = WS at *
                  go_wp2
                  go_ret
                  exact ⟨ret_bool (by first | rfl | (simp; done)), bS⟩
          · go_simp
            have j1 := j.op8
            refine hK.out _ _ j1.cells (fun hHeld => ?_)
            clear hK K j
            try simp only [Act.put, List.setIfInBounds_toArray, List.set_cons_zero, List.set_cons_succ, List.getElem_toArray, List.getElem_cons_zero, List.getElem_cons_succ]
            generalize W2.alloc (.cells #[.int .i64 0, .int .i64 0] 26) = W12 at *
            generalize W2.heap.size = E12 at *
            have j := j1
            clear j1
            refine wpAnyH_ready (rs := [4]) (by kernel_rfl) (by simp) ?_
            refine AllReadyH.cons rfl (fun K hK => ?_) AllReadyH.nil
            · go_simp
              have j1 := j.op4
              refine hK.out _ _ j1.cells (fun hHeld => ?_)
              clear hK K j
              try simp only [Act.put, List.setIfInBounds_toArray, List.set_cons_zero, List.set_cons_succ, List.getElem_toArray, List.getElem_cons_zero, List.getElem_cons_succ]
              generalize W12.alloc (.cells #[.int .i64 x, .int .i64 y] 26) = W13 at *
              generalize W12.heap.size = E13 at *
              have j := j1
              clear j1
              refine wpAnyH_ready (rs := [5]) (by kernel_rfl) (by simp) ?_
              refine AllReadyH.cons rfl (fun K hK => ?_) AllReadyH.nil
              · refine step_j rfl _ _ (by rfl) (by rfl) (by rfl) j (Sps.one (j.s4 _ rfl).1) (by omega) X hX ?_
                intro a14 c14 W14 j1
                refine hK.out _ _ j1.cells (fun hHeld => ?_)
                clear hK K j
                try simp only [Act.put, List.setIfInBounds_toArray, List.set_cons_zero, List.set_cons_succ, List.getElem_toArray, List.getElem_cons_zero, List.getElem_cons_succ]
                have j := j1
                clear j1
                refine wpAnyH_ready (rs := [6]) (by kernel_rfl) (by simp) ?_
                refine AllReadyH.cons rfl (fun K hK => ?_) AllReadyH.nil
                · go_simp
                  go_at_call 7
                  refine (ag_impl _ _ _ _ _ _ (prs_sps' j.own (by have := HXl.out; omega)) (Nat.le_refl _)).mono ?_
                  rw [HA.out.1, HA.out.2.1, HA.out.2.2]
                  rintro e W15 ⟨rfl, b1⟩
                  have j1 := j.keep b1
                  refine hK.out _ _ j1.cells (fun hHeld => ?_)
                  clear hK K j b1
                  try simp only [Act.put, List.setIfInBounds_toArray, List.set_cons_zero, List.set_cons_succ, List.getElem_toArray, List.getElem_cons_zero, List.getElem_cons_succ]
                  have j := j1
                  clear j1
                  refine wpAnyH_take (i := 7) (v := ?_) rfl (by kernel_rfl) (by kernel_rfl) (by kernel_rfl) (fun _ _ _ h => h) (Or.inl ⟨by rfl, ?_⟩) (by assumption) ?_
                  rotate_left
                  · intro w hSw
                    (try dsimp only at hSw)
                    go_simp
                    all_goals with_reducible rfl
                  try simp only [Act.put, List.setIfInBounds_toArray, List.set_cons_zero, List.set_cons_succ, List.getElem_toArray, List.getElem_cons_zero, List.getElem_cons_succ]
                  refine wpAnyH_take (i := 8) (v := ?_) rfl (by kernel_rfl) (by kernel_rfl) (by kernel_rfl) (fun _ _ _ h => h) (Or.inl ⟨by rfl, ?_⟩) (by assumption) ?_
                  rotate_left
                  · intro w hSw
                    (try dsimp only at hSw)
                    go_simp
                    all_goals with_reducible rfl
                  try simp only [Act.put, List.setIfInBounds_toArray, List.set_cons_zero, List.set_cons_succ, List.getElem_toArray, List.getElem_cons_zero, List.getElem_cons_succ]
                  refine wpAnyH_take (i := 9) (v := ?_) rfl (by kernel_rfl) (by kernel_rfl) (by kernel_rfl) (fun _ _ _ h => h) (Or.inl ⟨by rfl, ?_⟩) (by assumption) ?_
                  rotate_left
                  · intro w hSw
                    (try dsimp only at hSw)
                    go_simp
                    all_goals with_reducible rfl
                  try simp only [Act.put, List.setIfInBounds_toArray, List.set_cons_zero, List.set_cons_succ, List.getElem_toArray, List.getElem_cons_zero, List.getElem_cons_succ]
                  have hz := (j.s8 _ rfl).1
                  have u0 := hz.c0
                  have u1 := hz.c1
                  have v0 := hz.f0
                  have v1 := hz.f1
                  have hF := j.fin (.int .i64 x) (.int .i64 y)
                  refine wpAnyH_ready (rs := [11]) (by kernel_rfl) (by simp) ?_
                  refine AllReadyH.cons rfl (fun K hK => ?_) AllReadyH.nil
                  go_simp
                  skip
                  refine hK.out _ _ (hF.1) (fun hHeld => ?_)
                  clear hK K
                  try simp only [Act.put, List.setIfInBounds_toArray, List.set_cons_zero, List.set_cons_succ, List.getElem_toArray, List.getElem_cons_zero, List.getElem_cons_succ]
                  refine wpAnyH_take (i := 12) (v := ?_) rfl (by kernel_rfl) (by kernel_rfl) (by kernel_rfl) (fun _ _ _ h => h) (Or.inl ⟨by rfl, ?_⟩) (by assumption) ?_
                  rotate_left
                  · intro w hSw
                    (try dsimp only at hSw)
                    go_simp
                    all_goals with_reducible rfl
                  try simp only [Act.put, List.setIfInBounds_toArray, List.set_cons_zero, List.set_cons_succ, List.getElem_toArray, List.getElem_cons_zero, List.getElem_cons_succ]
                  refine wpAnyH_done (by kernel_rfl) ?_ _
                  clear hHeld u0 u1 v0 v1 hz j
                  obtain ⟨⟨q0, q1⟩, ⟨p0, p1⟩, bS⟩ := hF
                  generalize (World.setCell (World.setCell W15 _ _) _ _) = WS at *
                  go_wp2
                  go_ret
                  exact ⟨ret_bool (by first | rfl | (simp; done)), bS⟩
        · go_simp
          have j1 := j.op4
          refine hK.out _ _ j1.cells (fun hHeld => ?_)
          clear hK K j
          try simp only [Act.put, List.setIfInBounds_toArray, List.set_cons_zero, List.set_cons_succ, List.getElem_toArray, List.getElem_cons_zero, List.getElem_cons_succ]
          generalize W1.alloc (.cells #[.int .i64 x, .int .i64 y] 26) = W16 at *
          generalize W1.heap.size = E16 at *
          have j := j1
          clear j1
          refine wpAnyH_ready (rs := [2, 10]) (by kernel_rfl) (by simp) ?_
          refine AllReadyH.cons rfl (fun K hK => ?_) (AllReadyH.cons rfl (fun K hK => ?_) AllReadyH.nil)
          · refine step_j rfl _ _ (by rfl) (by rfl) (by rfl) j j.hS (by simp only [List.length_nil]; omega) l (by rfl) ?_
            intro a17 c17 W17 j1
            refine hK.out _ _ j1.cells (fun hHeld => ?_)
            clear hK K j
            try simp only [Act.put, List.setIfInBounds_toArray, List.set_cons_zero, List.set_cons_succ, List.getElem_toArray, List.getElem_cons_zero, List.getElem_cons_succ]
            have j := j1
            clear j1
            refine wpAnyH_ready (rs := [5, 10]) (by kernel_rfl) (by simp) ?_
            refine AllReadyH.cons rfl (fun K hK => ?_) (AllReadyH.cons rfl (fun K hK => ?_) AllReadyH.nil)
            · refine step_j rfl _ _ (by rfl) (by rfl) (by rfl) j (Sps.one (j.s4 _ rfl).1) (by omega) X hX ?_
              intro a18 c18 W18 j1
              refine hK.out _ _ j1.cells (fun hHeld => ?_)
              clear hK K j
              try simp only [Act.put, List.setIfInBounds_toArray, List.set_cons_zero, List.set_cons_succ, List.getElem_toArray, List.getElem_cons_zero, List.getElem_cons_succ]
              have j := j1
              clear j1
              refine wpAnyH_ready (rs := [6, 10]) (by kernel_rfl) (by simp) ?_
              refine AllReadyH.cons rfl (fun K hK => ?_) (AllReadyH.cons rfl (fun K hK => ?_) AllReadyH.nil)
              · go_simp
                go_at_call 7
                refine (ag_impl _ _ _ _ _ _ (prs_sps' j.own (by have := HXl.out; omega)) (Nat.le_refl _)).mono ?_
                rw [HA.out.1, HA.out.2.1, HA.out.2.2]
                rintro e W19 ⟨rfl, b1⟩
                have j1 := j.keep b1
                refine hK.out _ _ j1.cells (fun hHeld => ?_)
                clear hK K j b1
                try simp only [Act.put, List.setIfInBounds_toArray, List.set_cons_zero, List.set_cons_succ, List.getElem_toArray, List.getElem_cons_zero, List.getElem_cons_succ]
                have j := j1
                clear j1
                refine wpAnyH_take (i := 7) (v := ?_) rfl (by kernel_rfl) (by kernel_rfl) (by kernel_rfl) (fun _ _ _ h => h) (Or.inl ⟨by rfl, ?_⟩) (by assumption) ?_
                rotate_left
                · intro w hSw
                  (try dsimp only at hSw)
                  go_simp
                  all_goals with_reducible rfl
                try simp only [Act.put, List.setIfInBounds_toArray, List.set_cons_zero, List.set_cons_succ, List.getElem_toArray, List.getElem_cons_zero, List.getElem_cons_succ]
                refine wpAnyH_take (i := 8) (v := ?_) rfl (by kernel_rfl) (by kernel_rfl) (by kernel_rfl) (fun _ _ _ h => h) (Or.inl ⟨by rfl, ?_⟩) (by assumption) ?_
                rotate_left
                · intro w hSw
                  (try dsimp only at hSw)
                  go_simp
                  all_goals with_reducible rfl
                try simp only [Act.put, List.setIfInBounds_toArray, List.set_cons_zero, List.set_cons_succ, List.getElem_toArray, List.getElem_cons_zero, List.getElem_cons_succ]
                refine wpAnyH_take (i := 9) (v := ?_) rfl (by kernel_rfl) (by kernel_rfl) (by kernel_rfl) (fun _ _ _ h => h) (Or.inl ⟨by rfl, ?_⟩) (by assumption) ?_
                rotate_left
                · intro w hSw
                  (try dsimp only at hSw)
                  go_simp
                  all_goals with_reducible rfl
                try simp only [Act.put, List.setIfInBounds_toArray, List.set_cons_zero, List.set_cons_succ, List.getElem_toArray, List.getElem_cons_zero, List.getElem_cons_succ]
                refine wpAnyH_ready (rs := [10]) (by kernel_rfl) (by simp) ?_
                refine AllReadyH.cons rfl (fun K hK => ?_) AllReadyH.nil
                · go_simp
                  have j1 := j.op8
                  refine hK.out _ _ j1.cells (fun hHeld => ?_)
                  clear hK K j
                  try simp only [Act.put, List.setIfInBounds_toArray, List.set_cons_zero, List.set_cons_succ, List.getElem_toArray, List.getElem_cons_zero, List.getElem_cons_succ]
                  generalize W19.alloc (.cells #[.int .i64 0, .int .i64 0] 26) = W20 at *
                  generalize W19.heap.size = E20 at *
                  have j := j1
                  clear j1
                  have hz := (j.s8 _ rfl).1
                  have u0 := hz.c0
                  have u1 := hz.c1
                  have v0 := hz.f0
                  have v1 := hz.f1
                  have hF := j.fin (.int .i64 x) (.int .i64 y)
                  refine wpAnyH_ready (rs := [11]) (by kernel_rfl) (by simp) ?_
                  refine AllReadyH.cons rfl (fun K hK => ?_) AllReadyH.nil
                  go_simp
                  skip
                  refine hK.out _ _ (hF.1) (fun hHeld => ?_)
                  clear hK K
                  try simp only [Act.put, List.setIfInBounds_toArray, List.set_cons_zero, List.set_cons_succ, List.getElem_toArray, List.getElem_cons_zero, List.getElem_cons_succ]
                  refine wpAnyH_take (i := 12) (v := ?_) rfl (by kernel_rfl) (by kernel_rfl) (by kernel_rfl) (fun _ _ _ h => h) (Or.inl ⟨by rfl, ?_⟩) (by assumption) ?_
                  rotate_left
                  · intro w hSw
                    (try dsimp only at hSw)
                    go_simp
                    all_goals with_reducible rfl
                  try simp only [Act.put, List.setIfInBounds_toArray, List.set_cons_zero, List.set_cons_succ, List.getElem_toArray, List.getElem_cons_zero, List.getElem_cons_succ]
                  refine wpAnyH_done (by kernel_rfl) ?_ _
                  clear hHeld u0 u1 v0 v1 hz j
                  obtain ⟨⟨q0, q1⟩, ⟨p0, p1⟩, bS⟩ := hF
                  generalize (World.setCell (World.setCell W20 _ _) _ _) = WS at *
                  go_wp2
                  go_ret
                  exact ⟨ret_bool (by first | rfl | (simp; done)), bS⟩
              · go_simp
                have j1 := j.op8
                refine hK.out _ _ j1.cells (fun hHeld => ?_)
                clear hK K j
                try simp only [Act.put, List.setIfInBounds_toArray, List.set_cons_zero, List.set_cons_succ, List.getElem_toArray, List.getElem_cons_zero, List.getElem_cons_succ]
                generalize W18.alloc (.cells #[.int .i64 0, .int .i64 0] 26) = W21 at *
                generalize W18.heap.size = E21 at *
                have j := j1
                clear j1
                refine wpAnyH_ready (rs := [6]) (by kernel_rfl) (by simp) ?_
                refine AllReadyH.cons rfl (fun K hK => ?_) AllReadyH.nil
                · go_simp
                  go_at_call 7
                  refine (ag_impl _ _ _ _ _ _ (prs_sps' j.own (by have := HXl.out; omega)) (Nat.le_refl _)).mono ?_
                  rw [HA.out.1, HA.out.2.1, HA.out.2.2]
                  rintro e W22 ⟨rfl, b1⟩
                  have j1 := j.keep b1
                  refine hK.out _ _ j1.cells (fun hHeld => ?_)
                  clear hK K j b1
                  try simp only [Act.put, List.setIfInBounds_toArray, List.set_cons_zero, List.set_cons_succ, List.getElem_toArray, List.getElem_cons_zero, List.getElem_cons_succ]
                  have j := j1
                  clear j1
                  refine wpAnyH_take (i := 7) (v := ?_) rfl (by kernel_rfl) (by kernel_rfl) (by kernel_rfl) (fun _ _ _ h => h) (Or.inl ⟨by rfl, ?_⟩) (by assumption) ?_
                  rotate_left
                  · intro w hSw
                    (try dsimp only at hSw)
                    go_simp
                    all_goals with_reducible rfl
                  try simp only [Act.put, List.setIfInBounds_toArray, List.set_cons_zero, List.set_cons_succ, List.getElem_toArray, List.getElem_cons_zero, List.getElem_cons_succ]
                  refine wpAnyH_take (i := 8) (v := ?_) rfl (by kernel_rfl) (by kernel_rfl) (by kernel_rfl) (fun _ _ _ h => h) (Or.inl ⟨by rfl, ?_⟩) (by assumption) ?_
                  rotate_left
                  · intro w hSw
                    (try dsimp only at hSw)
                    go_simp
                    all_goals with_reducible rfl
                  try simp only [Act.put, List.setIfInBounds_toArray, List.set_cons_zero, List.set_cons_succ, List.getElem_toArray, List.getElem_cons_zero, List.getElem_cons_succ]
                  refine wpAnyH_take (i := 9) (v := ?_) rfl (by kernel_rfl) (by kernel_rfl) (by kernel_rfl) (fun _ _ _ h => h) (Or.inl ⟨by rfl, ?_⟩) (by assumption) ?_
                  rotate_left
                  · intro w hSw
                    (try dsimp only at hSw)
                    go_simp
                    all_goals with_reducible rfl
                  try simp only [Act.put, List.setIfInBounds_toArray, List.set_cons_zero, List.set_cons_succ, List.getElem_toArray, List.getElem_cons_zero, List.getElem_cons_succ]
                  have hz := (j.s8 _ rfl).1
                  have u0 := hz.c0
                  have u1 := hz.c1
                  have v0 := hz.f0
                  have v1 := hz.f1
                  have hF := j.fin (.int .i64 x) (.int .i64 y)
                  refine wpAnyH_ready (rs := [11]) (by kernel_rfl) (by simp) ?_
                  refine AllReadyH.cons rfl (fun K hK => ?_) AllReadyH.nil
                  go_simp
                  skip
                  refine hK.out _ _ (hF.1) (fun hHeld => ?_)
                  clear hK K
                  try simp only [Act.put, List.setIfInBounds_toArray, List.set_cons_zero, List.set_cons_succ, List.getElem_toArray, List.getElem_cons_zero, List.getElem_cons_succ]
                  refine wpAnyH_take (i := 12) (v := ?_) rfl (by kernel_rfl) (by kernel_rfl) (by kernel_rfl) (fun _ _ _ h => h) (Or.inl ⟨by rfl, ?_⟩) (by assumption) ?_
                  rotate_left
                  · intro w hSw
                    (try dsimp only at hSw)
                    go_simp
                    all_goals with_reducible rfl
                  try simp only [Act.put, List.setIfInBounds_toArray, List.set_cons_zero, List.set_cons_succ, List.getElem_toArray, List.getElem_cons_zero, List.getElem_cons_succ]
                  refine wpAnyH_done (by kernel_rfl) ?_ _
                  clear hHeld u0 u1 v0 v1 hz j
                  obtain ⟨⟨q0, q1⟩, ⟨p0, p1⟩, bS⟩ := hF
                  generalize (World.setCell (World.setCell W22 _ _) _ _) = WS at *
                  go_wp2
                  go_ret
                  exact ⟨ret_bool (by first | rfl | (simp; done)), bS⟩
            · go_simp
              have j1 := j.op8
              refine hK.out _ _ j1.cells (fun hHeld => ?_)
              clear hK K j
              try simp only [Act.put, List.setIfInBounds_toArray, List.set_cons_zero, List.set_cons_succ, List.getElem_toArray, List.getElem_cons_zero, List.getElem_cons_succ]
              generalize W17.alloc (.cells #[.int .i64 0, .int .i64 0] 26) = W23 at *
              generalize W17.heap.size = E23 at *
              have j := j1
              clear j1
              refine wpAnyH_ready (rs := [5]) (by kernel_rfl) (by simp) ?_
              refine AllReadyH.cons rfl (fun K hK => ?_) AllReadyH.nil
              · refine step_j rfl _ _ (by rfl) (by rfl) (by rfl) j (Sps.one (j.s4 _ rfl).1) (by omega) X hX ?_
                intro a24 c24 W24 j1
                refine hK.out _ _ j1.cells (fun hHeld => ?_)
                clear hK K j
                try simp only [Act.put, List.setIfInBounds_toArray, List.set_cons_zero, List.set_cons_succ, List.getElem_toArray, List.getElem_cons_zero, List.getElem_cons_succ]
                have j := j1
                clear j1
                refine wpAnyH_ready (rs := [6]) (by kernel_rfl) (by simp) ?_
                refine AllReadyH.cons rfl (fun K hK => ?_) AllReadyH.nil
                · go_simp
                  go_at_call 7
                  refine (ag_impl _ _ _ _ _ _ (prs_sps' j.own (by have := HXl.out; omega)) (Nat.le_refl _)).mono ?_
                  rw [HA.out.1, HA.out.2.1, HA.out.2.2]
                  rintro e W25 ⟨rfl, b1⟩
                  have j1 := j.keep b1
                  refine hK.out _ _ j1.cells (fun hHeld => ?_)
                  clear hK K j b1
                  try simp only [Act.put, List.setIfInBounds_toArray, List.set_cons_zero, List.set_cons_succ, List.getElem_toArray, List.getElem_cons_zero, List.getElem_cons_succ]
                  have j := j1
                  clear j1
                  refine wpAnyH_take (i := 7) (v := ?_) rfl (by kernel_rfl) (by kernel_rfl) (by kernel_rfl) (fun _ _ _ h => h) (Or.inl ⟨by rfl, ?_⟩) (by assumption) ?_
                  rotate_left
                  · intro w hSw
                    (try dsimp only at hSw)
                    go_simp
                    all_goals with_reducible rfl
                  try simp only [Act.put, List.setIfInBounds_toArray, List.set_cons_zero, List.set_cons_succ, List.getElem_toArray, List.getElem_cons_zero, List.getElem_cons_succ]
                  refine wpAnyH_take (i := 8) (v := ?_) rfl (by kernel_rfl) (by kernel_rfl) (by kernel_rfl) (fun _ _ _ h => h) (Or.inl ⟨by rfl, ?_⟩) (by assumption) ?_
                  rotate_left
                  · intro w hSw
                    (try dsimp only at hSw)
                    go_simp
                    all_goals with_reducible rfl
                  try simp only [Act.put, List.setIfInBounds_toArray, List.set_cons_zero, List.set_cons_succ, List.getElem_toArray, List.getElem_cons_zero, List.getElem_cons_succ]
                  refine wpAnyH_take (i := 9) (v := ?_) rfl (by kernel_rfl) (by kernel_rfl) (by kernel_rfl) (fun _ _ _ h => h) (Or.inl ⟨by rfl, ?_⟩) (by assumption) ?_
                  rotate_left
                  · intro w hSw
                    (try dsimp only at hSw)
                    go_simp
                    all_goals with_reducible rfl
                  try simp only [Act.put, List.setIfInBounds_toArray, List.set_cons_zero, List.set_cons_succ, List.getElem_toArray, List.getElem_cons_zero, List.getElem_cons_succ]
                  have hz := (j.s8 _ rfl).1
                  have u0 := hz.c0
                  have u1 := hz.c1
                  have v0 := hz.f0
                  have v1 := hz.f1
                  have hF := j.fin (.int .i64 x) (.int .i64 y)
                  refine wpAnyH_ready (rs := [11]) (by kernel_rfl) (by simp) ?_
                  refine AllReadyH.cons rfl (fun K hK => ?_) AllReadyH.nil
                  go_simp
                  skip
                  refine hK.out _ _ (hF.1) (fun hHeld => ?_)
                  clear hK K
                  try simp only [Act.put, List.setIfInBounds_toArray, List.set_cons_zero, List.set_cons_succ, List.getElem_toArray, List.getElem_cons_zero, List.getElem_cons_succ]
                  refine wpAnyH_take (i := 12) (v := ?_) rfl (by kernel_rfl) (by kernel_rfl) (by kernel_rfl) (fun _ _ _ h => h) (Or.inl ⟨by rfl, ?_⟩) (by assumption) ?_
                  rotate_left
                  · intro w hSw
                    (try dsimp only at hSw)
                    go_simp
                    all_goals with_reducible rfl
                  try simp only [Act.put, List.setIfInBounds_toArray, List.set_cons_zero, List.set_cons_succ, List.getElem_toArray, List.getElem_cons_zero, List.getElem_cons_succ]
                  refine wpAnyH_done (by kernel_rfl) ?_ _
                  clear hHeld u0 u1 v0 v1 hz j
                  obtain ⟨⟨q0, q1⟩, ⟨p0, p1⟩, bS⟩ := hF
                  generalize (World.setCell (World.setCell W25 _ _) _ _) = WS at *
                  go_wp2
                  go_ret
                  exact ⟨ret_bool (by first | rfl | (simp; done)), bS⟩
          · go_simp
            have j1 := j.op8
            refine hK.out _ _ j1.cells (fun hHeld => ?_)
            clear hK K j
            try simp only [Act.put, List.setIfInBounds_toArray, List.set_cons_zero, List.set_cons_succ, List.getElem_toArray, List.getElem_cons_zero, List.getElem_cons_succ]
            generalize W16.alloc (.cells #[.int .i64 0, .int .i64 0] 26) = W26 at *
            generalize W16.heap.size = E26 at *
            have j := j1
            clear j1
            refine wpAnyH_ready (rs := [2]) (by kernel_rfl) (by simp) ?_
            refine AllReadyH.cons rfl (fun K hK => ?_) AllReadyH.nil
            · refine step_j rfl _ _ (by rfl) (by rfl) (by rfl) j j.hS (by simp only [List.length_nil]; omega) l (by rfl) ?_
              intro a27 c27 W27 j1
              refine hK.out _ _ j1.cells (fun hHeld => ?_)
              clear hK K j
              try simp only [Act.put, List.setIfInBounds_toArray, List.set_cons_zero, List.set_cons_succ, List.getElem_toArray, List.getElem_cons_zero, List.getElem_cons_succ]
              have j := j1
              clear j1
              refine wpAnyH_ready (rs := [5]) (by kernel_rfl) (by simp) ?_
              refine AllReadyH.cons rfl (fun K hK => ?_) AllReadyH.nil
              · refine step_j rfl _ _ (by rfl) (by rfl) (by rfl) j (Sps.one (j.s4 _ rfl).1) (by omega) X hX ?_
                intro a28 c28 W28 j1
                refine hK.out _ _ j1.cells (fun hHeld => ?_)
                clear hK K j
                try simp only [Act.put, List.setIfInBounds_toArray, List.set_cons_zero, List.set_cons_succ, List.getElem_toArray, List.getElem_cons_zero, List.getElem_cons_succ]
                have j := j1
                clear j1
                refine wpAnyH_ready (rs := [6]) (by kernel_rfl) (by simp) ?_
                refine AllReadyH.cons rfl (fun K hK => ?_) AllReadyH.nil
                · go_simp
                  go_at_call 7
                  refine (ag_impl _ _ _ _ _ _ (prs_sps' j.own (by have := HXl.out; omega)) (Nat.le_refl _)).mono ?_
                  rw [HA.out.1, HA.out.2.1, HA.out.2.2]
                  rintro e W29 ⟨rfl, b1⟩
                  have j1 := j.keep b1
                  refine hK.out _ _ j1.cells (fun hHeld => ?_)
                  clear hK K j b1
                  try simp only [Act.put, List.setIfInBounds_toArray, List.set_cons_zero, List.set_cons_succ, List.getElem_toArray, List.getElem_cons_zero, List.getElem_cons_succ]
                  have j := j1
                  clear j1
                  refine wpAnyH_take (i := 7) (v := ?_) rfl (by kernel_rfl) (by kernel_rfl) (by kernel_rfl) (fun _ _ _ h => h) (Or.inl ⟨by rfl, ?_⟩) (by assumption) ?_
                  rotate_left
                  · intro w hSw
                    (try dsimp only at hSw)
                    go_simp
                    all_goals with_reducible rfl
                  try simp only [Act.put, List.setIfInBounds_toArray, List.set_cons_zero, List.set_cons_succ, List.getElem_toArray, List.getElem_cons_zero, List.getElem_cons_succ]
                  refine wpAnyH_take (i := 8) (v := ?_) rfl (by kernel_rfl) (by kernel_rfl) (by kernel_rfl) (fun _ _ _ h => h) (Or.inl ⟨by rfl, ?_⟩) (by assumption) ?_
                  rotate_left
                  · intro w hSw
                    (try dsimp only at hSw)
                    go_simp
                    all_goals with_reducible rfl
                  try simp only [Act.put, List.setIfInBounds_toArray, List.set_cons_zero, List.set_cons_succ, List.getElem_toArray, List.getElem_cons_zero, List.getElem_cons_succ]
                  refine wpAnyH_take (i := 9) (v := ?_) rfl (by kernel_rfl) (by kernel_rfl) (by kernel_rfl) (fun _ _ _ h => h) (Or.inl ⟨by rfl, ?_⟩) (by assumption) ?_
                  rotate_left
                  · intro w hSw
                    (try dsimp only at hSw)
                    go_simp
                    all_goals with_reducible rfl
                  try simp only [Act.put, List.setIfInBounds_toArray, List.set_cons_zero, List.set_cons_succ, List.getElem_toArray, List.getElem_cons_zero, List.getElem_cons_succ]
                  have hz := (j.s8 _ rfl).1
                  have u0 := hz.c0
                  have u1 := hz.c1
                  have v0 := hz.f0
                  have v1 := hz.f1
                  have hF := j.fin (.int .i64 x) (.int .i64 y)
                  refine wpAnyH_ready (rs := [11]) (by kernel_rfl) (by simp) ?_
                  refine AllReadyH.cons rfl (fun K hK => ?_) AllReadyH.nil
                  go_simp
                  skip
                  refine hK.out _ _ (hF.1) (fun hHeld => ?_)
                  clear hK K
                  try simp only [Act.put, List.setIfInBounds_toArray, List.set_cons_zero, List.set_cons_succ, List.getElem_toArray, List.getElem_cons_zero, List.getElem_cons_succ]
                  refine wpAnyH_take (i := 12) (v := ?_) rfl (by kernel_rfl) (by kernel_rfl) (by kernel_rfl) (fun _ _ _ h => h) (Or.inl ⟨by rfl, ?_⟩) (by assumption) ?_
                  rotate_left
                  · intro w hSw
                    (try dsimp only at hSw)
                    go_simp
                    all_goals with_reducible rfl
                  try simp only [Act.put, List.setIfInBounds_toArray, List.set_cons_zero, List.set_cons_succ, List.getElem_toArray, List.getElem_cons_zero, List.getElem_cons_succ]
                  refine wpAnyH_done (by kernel_rfl) ?_ _
                  clear hHeld u0 u1 v0 v1 hz j
                  obtain ⟨⟨q0, q1⟩, ⟨p0, p1⟩, bS⟩ := hF
                  generalize (World.setCell (World.setCell W29 _ _) _ _) = WS at *
                  go_wp2
                  go_ret
                  exact ⟨ret_bool (by first | rfl | (simp; done)), bS⟩
        · go_simp
          have j1 := j.op8
          refine hK.out _ _ j1.cells (fun hHeld => ?_)
          clear hK K j
          try simp only [Act.put, List.setIfInBounds_toArray, List.set_cons_zero, List.set_cons_succ, List.getElem_toArray, List.getElem_cons_zero, List.getElem_cons_succ]
          generalize W1.alloc (.cells #[.int .i64 0, .int .i64 0] 26) = W30 at *
          generalize W1.heap.size = E30 at *
          have j := j1
          clear j1
          refine wpAnyH_ready (rs := [2, 4]) (by kernel_rfl) (by simp) ?_
          refine AllReadyH.cons rfl (fun K hK => ?_) (AllReadyH.cons rfl (fun K hK => ?_) AllReadyH.nil)
          · refine step_j rfl _ _ (by rfl) (by rfl) (by rfl) j j.hS (by simp only [List.length_nil]; omega) l (by rfl) ?_
            intro a31 c31 W31 j1
            refine hK.out _ _ j1.cells (fun hHeld => ?_)
            clear hK K j
            try simp only [Act.put, List.setIfInBounds_toArray, List.set_cons_zero, List.set_cons_succ, List.getElem_toArray, List.getElem_cons_zero, List.getElem_cons_succ]
            have j := j1
            clear j1
            refine wpAnyH_ready (rs := [4]) (by kernel_rfl) (by simp) ?_
            refine AllReadyH.cons rfl (fun K hK => ?_) AllReadyH.nil
            · go_simp
              have j1 := j.op4
              refine hK.out _ _ j1.cells (fun hHeld => ?_)
              clear hK K j
              try simp only [Act.put, List.setIfInBounds_toArray, List.set_cons_zero, List.set_cons_succ, List.getElem_toArray, List.getElem_cons_zero, List.getElem_cons_succ]
              generalize W31.alloc (.cells #[.int .i64 x, .int .i64 y] 26) = W32 at *
              generalize W31.heap.size = E32 at *
              have j := j1
              clear j1
              refine wpAnyH_ready (rs := [5]) (by kernel_rfl) (by simp) ?_
              refine AllReadyH.cons rfl (fun K hK => ?_) AllReadyH.nil
              · refine step_j rfl _ _ (by rfl) (by rfl) (by rfl) j (Sps.one (j.s4 _ rfl).1) (by omega) X hX ?_
                intro a33 c33 W33 j1
                refine hK.out _ _ j1.cells (fun hHeld => ?_)
                clear hK K j
                try simp only [Act.put, List.setIfInBounds_toArray, List.set_cons_zero, List.set_cons_succ, List.getElem_toArray, List.getElem_cons_zero, List.getElem_cons_succ]
                have j := j1
                clear j1
                refine wpAnyH_ready (rs := [6]) (by kernel_rfl) (by simp) ?_
                refine AllReadyH.cons rfl (fun K hK => ?_) AllReadyH.nil
                · go_simp
                  go_at_call 7
                  refine (ag_impl _ _ _ _ _ _ (prs_sps' j.own (by have := HXl.out; omega)) (Nat.le_refl _)).mono ?_
                  rw [HA.out.1, HA.out.2.1, HA.out.2.2]
                  rintro e W34 ⟨rfl, b1⟩
                  have j1 := j.keep b1
                  refine hK.out _ _ j1.cells (fun hHeld => ?_)
                  clear hK K j b1
                  try simp only [Act.put, List.setIfInBounds_toArray, List.set_cons_zero, List.set_cons_succ, List.getElem_toArray, List.getElem_cons_zero, List.getElem_cons_succ]
                  have j := j1
                  clear j1
                  refine wpAnyH_take (i := 7) (v := ?_) rfl (by kernel_rfl) (by kernel_rfl) (by kernel_rfl) (fun _ _ _ h => h) (Or.inl ⟨by rfl, ?_⟩) (by assumption) ?_
                  rotate_left
                  · intro w hSw
                    (try dsimp only at hSw)
                    go_simp
                    all_goals with_reducible rfl
                  try simp only [Act.put, List.setIfInBounds_toArray, List.set_cons_zero, List.set_cons_succ, List.getElem_toArray, List.getElem_cons_zero, List.getElem_cons_succ]
                  refine wpAnyH_take (i := 8) (v := ?_) rfl (by kernel_rfl) (by kernel_rfl) (by kernel_rfl) (fun _ _ _ h => h) (Or.inl ⟨by rfl, ?_⟩) (by assumption) ?_
                  rotate_left
                  · intro w hSw
                    (try dsimp only at hSw)
                    go_simp
                    all_goals with_reducible rfl
                  try simp only [Act.put, List.setIfInBounds_toArray, List.set_cons_zero, List.set_cons_succ, List.getElem_toArray, List.getElem_cons_zero, List.getElem_cons_succ]
                  refine wpAnyH_take (i := 9) (v := ?_) rfl (by kernel_rfl) (by kernel_rfl) (by kernel_rfl) (fun _ _ _ h => h) (Or.inl ⟨by rfl, ?_⟩) (by assumption) ?_
                  rotate_left
                  · intro w hSw
                    (try dsimp only at hSw)
                    go_simp
                    all_goals with_reducible rfl
                  try simp only [Act.put, List.setIfInBounds_toArray, List.set_cons_zero, List.set_cons_succ, List.getElem_toArray, List.getElem_cons_zero, List.getElem_cons_succ]
                  have hz := (j.s8 _ rfl).1
                  have u0 := hz.c0
                  have u1 := hz.c1
                  have v0 := hz.f0
                  have v1 := hz.f1
                  have hF := j.fin (.int .i64 x) (.int .i64 y)
                  refine wpAnyH_ready (rs := [11]) (by kernel_rfl) (by simp) ?_
                  refine AllReadyH.cons rfl (fun K hK => ?_) AllReadyH.nil
                  go_simp
                  skip
                  refine hK.out _ _ (hF.1) (fun hHeld => ?_)
                  clear hK K
                  try simp only [Act.put, List.setIfInBounds_toArray, List.set_cons_zero, List.set_cons_succ, List.getElem_toArray, List.getElem_cons_zero, List.getElem_cons_succ]
                  refine wpAnyH_take (i := 12) (v := ?_) rfl (by kernel_rfl) (by kernel_rfl) (by kernel_rfl) (fun _ _ _ h => h) (Or.inl ⟨by rfl, ?_⟩) (by assumption) ?_
                  rotate_left
                  · intro w hSw
                    (try dsimp only at hSw)
                    go_simp
                    all_goals with_reducible rfl
                  try simp only [Act.put, List.setIfInBounds_toArray, List.set_cons_zero, List.set_cons_succ, List.getElem_toArray, List.getElem_cons_zero, List.getElem_cons_succ]
                  refine wpAnyH_done (by kernel_rfl) ?_ _
                  clear hHeld u0 u1 v0 v1 hz j
                  obtain ⟨⟨q0, q1⟩, ⟨p0, p1⟩, bS⟩ := hF
                  generalize (World.setCell (World.setCell W34 _ _) _ _) = WS at *
                  go_wp2
                  go_ret
                  exact ⟨ret_bool (by first | rfl | (simp; done)), bS⟩
          · go_simp
            have j1 := j.op4
            refine hK.out _ _ j1.cells (fun hHeld => ?_)
            clear hK K j
            try simp only [Act.put, List.setIfInBounds_toArray, List.set_cons_zero, List.set_cons_succ, List.getElem_toArray, List.getElem_cons_zero, List.getElem_cons_succ]
            generalize W30.alloc (.cells #[.int .i64 x, .int .i64 y] 26) = W35 at *
            generalize W30.heap.size = E35 at *
            have j := j1
            clear j1
            refine wpAnyH_ready (rs := [2]) (by kernel_rfl) (by simp) ?_
            refine AllReadyH.cons rfl (fun K hK => ?_) AllReadyH.nil
            · refine step_j rfl _ _ (by rfl) (by rfl) (by rfl) j j.hS (by simp only [List.length_nil]; omega) l (by rfl) ?_
              intro a36 c36 W36 j1
              refine hK.out _ _ j1.cells (fun hHeld => ?_)
              clear hK K j
              try simp only [Act.put, List.setIfInBounds_toArray, List.set_cons_zero, List.set_cons_succ, List.getElem_toArray, List.getElem_cons_zero, List.getElem_cons_succ]
              have j := j1
              clear j1
              refine wpAnyH_ready (rs := [5]) (by kernel_rfl) (by simp) ?_
              refine AllReadyH.cons rfl (fun K hK => ?_) AllReadyH.nil
              · refine step_j rfl _ _ (by rfl) (by rfl) (by rfl) j (Sps.one (j.s4 _ rfl).1) (by omega) X hX ?_
                intro a37 c37 W37 j1
                refine hK.out _ _ j1.cells (fun hHeld => ?_)
                clear hK K j
                try simp only [Act.put, List.setIfInBounds_toArray, List.set_cons_zero, List.set_cons_succ, List.getElem_toArray, List.getElem_cons_zero, List.getElem_cons_succ]
                have j := j1
                clear j1
                refine wpAnyH_ready (rs := [6]) (by kernel_rfl) (by simp) ?_
                refine AllReadyH.cons rfl (fun K hK => ?_) AllReadyH.nil
                · go_simp
                  go_at_call 7
                  refine (ag_impl _ _ _ _ _ _ (prs_sps' j.own (by have := HXl.out; omega)) (Nat.le_refl _)).mono ?_
                  rw [HA.out.1, HA.out.2.1, HA.out.2.2]
                  rintro e W38 ⟨rfl, b1⟩
                  have j1 := j.keep b1
                  refine hK.out _ _ j1.cells (fun hHeld => ?_)
                  clear hK K j b1
                  try simp only [Act.put, List.setIfInBounds_toArray, List.set_cons_zero, List.set_cons_succ, List.getElem_toArray, List.getElem_cons_zero, List.getElem_cons_succ]
                  have j := j1
                  clear j1
                  refine wpAnyH_take (i := 7) (v := ?_) rfl (by kernel_rfl) (by kernel_rfl) (by kernel_rfl) (fun _ _ _ h => h) (Or.inl ⟨by rfl, ?_⟩) (by assumption) ?_
                  rotate_left
                  · intro w hSw
                    (try dsimp only at hSw)
                    go_simp
                    all_goals with_reducible rfl
                  try simp only [Act.put, List.setIfInBounds_toArray, List.set_cons_zero, List.set_cons_succ, List.getElem_toArray, List.getElem_cons_zero, List.getElem_cons_succ]
                  refine wpAnyH_take (i := 8) (v := ?_) rfl (by kernel_rfl) (by kernel_rfl) (by kernel_rfl) (fun _ _ _ h => h) (Or.inl ⟨by rfl, ?_⟩) (by assumption) ?_
                  rotate_left
                  · intro w hSw
                    (try dsimp only at hSw)
                    go_simp
                    all_goals with_reducible rfl
                  try simp only [Act.put, List.setIfInBounds_toArray, List.set_cons_zero, List.set_cons_succ, List.getElem_toArray, List.getElem_cons_zero, List.getElem_cons_succ]
                  refine wpAnyH_take (i := 9) (v := ?_) rfl (by kernel_rfl) (by kernel_rfl) (by kernel_rfl) (fun _ _ _ h => h) (Or.inl ⟨by rfl, ?_⟩) (by assumption) ?_
                  rotate_left
                  · intro w hSw
                    (try dsimp only at hSw)
                    go_simp
                    all_goals with_reducible rfl
                  try simp only [Act.put, List.setIfInBounds_toArray, List.set_cons_zero, List.set_cons_succ, List.getElem_toArray, List.getElem_cons_zero, List.getElem_cons_succ]
                  have hz := (j.s8 _ rfl).1
                  have u0 := hz.c0
                  have u1 := hz.c1
                  have v0 := hz.f0
                  have v1 := hz.f1
                  have hF := j.fin (.int .i64 x) (.int .i64 y)
                  refine wpAnyH_ready (rs := [11]) (by kernel_rfl) (by simp) ?_
                  refine AllReadyH.cons rfl (fun K hK => ?_) AllReadyH.nil
                  go_simp
                  skip
                  refine hK.out _ _ (hF.1) (fun hHeld => ?_)
                  clear hK K
                  try simp only [Act.put, List.setIfInBounds_toArray, List.set_cons_zero, List.set_cons_succ, List.getElem_toArray, List.getElem_cons_zero, List.getElem_cons_succ]
                  refine wpAnyH_take (i := 12) (v := ?_) rfl (by kernel_rfl) (by kernel_rfl) (by kernel_rfl) (fun _ _ _ h => h) (Or.inl ⟨by rfl, ?_⟩) (by assumption) ?_
                  rotate_left
                  · intro w hSw
                    (try dsimp only at hSw)
                    go_simp
                    all_goals with_reducible rfl
                  try simp only [Act.put, List.setIfInBounds_toArray, List.set_cons_zero, List.set_cons_succ, List.getElem_toArray, List.getElem_cons_zero, List.getElem_cons_succ]
                  refine wpAnyH_done (by kernel_rfl) ?_ _
                  clear hHeld u0 u1 v0 v1 hz j
                  obtain ⟨⟨q0, q1⟩, ⟨p0, p1⟩, bS⟩ := hF
                  generalize (World.setCell (World.setCell W38 _ _) _ _) = WS at *
                  go_wp2
                  go_ret
                  exact ⟨ret_bool (by first | rfl | (simp; done)), bS⟩
      · go_simp
        have j1 := j.op4
        refine hK.out _ _ j1.cells (fun hHeld => ?_)
        clear hK K j
        try simp only [Act.put, List.setIfInBounds_toArray, List.set_cons_zero, List.set_cons_succ, List.getElem_toArray, List.getElem_cons_zero, List.getElem_cons_succ]
        generalize V.alloc (.cells #[.int .i64 x, .int .i64 y] 26) = W39 at *
        generalize V.heap.size = E39 at *
        have j := j1
        clear j1
        refine wpAnyH_ready (rs := [0, 10]) (by kernel_rfl) (by simp) ?_
        refine AllReadyH.cons rfl (fun K hK => ?_) (AllReadyH.cons rfl (fun K hK => ?_) AllReadyH.nil)
        · go_simp
          have j1 := j.op0
          refine hK.out _ _ j1.cells (fun hHeld => ?_)
          clear hK K j
          try simp only [Act.put, List.setIfInBounds_toArray, List.set_cons_zero, List.set_cons_succ, List.getElem_toArray, List.getElem_cons_zero, List.getElem_cons_succ]
          generalize W39.alloc (.cells #[] 26) = W40 at *
          generalize W39.heap.size = E40 at *
          have j := j1
          clear j1
          refine wpAnyH_ready (rs := [2, 10]) (by kernel_rfl) (by simp) ?_
          refine AllReadyH.cons rfl (fun K hK => ?_) (AllReadyH.cons rfl (fun K hK => ?_) AllReadyH.nil)
          · refine step_j rfl _ _ (by rfl) (by rfl) (by rfl) j j.hS (by simp only [List.length_nil]; omega) l (by rfl) ?_
            intro a41 c41 W41 j1
            refine hK.out _ _ j1.cells (fun hHeld => ?_)
            clear hK K j
            try simp only [Act.put, List.setIfInBounds_toArray, List.set_cons_zero, List.set_cons_succ, List.getElem_toArray, List.getElem_cons_zero, List.getElem_cons_succ]
            have j := j1
            clear j1
            refine wpAnyH_ready (rs := [5, 10]) (by kernel_rfl) (by simp) ?_
            refine AllReadyH.cons rfl (fun K hK => ?_) (AllReadyH.cons rfl (fun K hK => ?_) AllReadyH.nil)
            · refine step_j rfl _ _ (by rfl) (by rfl) (by rfl) j (Sps.one (j.s4 _ rfl).1) (by omega) X hX ?_
              intro a42 c42 W42 j1
              refine hK.out _ _ j1.cells (fun hHeld => ?_)
              clear hK K j
              try simp only [Act.put, List.setIfInBounds_toArray, List.set_cons_zero, List.set_cons_succ, List.getElem_toArray, List.getElem_cons_zero, List.getElem_cons_succ]
              have j := j1
              clear j1
              refine wpAnyH_ready (rs := [6, 10]) (by kernel_rfl) (by simp) ?_
              refine AllReadyH.cons rfl (fun K hK => ?_) (AllReadyH.cons rfl (fun K hK => ?_) AllReadyH.nil)
              · go_simp
                go_at_call 7
                refine (ag_impl _ _ _ _ _ _ (prs_sps' j.own (by have := HXl.out; omega)) (Nat.le_refl _)).mono ?_
                rw [HA.out.1, HA.out.2.1, HA.out.2.2]
                rintro e W43 ⟨rfl, b1⟩
                have j1 := j.keep b1
                refine hK.out _ _ j1.cells (fun hHeld => ?_)
                clear hK K j b1
                try simp only [Act.put, List.setIfInBounds_toArray, List.set_cons_zero, List.set_cons_succ, List.getElem_toArray, List.getElem_cons_zero, List.getElem_cons_succ]
                have j := j1
                clear j1
                refine wpAnyH_take (i := 7) (v := ?_) rfl (by kernel_rfl) (by kernel_rfl) (by kernel_rfl) (fun _ _ _ h => h) (Or.inl ⟨by rfl, ?_⟩) (by assumption) ?_
                rotate_left
                · intro w hSw
                  (try dsimp only at hSw)
                  go_simp
                  all_goals with_reducible rfl
                try simp only [Act.put, List.setIfInBounds_toArray, List.set_cons_zero, List.set_cons_succ, List.getElem_toArray, List.getElem_cons_zero, List.getElem_cons_succ]
                refine wpAnyH_take (i := 8) (v := ?_) rfl (by kernel_rfl) (by kernel_rfl) (by kernel_rfl) (fun _ _ _ h => h) (Or.inl ⟨by rfl, ?_⟩) (by assumption) ?_
                rotate_left
                · intro w hSw
                  (try dsimp only at hSw)
                  go_simp
                  all_goals with_reducible rfl
                try simp only [Act.put, List.setIfInBounds_toArray, List.set_cons_zero, List.set_cons_succ, List.getElem_toArray, List.getElem_cons_zero, List.getElem_cons_succ]
                refine wpAnyH_take (i := 9) (v := ?_) rfl (by kernel_rfl) (by kernel_rfl) (by kernel_rfl) (fun _ _ _ h => h) (Or.inl ⟨by rfl, ?_⟩) (by assumption) ?_
                rotate_left
                · intro w hSw
                  (try dsimp only at hSw)
                  go_simp
                  all_goals with_reducible rfl
                try simp only [Act.put, List.setIfInBounds_toArray, List.set_cons_zero, List.set_cons_succ, List.getElem_toArray, List.getElem_cons_zero, List.getElem_cons_succ]
                refine wpAnyH_ready (rs := [10]) (by kernel_rfl) (by simp) ?_
                refine AllReadyH.cons rfl (fun K hK => ?_) AllReadyH.nil
                · go_simp
                  have j1 := j.op8
                  refine hK.out _ _ j1.cells (fun hHeld => ?_)
                  clear hK K j
                  try simp only [Act.put, List.setIfInBounds_toArray, List.set_cons_zero, List.set_cons_succ, List.getElem_toArray, List.getElem_cons_zero, List.getElem_cons_succ]
                  generalize W43.alloc (.cells #[.int .i64 0, .int .i64 0] 26) = W44 at *
                  generalize W43.heap.size = E44 at *
                  have j := j1
                  clear j1
                  have hz := (j.s8 _ rfl).1
                  have u0 := hz.c0
                  have u1 := hz.c1
                  have v0 := hz.f0
                  have v1 := hz.f1
                  have hF := j.fin (.int .i64 x) (.int .i64 y)
                  refine wpAnyH_ready (rs := [11]) (by kernel_rfl) (by simp) ?_
                  refine AllReadyH.cons rfl (fun K hK => ?_) AllReadyH.nil
                  go_simp
                  skip
                  refine hK.out _ _ (hF.1) (fun hHeld => ?_)
                  clear hK K
                  try simp only [Act.put, List.setIfInBounds_toArray, List.set_cons_zero, List.set_cons_succ, List.getElem_toArray, List.getElem_cons_zero, List.getElem_cons_succ]
                  refine wpAnyH_take (i := 12) (v := ?_) rfl (by kernel_rfl) (by kernel_rfl) (by kernel_rfl) (fun _ _ _ h => h) (Or.inl ⟨by rfl, ?_⟩) (by assumption) ?_
                  rotate_left
                  · intro w hSw
                    (try dsimp only at hSw)
                    go_simp
                    all_goals with_reducible rfl
                  try simp only [Act.put, List.setIfInBounds_toArray, List.set_cons_zero, List.set_cons_succ, List.getElem_toArray, List.getElem_cons_zero, List.getElem_cons_succ]
                  refine wpAnyH_done (by kernel_rfl) ?_ _
                  clear hHeld u0 u1 v0 v1 hz j
                  obtain ⟨⟨q0, q1⟩, ⟨p0, p1⟩, bS⟩ := hF
                  generalize (World.setCell (World.setCell W44 _ _) _ _) = WS at *
                  go_wp2
                  go_ret
                  exact ⟨ret_bool (by first | rfl | (simp; done)), bS⟩
              · go_simp
                have j1 := j.op8
                refine hK.out _ _ j1.cells (fun hHeld => ?_)
                clear hK K j
                try simp only [Act.put, List.setIfInBounds_toArray, List.set_cons_zero, List.set_cons_succ, List.getElem_toArray, List.getElem_cons_zero, List.getElem_cons_succ]
                generalize W42.alloc (.cells #[.int .i64 0, .int .i64 0] 26) = W45 at *
                generalize W42.heap.size = E45 at *
                have j := j1
                clear j1
                refine wpAnyH_ready (rs := [6]) (by kernel_rfl) (by simp) ?_
                refine AllReadyH.cons rfl (fun K hK => ?_) AllReadyH.nil
                · go_simp
                  go_at_call 7
                  refine (ag_impl _ _ _ _ _ _ (prs_sps' j.own (by have := HXl.out; omega)) (Nat.le_refl _)).mono ?_
                  rw [HA.out.1, HA.out.2.1, HA.out.2.2]
                  rintro e W46 ⟨rfl, b1⟩
                  have j1 := j.keep b1
                  refine hK.out _ _ j1.cells (fun hHeld => ?_)
                  clear hK K j b1
                  try simp only [Act.put, List.setIfInBounds_toArray, List.set_cons_zero, List.set_cons_succ, List.getElem_toArray, List.getElem_cons_zero, List.getElem_cons_succ]
                  have j := j1
                  clear j1
                  refine wpAnyH_take (i := 7) (v := ?_) rfl (by kernel_rfl) (by kernel_rfl) (by kernel_rfl) (fun _ _ _ h => h) (Or.inl ⟨by rfl, ?_⟩) (by assumption) ?_
                  rotate_left
                  · intro w hSw
                    (try dsimp only at hSw)
                    go_simp
                    all_goals with_reducible rfl
                  try simp only [Act.put, List.setIfInBounds_toArray, List.set_cons_zero, List.set_cons_succ, List.getElem_toArray, List.getElem_cons_zero, List.getElem_cons_succ]
                  refine wpAnyH_take (i := 8) (v := ?_) rfl (by kernel_rfl) (by kernel_rfl) (by kernel_rfl) (fun _ _ _ h => h) (Or.inl ⟨by rfl, ?_⟩) (by assumption) ?_
                  rotate_left
                  · intro w hSw
                    (try dsimp only at hSw)
                    go_simp
                    all_goals with_reducible rfl
                  try simp only [Act.put, List.setIfInBounds_toArray, List.set_cons_zero, List.set_cons_succ, List.getElem_toArray, List.getElem_cons_zero, List.getElem_cons_succ]
                  refine wpAnyH_take (i := 9) (v := ?_) rfl (by kernel_rfl) (by kernel_rfl) (by kernel_rfl) (fun _ _ _ h => h) (Or.inl ⟨by rfl, ?_⟩) (by assumption) ?_
                  rotate_left
                  · intro w hSw
                    (try dsimp only at hSw)
                    go_simp
                    all_goals with_reducible rfl
                  try simp only [Act.put, List.setIfInBounds_toArray, List.set_cons_zero, List.set_cons_succ, List.getElem_toArray, List.getElem_cons_zero, List.getElem_cons_succ]
                  have hz := (j.s8 _ rfl).1
                  have u0 := hz.c0
                  have u1 := hz.c1
                  have v0 := hz.f0
                  have v1 := hz.f1
                  have hF := j.fin (.int .i64 x) (.int .i64 y)
                  refine wpAnyH_ready (rs := [11]) (by kernel_rfl) (by simp) ?_
                  refine AllReadyH.cons rfl (fun K hK => ?_) AllReadyH.nil
                  go_simp
                  skip
                  refine hK.out _ _ (hF.1) (fun hHeld => ?_)
                  clear hK K
                  try simp only [Act.put, List.setIfInBounds_toArray, List.set_cons_zero, List.set_cons_succ, List.getElem_toArray, List.getElem_cons_zero, List.getElem_cons_succ]
                  refine wpAnyH_take (i := 12) (v := ?_) rfl (by kernel_rfl) (by kernel_rfl) (by kernel_rfl) (fun _ _ _ h => h) (Or.inl ⟨by rfl, ?_⟩) (by assumption) ?_
                  rotate_left
                  · intro w hSw
                    (try dsimp only at hSw)
                    go_simp
                    all_goals with_reducible rfl
                  try simp only [Act.put, List.setIfInBounds_toArray, List.set_cons_zero, List.set_cons_succ, List.getElem_toArray, List.getElem_cons_zero, List.getElem_cons_succ]
                  refine wpAnyH_done (by kernel_rfl) ?_ _
                  clear hHeld u0 u1 v0 v1 hz j
                  obtain ⟨⟨q0, q1⟩, ⟨p0, p1⟩, bS⟩ := hF
                  generalize (World.setCell (World.setCell W46 _ _) _ _) = WS at *
                  go_wp2
                  go_ret
                  exact ⟨ret_bool (by first | rfl | (simp; done)), bS⟩
            · go_simp
              have j1 := j.op8
              refine hK.out _ _ j1.cells (fun hHeld => ?_)
              clear hK K j
              try simp only [Act.put, List.setIfInBounds_toArray, List.set_cons_zero, List.set_cons_succ, List.getElem_toArray, List.getElem_cons_zero, List.getElem_cons_succ]
              generalize W41.alloc (.cells #[.int .i64 0, .int .i64 0] 26) = W47 at *
              generalize W41.heap.size = E47 at *
              have j := j1
              clear j1
              refine wpAnyH_ready (rs := [5]) (by kernel_rfl) (by simp) ?_
              refine AllReadyH.cons rfl (fun K hK => ?_) AllReadyH.nil
              · refine step_j rfl _ _ (by rfl) (by rfl) (by rfl) j (Sps.one (j.s4 _ rfl).1) (by omega) X hX ?_
                intro a48 c48 W48 j1
                refine hK.out _ _ j1.cells (fun hHeld => ?_)
                clear hK K j
                try simp only [Act.put, List.setIfInBounds_toArray, List.set_cons_zero, List.set_cons_succ, List.getElem_toArray, List.getElem_cons_zero, List.getElem_cons_succ]
                have j := j1
                clear j1
                refine wpAnyH_ready (rs := [6]) (by kernel_rfl) (by simp) ?_
                refine AllReadyH.cons rfl (fun K hK => ?_) AllReadyH.nil
                · go_simp
                  go_at_call 7
                  refine (ag_impl _ _ _ _ _ _ (prs_sps' j.own (by have := HXl.out; omega)) (Nat.le_refl _)).mono ?_
                  rw [HA.out.1, HA.out.2.1, HA.out.2.2]
                  rintro e W49 ⟨rfl, b1⟩
                  have j1 := j.keep b1
                  refine hK.out _ _ j1.cells (fun hHeld => ?_)
                  clear hK K j b1
                  try simp only [Act.put, List.setIfInBounds_toArray, List.set_cons_zero, List.set_cons_succ, List.getElem_toArray, List.getElem_cons_zero, List.getElem_cons_succ]
                  have j := j1
                  clear j1
                  refine wpAnyH_take (i := 7) (v := ?_) rfl (by kernel_rfl) (by kernel_rfl) (by kernel_rfl) (fun _ _ _ h => h) (Or.inl ⟨by rfl, ?_⟩) (by assumption) ?_
                  rotate_left
                  · intro w hSw
                    (try dsimp only at hSw)
                    go_simp
                    all_goals with_reducible rfl
                  try simp only [Act.put, List.setIfInBounds_toArray, List.set_cons_zero, List.set_cons_succ, List.getElem_toArray, List.getElem_cons_zero, List.getElem_cons_succ]
                  refine wpAnyH_take (i := 8) (v := ?_) rfl (by kernel_rfl) (by kernel_rfl) (by kernel_rfl) (fun _ _ _ h => h) (Or.inl ⟨by rfl, ?_⟩) (by assumption) ?_
                  rotate_left
                  · intro w hSw
                    (try dsimp only at hSw)
                    go_simp
                    all_goals with_reducible rfl
                  try simp only [Act.put, List.setIfInBounds_toArray, List.set_cons_zero, List.set_cons_succ, List.getElem_toArray, List.getElem_cons_zero, List.getElem_cons_succ]
                  refine wpAnyH_take (i := 9) (v := ?_) rfl (by kernel_rfl) (by kernel_rfl) (by kernel_rfl) (fun _ _ _ h => h) (Or.inl ⟨by rfl, ?_⟩) (by assumption) ?_
                  rotate_left
                  · intro w hSw
                    (try dsimp only at hSw)
                    go_simp
                    all_goals with_reducible rfl
                  try simp only [Act.put, List.setIfInBounds_toArray, List.set_cons_zero, List.set_cons_succ, List.getElem_toArray, List.getElem_cons_zero, List.getElem_cons_succ]
                  have hz := (j.s8 _ rfl).1
                  have u0 := hz.c0
                  have u1 := hz.c1
                  have v0 := hz.f0
                  have v1 := hz.f1
                  have hF := j.fin (.int .i64 x) (.int .i64 y)
                  refine wpAnyH_ready (rs := [11]) (by kernel_rfl) (by simp) ?_
                  refine AllReadyH.cons rfl (fun K hK => ?_) AllReadyH.nil
                  go_simp
                  skip
                  refine hK.out _ _ (hF.1) (fun hHeld => ?_)
                  clear hK K
                  try simp only [Act.put, List.setIfInBounds_toArray, List.set_cons_zero, List.set_cons_succ, List.getElem_toArray, List.getElem_cons_zero, List.getElem_cons_succ]
                  refine wpAnyH_take (i := 12) (v := ?_) rfl (by kernel_rfl) (by kernel_rfl) (by kernel_rfl) (fun _ _ _ h => h) (Or.inl ⟨by rfl, ?_⟩) (by assumption) ?_
                  rotate_left
                  · intro w hSw
                    (try dsimp only at hSw)
                    go_simp
                    all_goals with_reducible rfl
                  try simp only [Act.put, List.setIfInBounds_toArray, List.set_cons_zero, List.set_cons_succ, List.getElem_toArray, List.getElem_cons_zero, List.getElem_cons_succ]
                  refine wpAnyH_done (by kernel_rfl) ?_ _
                  clear hHeld u0 u1 v0 v1 hz j
                  obtain ⟨⟨q0, q1⟩, ⟨p0, p1⟩, bS⟩ := hF
                  generalize (World.setCell (World.setCell W49 _ _) _ _) = WS at *
                  go_wp2
                  go_ret
                  exact ⟨ret_bool (by first | rfl | (simp; done)), bS⟩
          · go_simp
            have j1 := j.op8
            refine hK.out _ _ j1.cells (fun hHeld => ?_)
            clear hK K j
            try simp only [Act.put, List.setIfInBounds_toArray, List.set_cons_zero, List.set_cons_succ, List.getElem_toArray, List.getElem_cons_zero, List.getElem_cons_succ]
            generalize W40.alloc (.cells #[.int .i64 0, .int .i64 0] 26) = W50 at *
            generalize W40.heap.size = E50 at *
            have j := j1
            clear j1
            refine wpAnyH_ready (rs := [2]) (by kernel_rfl) (by simp) ?_
            refine AllReadyH.cons rfl (fun K hK => ?_) AllReadyH.nil
            · refine step_j rfl _ _ (by rfl) (by rfl) (by rfl) j j.hS (by simp only [List.length_nil]; omega) l (by rfl) ?_
              intro a51 c51 W51 j1
              refine hK.out _ _ j1.cells (fun hHeld => ?_)
              clear hK K j
              try simp only [Act.put, List.setIfInBounds_toArray, List.set_cons_zero, List.set_cons_succ, List.getElem_toArray, List.getElem_cons_zero, List.getElem_cons_succ]
              have j := j1
              clear j1
              refine wpAnyH_ready (rs := [5]) (by kernel_rfl) (by simp) ?_
              refine AllReadyH.cons rfl (fun K hK => ?_) AllReadyH.nil
              · refine step_j rfl _ _ (by rfl) (by rfl) (by rfl) j (Sps.one (j.s4 _ rfl).1) (by omega) X hX ?_
                intro a52 c52 W52 j1
                refine hK.out _ _ j1.cells (fun hHeld => ?_)
                clear hK K j
                try simp only [Act.put, List.setIfInBounds_toArray, List.set_cons_zero, List.set_cons_succ, List.getElem_toArray, List.getElem_cons_zero, List.getElem_cons_succ]
                have j := j1
                clear j1
                refine wpAnyH_ready (rs := [6]) (by kernel_rfl) (by simp) ?_
                refine AllReadyH.cons rfl (fun K hK => ?_) AllReadyH.nil
                · go_simp
                  go_at_call 7
                  refine (ag_impl _ _ _ _ _ _ (prs_sps' j.own (by have := HXl.out; omega)) (Nat.le_refl _)).mono ?_
                  rw [HA.out.1, HA.out.2.1, HA.out.2.2]
                  rintro e W53 ⟨rfl, b1⟩
                  have j1 := j.keep b1
                  refine hK.out _ _ j1.cells (fun hHeld => ?_)
                  clear hK K j b1
                  try simp only [Act.put, List.setIfInBounds_toArray, List.set_cons_zero, List.set_cons_succ, List.getElem_toArray, List.getElem_cons_zero, List.getElem_cons_succ]
                  have j := j1
                  clear j1
                  refine wpAnyH_take (i := 7) (v := ?_) rfl (by kernel_rfl) (by kernel_rfl) (by kernel_rfl) (fun _ _ _ h => h) (Or.inl ⟨by rfl, ?_⟩) (by assumption) ?_
                  rotate_left
                  · intro w hSw
                    (try dsimp only at hSw)
                    go_simp
                    all_goals with_reducible rfl
                  try simp only [Act.put, List.setIfInBounds_toArray, List.set_cons_zero, List.set_cons_succ, List.getElem_toArray, List.getElem_cons_zero, List.getElem_cons_succ]
                  refine wpAnyH_take (i := 8) (v := ?_) rfl (by kernel_rfl) (by kernel_rfl) (by kernel_rfl) (fun _ _ _ h => h) (Or.inl ⟨by rfl, ?_⟩) (by assumption) ?_
                  rotate_left
                  · intro w hSw
                    (try dsimp only at hSw)
                    go_simp
                    all_goals with_reducible rfl
                  try simp only [Act.put, List.setIfInBounds_toArray, List.set_cons_zero, List.set_cons_succ, List.getElem_toArray, List.getElem_cons_zero, List.getElem_cons_succ]
                  refine wpAnyH_take (i := 9) (v := ?_) rfl (by kernel_rfl) (by kernel_rfl) (by kernel_rfl) (fun _ _ _ h => h) (Or.inl ⟨by rfl, ?_⟩) (by assumption) ?_
                  rotate_left
                  · intro w hSw
                    (try dsimp only at hSw)
                    go_simp
                    all_goals with_reducible rfl
                  try simp only [Act.put, List.setIfInBounds_toArray, List.set_cons_zero, List.set_cons_succ, List.getElem_toArray, List.getElem_cons_zero, List.getElem_cons_succ]
                  have hz := (j.s8 _ rfl).1
                  have u0 := hz.c0
                  have u1 := hz.c1
                  have v0 := hz.f0
                  have v1 := hz.f1
                  have hF := j.fin (.int .i64 x) (.int .i64 y)
                  refine wpAnyH_ready (rs := [11]) (by kernel_rfl) (by simp) ?_
                  refine AllReadyH.cons rfl (fun K hK => ?_) AllReadyH.nil
                  go_simp
                  skip
                  refine hK.out _ _ (hF.1) (fun hHeld => ?_)
                  clear hK K
                  try simp only [Act.put, List.setIfInBounds_toArray, List.set_cons_zero, List.set_cons_succ, List.getElem_toArray, List.getElem_cons_zero, List.getElem_cons_succ]
                  refine wpAnyH_take (i := 12) (v := ?_) rfl (by kernel_rfl) (by kernel_rfl) (by kernel_rfl) (fun _ _ _ h => h) (Or.inl ⟨by rfl, ?_⟩) (by assumption) ?_
                  rotate_left
                  · intro w hSw
                    (try dsimp only at hSw)
                    go_simp
                    all_goals with_reducible rfl
                  try simp only [Act.put, List.setIfInBounds_toArray, List.set_cons_zero, List.set_cons_succ, List.getElem_toArray, List.getElem_cons_zero, List.getElem_cons_succ]
                  refine wpAnyH_done (by kernel_rfl) ?_ _
                  clear hHeld u0 u1 v0 v1 hz j
                  obtain ⟨⟨q0, q1⟩, ⟨p0, p1⟩, bS⟩ := hF
                  generalize (World.setCell (World.setCell W53 _ _) _ _) = WS at *
                  go_wp2
                  go_ret
                  exact ⟨ret_bool (by first | rfl | (simp; done)), bS⟩
        · go_simp
          have j1 := j.op8
          refine hK.out _ _ j1.cells (fun hHeld => ?_)
          clear hK K j
          try simp only [Act.put, List.setIfInBounds_toArray, List.set_cons_zero, List.set_cons_succ, List.getElem_toArray, List.getElem_cons_zero, List.getElem_cons_succ]
          generalize W39.alloc (.cells #[.int .i64 0, .int .i64 0] 26) = W54 at *
          generalize W39.heap.size = E54 at *
          have j := j1
          clear j1
          refine wpAnyH_ready (rs := [0]) (by kernel_rfl) (by simp) ?_
          refine AllReadyH.cons rfl (fun K hK => ?_) AllReadyH.nil
          · go_simp
            have j1 := j.op0
            refine hK.out _ _ j1.cells (fun hHeld => ?_)
            clear hK K j
            try simp only [Act.put, List.setIfInBounds_toArray, List.set_cons_zero, List.set_cons_succ, List.getElem_toArray, List.getElem_cons_zero, List.getElem_cons_succ]
            generalize W54.alloc (.cells #[] 26) = W55 at *
            generalize W54.heap.size = E55 at *
            have j := j1
            clear j1
            refine wpAnyH_ready (rs := [2]) (by kernel_rfl) (by simp) ?_
            refine AllReadyH.cons rfl (fun K hK => ?_) AllReadyH.nil
            · refine step_j rfl _ _ (by rfl) (by rfl) (by rfl) j j.hS (by simp only [List.length_nil]; omega) l (by rfl) ?_
              intro a56 c56 W56 j1
              refine hK.out _ _ j1.cells (fun hHeld => ?_)
              clear hK K j
              try simp only [Act.put, List.setIfInBounds_toArray, List.set_cons_zero, List.set_cons_succ, List.getElem_toArray, List.getElem_cons_zero, List.getElem_cons_succ]
              have j := j1
              clear j1
              refine wpAnyH_ready (rs := [5]) (by kernel_rfl) (by simp) ?_
              refine AllReadyH.cons rfl (fun K hK => ?_) AllReadyH.nil
              · refine step_j rfl _ _ (by rfl) (by rfl) (by rfl) j (Sps.one (j.s4 _ rfl).1) (by omega) X hX ?_
                intro a57 c57 W57 j1
                refine hK.out _ _ j1.cells (fun hHeld => ?_)
                clear hK K j
                try simp only [Act.put, List.setIfInBounds_toArray, List.set_cons_zero, List.set_cons_succ, List.getElem_toArray, List.getElem_cons_zero, List.getElem_cons_succ]
                have j := j1
                clear j1
                refine wpAnyH_ready (rs := [6]) (by kernel_rfl) (by simp) ?_
                refine AllReadyH.cons rfl (fun K hK => ?_) AllReadyH.nil
                · go_simp
                  go_at_call 7
                  refine (ag_impl _ _ _ _ _ _ (prs_sps' j.own (by have := HXl.out; omega)) (Nat.le_refl _)).mono ?_
                  rw [HA.out.1, HA.out.2.1, HA.out.2.2]
                  rintro e W58 ⟨rfl, b1⟩
                  have j1 := j.keep b1
                  refine hK.out _ _ j1.cells (fun hHeld => ?_)
                  clear hK K j b1
                  try simp only [Act.put, List.setIfInBounds_toArray, List.set_cons_zero, List.set_cons_succ, List.getElem_toArray, List.getElem_cons_zero, List.getElem_cons_succ]
                  have j := j1
                  clear j1
                  refine wpAnyH_take (i := 7) (v := ?_) rfl (by kernel_rfl) (by kernel_rfl) (by kernel_rfl) (fun _ _ _ h => h) (Or.inl ⟨by rfl, ?_⟩) (by assumption) ?_
                  rotate_left
                  · intro w hSw
                    (try dsimp only at hSw)
                    go_simp
                    all_goals with_reducible rfl
                  try simp only [Act.put, List.setIfInBounds_toArray, List.set_cons_zero, List.set_cons_succ, List.getElem_toArray, List.getElem_cons_zero, List.getElem_cons_succ]
                  refine wpAnyH_take (i := 8) (v := ?_) rfl (by kernel_rfl) (by kernel_rfl) (by kernel_rfl) (fun _ _ _ h => h) (Or.inl ⟨by rfl, ?_⟩) (by assumption) ?_
                  rotate_left
                  · intro w hSw
                    (try dsimp only at hSw)
                    go_simp
                    all_goals with_reducible rfl
                  try simp only [Act.put, List.setIfInBounds_toArray, List.set_cons_zero, List.set_cons_succ, List.getElem_toArray, List.getElem_cons_zero, List.getElem_cons_succ]
                  refine wpAnyH_take (i := 9) (v := ?_) rfl (by kernel_rfl) (by kernel_rfl) (by kernel_rfl) (fun _ _ _ h => h) (Or.inl ⟨by rfl, ?_⟩) (by assumption) ?_
                  rotate_left
                  · intro w hSw
                    (try dsimp only at hSw)
                    go_simp
                    all_goals with_reducible rfl
                  try simp only [Act.put, List.setIfInBounds_toArray, List.set_cons_zero, List.set_cons_succ, List.getElem_toArray, List.getElem_cons_zero, List.getElem_cons_succ]
                  have hz := (j.s8 _ rfl).1
                  have u0 := hz.c0
                  have u1 := hz.c1
                  have v0 := hz.f0
                  have v1 := hz.f1
                  have hF := j.fin (.int .i64 x) (.int .i64 y)
                  refine wpAnyH_ready (rs := [11]) (by kernel_rfl) (by simp) ?_
                  refine AllReadyH.cons rfl (fun K hK => ?_) AllReadyH.nil
                  go_simp
                  skip
                  refine hK.out _ _ (hF.1) (fun hHeld => ?_)
                  clear hK K
                  try simp only [Act.put, List.setIfInBounds_toArray, List.set_cons_zero, List.set_cons_succ, List.getElem_toArray, List.getElem_cons_zero, List.getElem_cons_succ]
                  refine wpAnyH_take (i := 12) (v := ?_) rfl (by kernel_rfl) (by kernel_rfl) (by kernel_rfl) (fun _ _ _ h => h) (Or.inl ⟨by rfl, ?_⟩) (by assumption) ?_
                  rotate_left
                  · intro w hSw
                    (try dsimp only at hSw)
                    go_simp
                    all_goals with_reducible rfl
                  try simp only [Act.put, List.setIfInBounds_toArray, List.set_cons_zero, List.set_cons_succ, List.getElem_toArray, List.getElem_cons_zero, List.getElem_cons_succ]
                  refine wpAnyH_done (by kernel_rfl) ?_ _
                  clear hHeld u0 u1 v0 v1 hz j
                  obtain ⟨⟨q0, q1⟩, ⟨p0, p1⟩, bS⟩ := hF
                  generalize (World.setCell (World.setCell W58 _ _) _ _) = WS at *
                  go_wp2
                  go_ret
                  exact ⟨ret_bool (by first | rfl | (simp; done)), bS⟩
      · go_simp
        have j1 := j.op8
        refine hK.out _ _ j1.cells (fun hHeld => ?_)
        clear hK K j
        try simp only [Act.put, List.setIfInBounds_toArray, List.set_cons_zero, List.set_cons_succ, List.getElem_toArray, List.getElem_cons_zero, List.getElem_cons_succ]
        generalize V.alloc (.cells #[.int .i64 0, .int .i64 0] 26) = W59 at *
        generalize V.heap.size = E59 at *
        have j := j1
        clear j1
        refine wpAnyH_ready (rs := [0, 4]) (by kernel_rfl) (by simp) ?_
        refine AllReadyH.cons rfl (fun K hK => ?_) (AllReadyH.cons rfl (fun K hK => ?_) AllReadyH.nil)
        · go_simp
          have j1 := j.op0
          refine hK.out _ _ j1.cells (fun hHeld => ?_)
          clear hK K j
          try simp only [Act.put, List.setIfInBounds_toArray, List.set_cons_zero, List.set_cons_succ, List.getElem_toArray, List.getElem_cons_zero, List.getElem_cons_succ]
          generalize W59.alloc (.cells #[] 26) = W60 at *
          generalize W59.heap.size = E60 at *
          have j := j1
          clear j1
          refine wpAnyH_ready (rs := [2, 4]) (by kernel_rfl) (by simp) ?_
          refine AllReadyH.cons rfl (fun K hK => ?_) (AllReadyH.cons rfl (fun K hK => ?_) AllReadyH.nil)
          · refine step_j rfl _ _ (by rfl) (by rfl) (by rfl) j j.hS (by simp only [List.length_nil]; omega) l (by rfl) ?_
            intro a61 c61 W61 j1
            refine hK.out _ _ j1.cells (fun hHeld => ?_)
            clear hK K j
            try simp only [Act.put, List.setIfInBounds_toArray, List.set_cons_zero, List.set_cons_succ, List.getElem_toArray, List.getElem_cons_zero, List.getElem_cons_succ]
            have j := j1
            clear j1
            refine wpAnyH_ready (rs := [4]) (by kernel_rfl) (by simp) ?_
            refine AllReadyH.cons rfl (fun K hK => ?_) AllReadyH.nil
            · go_simp
              have j1 := j.op4
              refine hK.out _ _ j1.cells (fun hHeld => ?_)
              clear hK K j
              try simp only [Act.put, List.setIfInBounds_toArray, List.set_cons_zero, List.set_cons_succ, List.getElem_toArray, List.getElem_cons_zero, List.getElem_cons_succ]
              generalize W61.alloc (.cells #[.int .i64 x, .int .i64 y] 26) = W62 at *
              generalize W61.heap.size = E62 at *
              have j := j1
              clear j1
              refine wpAnyH_ready (rs := [5]) (by kernel_rfl) (by simp) ?_
              refine AllReadyH.cons rfl (fun K hK => ?_) AllReadyH.nil
              · refine step_j rfl _ _ (by rfl) (by rfl) (by rfl) j (Sps.one (j.s4 _ rfl).1) (by omega) X hX ?_
                intro a63 c63 W63 j1
                refine hK.out _ _ j1.cells (fun hHeld => ?_)
                clear hK K j
                try simp only [Act.put, List.setIfInBounds_toArray, List.set_cons_zero, List.set_cons_succ, List.getElem_toArray, List.getElem_cons_zero, List.getElem_cons_succ]
                have j := j1
                clear j1
                refine wpAnyH_ready (rs := [6]) (by kernel_rfl) (by simp) ?_
                refine AllReadyH.cons rfl (fun K hK => ?_) AllReadyH.nil
                · go_simp
                  go_at_call 7
                  refine (ag_impl _ _ _ _ _ _ (prs_sps' j.own (by have := HXl.out; omega)) (Nat.le_refl _)).mono ?_
                  rw [HA.out.1, HA.out.2.1, HA.out.2.2]
                  rintro e W64 ⟨rfl, b1⟩
                  have j1 := j.keep b1
                  refine hK.out _ _ j1.cells (fun hHeld => ?_)
                  clear hK K j b1
                  try simp only [Act.put, List.setIfInBounds_toArray, List.set_cons_zero, List.set_cons_succ, List.getElem_toArray, List.getElem_cons_zero, List.getElem_cons_succ]
                  have j := j1
                  clear j1
                  refine wpAnyH_take (i := 7) (v := ?_) rfl (by kernel_rfl) (by kernel_rfl) (by kernel_rfl) (fun _ _ _ h => h) (Or.inl ⟨by rfl, ?_⟩) (by assumption) ?_
                  rotate_left
                  · intro w hSw
                    (try dsimp only at hSw)
                    go_simp
                    all_goals with_reducible rfl
                  try simp only [Act.put, List.setIfInBounds_toArray, List.set_cons_zero, List.set_cons_succ, List.getElem_toArray, List.getElem_cons_zero, List.getElem_cons_succ]
                  refine wpAnyH_take (i := 8) (v := ?_) rfl (by kernel_rfl) (by kernel_rfl) (by kernel_rfl) (fun _ _ _ h => h) (Or.inl ⟨by rfl, ?_⟩) (by assumption) ?_
                  rotate_left
                  · intro w hSw
                    (try dsimp only at hSw)
                    go_simp
                    all_goals with_reducible rfl
                  try simp only [Act.put, List.setIfInBounds_toArray, List.set_cons_zero, List.set_cons_succ, List.getElem_toArray, List.getElem_cons_zero, List.getElem_cons_succ]
                  refine wpAnyH_take (i := 9) (v := ?_) rfl (by kernel_rfl) (by kernel_rfl) (by kernel_rfl) (fun _ _ _ h => h) (Or.inl ⟨by rfl, ?_⟩) (by assumption) ?_
                  rotate_left
                  · intro w hSw
                    (try dsimp only at hSw)
                    go_simp
                    all_goals with_reducible rfl
                  try simp only [Act.put, List.setIfInBounds_toArray, List.set_cons_zero, List.set_cons_succ, List.getElem_toArray, List.getElem_cons_zero, List.getElem_cons_succ]
                  have hz := (j.s8 _ rfl).1
                  have u0 := hz.c0
                  have u1 := hz.c1
                  have v0 := hz.f0
                  have v1 := hz.f1
                  have hF := j.fin (.int .i64 x) (.int .i64 y)
                  refine wpAnyH_ready (rs := [11]) (by kernel_rfl) (by simp) ?_
                  refine AllReadyH.cons rfl (fun K hK => ?_) AllReadyH.nil
                  go_simp
                  skip
                  refine hK.out _ _ (hF.1) (fun hHeld => ?_)
                  clear hK K
                  try simp only [Act.put, List.setIfInBounds_toArray, List.set_cons_zero, List.set_cons_succ, List.getElem_toArray, List.getElem_cons_zero, List.getElem_cons_succ]
                  refine wpAnyH_take (i := 12) (v := ?_) rfl (by kernel_rfl) (by kernel_rfl) (by kernel_rfl) (fun _ _ _ h => h) (Or.inl ⟨by rfl, ?_⟩) (by assumption) ?_
                  rotate_left
                  · intro w hSw
                    (try dsimp only at hSw)
                    go_simp
                    all_goals with_reducible rfl
                  try simp only [Act.put, List.setIfInBounds_toArray, List.set_cons_zero, List.set_cons_succ, List.getElem_toArray, List.getElem_cons_zero, List.getElem_cons_succ]
                  refine wpAnyH_done (by kernel_rfl) ?_ _
                  clear hHeld u0 u1 v0 v1 hz j
                  obtain ⟨⟨q0, q1⟩, ⟨p0, p1⟩, bS⟩ := hF
                  generalize (World.setCell (World.setCell W64 _ _) _ _) = WS at *
                  go_wp2
                  go_ret
                  exact ⟨ret_bool (by first | rfl | (simp; done)), bS⟩
          · go_simp
            have j1 := j.op4
            refine hK.out _ _ j1.cells (fun hHeld => ?_)
            clear hK K j
            try simp only [Act.put, List.setIfInBounds_toArray, List.set_cons_zero, List.set_cons_succ, List.getElem_toArray, List.getElem_cons_zero, List.getElem_cons_succ]
            generalize W60.alloc (.cells #[.int .i64 x, .int .i64 y] 26) = W65 at *
            generalize W60.heap.size = E65 at *
            have j := j1
            clear j1
            refine wpAnyH_ready (rs := [2]) (by kernel_rfl) (by simp) ?_
            refine AllReadyH.cons rfl (fun K hK => ?_) AllReadyH.nil
            · refine step_j rfl _ _ (by rfl) (by rfl) (by rfl) j j.hS (by simp only [List.length_nil]; omega) l (by rfl) ?_
              intro a66 c66 W66 j1
              refine hK.out _ _ j1.cells (fun hHeld => ?_)
              clear hK K j
              try simp only [Act.put, List.setIfInBounds_toArray, List.set_cons_zero, List.set_cons_succ, List.getElem_toArray, List.getElem_cons_zero, List.getElem_cons_succ]
              have j := j1
              clear j1
              refine wpAnyH_ready (rs := [5]) (by kernel_rfl) (by simp) ?_
              refine AllReadyH.cons rfl (fun K hK => ?_) AllReadyH.nil
              · refine step_j rfl _ _ (by rfl) (by rfl) (by rfl) j (Sps.one (j.s4 _ rfl).1) (by omega) X hX ?_
                intro a67 c67 W67 j1
                refine hK.out _ _ j1.cells (fun hHeld => ?_)
                clear hK K j
                try simp only [Act.put, List.setIfInBounds_toArray, List.set_cons_zero, List.set_cons_succ, List.getElem_toArray, List.getElem_cons_zero, List.getElem_cons_succ]
                have j := j1
                clear j1
                refine wpAnyH_ready (rs := [6]) (by kernel_rfl) (by simp) ?_
                refine AllReadyH.cons rfl (fun K hK => ?_) AllReadyH.nil
                · go_simp
                  go_at_call 7
                  refine (ag_impl _ _ _ _ _ _ (prs_sps' j.own (by have := HXl.out; omega)) (Nat.le_refl _)).mono ?_
                  rw [HA.out.1, HA.out.2.1, HA.out.2.2]
                  rintro e W68 ⟨rfl, b1⟩
                  have j1 := j.keep b1
                  refine hK.out _ _ j1.cells (fun hHeld => ?_)
                  clear hK K j b1
                  try simp only [Act.put, List.setIfInBounds_toArray, List.set_cons_zero, List.set_cons_succ, List.getElem_toArray, List.getElem_cons_zero, List.getElem_cons_succ]
                  have j := j1
                  clear j1
                  refine wpAnyH_take (i := 7) (v := ?_) rfl (by kernel_rfl) (by kernel_rfl) (by kernel_rfl) (fun _ _ _ h => h) (Or.inl ⟨by rfl, ?_⟩) (by assumption) ?_
                  rotate_left
                  · intro w hSw
                    (try dsimp only at hSw)
                    go_simp
                    all_goals with_reducible rfl
                  try simp only [Act.put, List.setIfInBounds_toArray, List.set_cons_zero, List.set_cons_succ, List.getElem_toArray, List.getElem_cons_zero, List.getElem_cons_succ]
                  refine wpAnyH_take (i := 8) (v := ?_) rfl (by kernel_rfl) (by kernel_rfl) (by kernel_rfl) (fun _ _ _ h => h) (Or.inl ⟨by rfl, ?_⟩) (by assumption) ?_
                  rotate_left
                  · intro w hSw
                    (try dsimp only at hSw)
                    go_simp
                    all_goals with_reducible rfl
                  try simp only [Act.put, List.setIfInBounds_toArray, List.set_cons_zero, List.set_cons_succ, List.getElem_toArray, List.getElem_cons_zero, List.getElem_cons_succ]
                  refine wpAnyH_take (i := 9) (v := ?_) rfl (by kernel_rfl) (by kernel_rfl) (by kernel_rfl) (fun _ _ _ h => h) (Or.inl ⟨by rfl, ?_⟩) (by assumption) ?_
                  rotate_left
                  · intro w hSw
                    (try dsimp only at hSw)
                    go_simp
                    all_goals with_reducible rfl
                  try simp only [Act.put, List.setIfInBounds_toArray, List.set_cons_zero, List.set_cons_succ, List.getElem_toArray, List.getElem_cons_zero, List.getElem_cons_succ]
                  have hz := (j.s8 _ rfl).1
                  have u0 := hz.c0
                  have u1 := hz.c1
                  have v0 := hz.f0
                  have v1 := hz.f1
                  have hF := j.fin (.int .i64 x) (.int .i64 y)
                  refine wpAnyH_ready (rs := [11]) (by kernel_rfl) (by simp) ?_
                  refine AllReadyH.cons rfl (fun K hK => ?_) AllReadyH.nil
                  go_simp
                  skip
                  refine hK.out _ _ (hF.1) (fun hHeld => ?_)
                  clear hK K
                  try simp only [Act.put, List.setIfInBounds_toArray, List.set_cons_zero, List.set_cons_succ, List.getElem_toArray, List.getElem_cons_zero, List.getElem_cons_succ]
                  refine wpAnyH_take (i := 12) (v := ?_) rfl (by kernel_rfl) (by kernel_rfl) (by kernel_rfl) (fun _ _ _ h => h) (Or.inl ⟨by rfl, ?_⟩) (by assumption) ?_
                  rotate_left
                  · intro w hSw
                    (try dsimp only at hSw)
                    go_simp
                    all_goals with_reducible rfl
                  try simp only [Act.put, List.setIfInBounds_toArray, List.set_cons_zero, List.set_cons_succ, List.getElem_toArray, List.getElem_cons_zero, List.getElem_cons_succ]
                  refine wpAnyH_done (by kernel_rfl) ?_ _
                  clear hHeld u0 u1 v0 v1 hz j
                  obtain ⟨⟨q0, q1⟩, ⟨p0, p1⟩, bS⟩ := hF
                  generalize (World.setCell (World.setCell W68 _ _) _ _) = WS at *
                  go_wp2
                  go_ret
                  exact ⟨ret_bool (by first | rfl | (simp; done)), bS⟩
        · go_simp
          have j1 := j.op4
          refine hK.out _ _ j1.cells (fun hHeld => ?_)
          clear hK K j
          try simp only [Act.put, List.setIfInBounds_toArray, List.set_cons_zero, List.set_cons_succ, List.getElem_toArray, List.getElem_cons_zero, List.getElem_cons_succ]
          generalize W59.alloc (.cells #[.int .i64 x, .int .i64 y] 26) = W69 at *
          generalize W59.heap.size = E69 at *
          have j := j1
          clear j1
          refine wpAnyH_ready (rs := [0]) (by kernel_rfl) (by simp) ?_
          refine AllReadyH.cons rfl (fun K hK => ?_) AllReadyH.nil
          · go_simp
            have j1 := j.op0
            refine hK.out _ _ j1.cells (fun hHeld => ?_)
            clear hK K j
            try simp only [Act.put, List.setIfInBounds_toArray, List.set_cons_zero, List.set_cons_succ, List.getElem_toArray, List.getElem_cons_zero, List.getElem_cons_succ]
            generalize W69.alloc (.cells #[] 26) = W70 at *
            generalize W69.heap.size = E70 at *
            have j := j1
            clear j1
            refine wpAnyH_ready (rs := [2]) (by kernel_rfl) (by simp) ?_
            refine AllReadyH.cons rfl (fun K hK => ?_) AllReadyH.nil
            · refine step_j rfl _ _ (by rfl) (by rfl) (by rfl) j j.hS (by simp only [List.length_nil]; omega) l (by rfl) ?_
              intro a71 c71 W71 j1
              refine hK.out _ _ j1.cells (fun hHeld => ?_)
              clear hK K j
              try simp only [Act.put, List.setIfInBounds_toArray, List.set_cons_zero, List.set_cons_succ, List.getElem_toArray, List.getElem_cons_zero, List.getElem_cons_succ]
              have j := j1
              clear j1
              refine wpAnyH_ready (rs := [5]) (by kernel_rfl) (by simp) ?_
              refine AllReadyH.cons rfl (fun K hK => ?_) AllReadyH.nil
              · refine step_j rfl _ _ (by rfl) (by rfl) (by rfl) j (Sps.one (j.s4 _ rfl).1) (by omega) X hX ?_
                intro a72 c72 W72 j1
                refine hK.out _ _ j1.cells (fun hHeld => ?_)
                clear hK K j
                try simp only [Act.put, List.setIfInBounds_toArray, List.set_cons_zero, List.set_cons_succ, List.getElem_toArray, List.getElem_cons_zero, List.getElem_cons_succ]
                have j := j1
                clear j1
                refine wpAnyH_ready (rs := [6]) (by kernel_rfl) (by simp) ?_
                refine AllReadyH.cons rfl (fun K hK => ?_) AllReadyH.nil
                · go_simp
                  go_at_call 7
                  refine (ag_impl _ _ _ _ _ _ (prs_sps' j.own (by have := HXl.out; omega)) (Nat.le_refl _)).mono ?_
                  rw [HA.out.1, HA.out.2.1, HA.out.2.2]
                  rintro e W73 ⟨rfl, b1⟩
                  have j1 := j.keep b1
                  refine hK.out _ _ j1.cells (fun hHeld => ?_)
                  clear hK K j b1
                  try simp only [Act.put, List.setIfInBounds_toArray, List.set_cons_zero, List.set_cons_succ, List.getElem_toArray, List.getElem_cons_zero, List.getElem_cons_succ]
                  have j := j1
                  clear j1
                  refine wpAnyH_take (i := 7) (v := ?_) rfl (by kernel_rfl) (by kernel_rfl) (by kernel_rfl) (fun _ _ _ h => h) (Or.inl ⟨by rfl, ?_⟩) (by assumption) ?_
                  rotate_left
                  · intro w hSw
                    (try dsimp only at hSw)
                    go_simp
                    all_goals with_reducible rfl
                  try simp only [Act.put, List.setIfInBounds_toArray, List.set_cons_zero, List.set_cons_succ, List.getElem_toArray, List.getElem_cons_zero, List.getElem_cons_succ]
                  refine wpAnyH_take (i := 8) (v := ?_) rfl (by kernel_rfl) (by kernel_rfl) (by kernel_rfl) (fun _ _ _ h => h) (Or.inl ⟨by rfl, ?_⟩) (by assumption) ?_
                  rotate_left
                  · intro w hSw
                    (try dsimp only at hSw)
                    go_simp
                    all_goals with_reducible rfl
                  try simp only [Act.put, List.setIfInBounds_toArray, List.set_cons_zero, List.set_cons_succ, List.getElem_toArray, List.getElem_cons_zero, List.getElem_cons_succ]
                  refine wpAnyH_take (i := 9) (v := ?_) rfl (by kernel_rfl) (by kernel_rfl) (by kernel_rfl) (fun _ _ _ h => h) (Or.inl ⟨by rfl, ?_⟩) (by assumption) ?_
                  rotate_left
                  · intro w hSw
                    (try dsimp only at hSw)
                    go_simp
                    all_goals with_reducible rfl
                  try simp only [Act.put, List.setIfInBounds_toArray, List.set_cons_zero, List.set_cons_succ, List.getElem_toArray, List.getElem_cons_zero, List.getElem_cons_succ]
                  have hz := (j.s8 _ rfl).1
                  have u0 := hz.c0
                  have u1 := hz.c1
                  have v0 := hz.f0
                  have v1 := hz.f1
                  have hF := j.fin (.int .i64 x) (.int .i64 y)
                  refine wpAnyH_ready (rs := [11]) (by kernel_rfl) (by simp) ?_
                  refine AllReadyH.cons rfl (fun K hK => ?_) AllReadyH.nil
                  go_simp
                  skip
                  refine hK.out _ _ (hF.1) (fun hHeld => ?_)
                  clear hK K
                  try simp only [Act.put, List.setIfInBounds_toArray, List.set_cons_zero, List.set_cons_succ, List.getElem_toArray, List.getElem_cons_zero, List.getElem_cons_succ]
                  refine wpAnyH_take (i := 12) (v := ?_) rfl (by kernel_rfl) (by kernel_rfl) (by kernel_rfl) (fun _ _ _ h => h) (Or.inl ⟨by rfl, ?_⟩) (by assumption) ?_
                  rotate_left
                  · intro w hSw
                    (try dsimp only at hSw)
                    go_simp
                    all_goals with_reducible rfl
                  try simp only [Act.put, List.setIfInBounds_toArray, List.set_cons_zero, List.set_cons_succ, List.getElem_toArray, List.getElem_cons_zero, List.getElem_cons_succ]
                  refine wpAnyH_done (by kernel_rfl) ?_ _
                  clear hHeld u0 u1 v0 v1 hz j
                  obtain ⟨⟨q0, q1⟩, ⟨p0, p1⟩, bS⟩ := hF
                  generalize (World.setCell (World.setCell W73 _ _) _ _) = WS at *
                  go_wp2
                  go_ret
                  exact ⟨ret_bool (by first | rfl | (simp; done)), bS⟩

/-! ### THE ROW's STEP: WRITTEN OUT: LEAVE IT -/
set_option maxRecDepth 100000 in
theorem lifted (os : Os) (started : os.Started) (H : Type) (enc : TypeId × Value → H) :
    ReturnsInHanded {} Try.checked os 3 .any (Rows.fnAgreedSpanAddSpec.pre6 enc Try.prog Try.f3 Rows.fnAgreedSpanAddRow.domain false) (Rows.fnAgreedSpanAddSpec.post enc Try.prog Try.f3 false true false false) := by
  refine returnsInHanded_of_change (C := Try.checked) own started (by kernel_rfl) Try.func3
    (ChangeSpec.witness6 (enc := enc) (C := Try.checked) false ⟨#[], #[.slice none 0 0], []⟩ 8 (by kernel_rfl) (by kernel_rfl) (by kernel_rfl) (by kernel_rfl)) ?_
  intro W base args ds gs before hval0 hW hcnd _
  have hval : ∀ (j : Nat) t v, Try.f3.params[j]? = some t → args[j]? = some v → Value.okWide Try.prog W .any base t v := hval0
  have hW' := hW
  obtain ⟨p, q, hA0, hV, rfl, hfz, hnd⟩ := hW
  have hA : DataW.TrodAll enc Try.prog W 0 (fun _ => true) true Try.f3.params.toList args.toList ds p := hA0
  rw [Try.params3] at hA hval
  obtain ⟨v0, vs0, d0, ds0, p0, q0, hargs, rfl, rfl, h0, r0⟩ := trodAll_cons hA
  obtain ⟨rfl, rfl, rfl⟩ := trodAll_nil r0
  obtain rfl : args = #[v0] := by cases args; simp_all
  obtain ⟨rfl, rfl⟩ := trodVars_none hV
  obtain ⟨a0, len0, cap0, rfl⟩ := okWide_slice Try.underlying22 (hval 0 22 v0 rfl rfl)
  have k0 := h0
  have lt0 : ∀ x ∈ p0, x.block < W.heap.size := by obtain ⟨m, hm⟩ := k0; exact DataW.trod_lt m _ _ _ hm
  obtain ⟨z0, w0⟩ : ∃ zs, IsRow .u8 W a0 len0 cap0 zs := by
    obtain ⟨fuel, hf⟩ := h0
    rcases open_ints Try.underlying22 Try.underlying5 (by kernel_rfl) hf with ⟨hcs, _⟩ | ⟨x, l, c, zs, hcs, _, hl, hm, hz, _, hcell, hwz⟩
    · simp [Value.cells] at hcs
      obtain ⟨rfl, rfl, rfl⟩ := hcs
      exact ⟨[], .inl ⟨rfl, rfl, rfl, rfl⟩⟩
    · simp [Value.cells] at hcs
      obtain ⟨rfl, rfl, rfl⟩ := hcs
      exact ⟨zs, .inr ⟨_, rfl, hl, hm, by simpa using hz, hcell, hwz⟩⟩
  clear hA0 hval0
  refine (walk a0 len0 cap0 z0 W w0).mono fun e W' ⟨he, bel⟩ => ?_
  subst he
  exact ⟨_, rfl, _, _, _, [], _, [], hW', trodAll_mk1 (shut_bool Try.underlying4 _), (trodAll_cons_mk (Below.trod laidOut (by kernel_rfl) (of_decide_eq_true (by kernel_rfl)) k0 bel lt0) trodAll_mk0), rfl, bel.frame _, fun h => by cases h⟩

theorem over : Rows.fnAgreedSpanAddRow.holds Try.pinned (OpenSpec.ofChange Rows.fnAgreedSpanAddSpec) :=
  OpenClaim.holds_of_wide 3 Try.f3 rfl rfl rfl rfl rfl rfl rfl ⟨rfl, rfl, rfl, rfl, rfl⟩ rfl rfl rfl rfl rfl (by kernel_rfl) Try.func3 (by kernel_rfl)
    (of_decide_eq_true (by kernel_rfl)) (by unfold Func.isWrapper; first | (rw [if_pos (by decide +kernel)]; kernel_rfl) | (rw [if_neg (by decide +kernel)]; exact ⟨rfl, rfl⟩))
    (fun os started H enc _ => lifted os started H enc)

/-- ████ THE STATEMENT ████ -/
theorem proved : Rows.FnAgreedSpanAddSaid := over
#print axioms proved
end Go.Proofs.Ytlehpfcealohoaa.fnAgreedSpanAdd
