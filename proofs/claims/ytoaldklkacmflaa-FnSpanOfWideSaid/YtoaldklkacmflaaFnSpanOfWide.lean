/-
  PROVED: FnSpanOfWide: for every input the law returns true, and the input reads as it did. No condition.
  The frame is as the kit prints it (proof-skeleton.mjs); the walk is mine.
-/
import Derived.Test.YtoaldklkacmflaaRows
import Derived.Test.YtoaldklkacmflaaLq
import Derived.Test.YtoaldklkacmflaaDrawO
import Derived.WalkKit
import Derived.ProofKit
import Derived.OpenShut
import Derived.ShutString
import Derived.ChangeOld
import Derived.Below
namespace Go.Proofs.Ytoaldklkacmflaa.fnSpanOfWide
open Go.ChangeShapes Go.WideShapes Go.ChangeAt Go.RowKit
open Go.ChangeMaps (open_string shut_string)
set_option linter.unusedVariables false

theorem own : ownKnob Try.prog.godebug = none := by kernel_rfl
theorem laidOut : laidOutB Try.prog = true := by kernel_rfl

/-- WHAT THE WALK IS TOLD OF A SLICE OF INTEGERS THAT CAME IN: it is nil; or it leads to a row of 'cap' cells, the numbers 'zs' (the first 'len' are its elements, the rest its spare room), each fitting its kind. -/
def IsRow (k : IntKind) (w : World) (a : Option Addr) (len cap : Nat) (zs : List Int) : Prop :=
  (a = none ∧ len = 0 ∧ cap = 0 ∧ zs = []) ∨
  ∃ x, a = some x ∧ len ≤ cap ∧ cap ≤ maxLen ∧ zs.length = cap ∧ (∀ i, i < zs.length → w.cell? (x.add i) = some (.int k (zs.getD i 0))) ∧ ∀ n ∈ zs, (Lit.int k n).wf = true

/-! ### STEP 1: THE WALK: the Go text returns true, AND WRITES NOTHING THAT WAS THERE: 'Below w.heap.size w w'' (Derived/Below.lean: '.refl', '.alloc', '.drew', '.setCell' at a new block, '.trans'). Open each 'IsRow' by 'rcases' AHEAD of 'go_enter'; part every test ahead of the walk. -/
set_option maxRecDepth 100000 in
set_option maxHeartbeats 4000000 in
theorem walk (a0 : Option Addr) (len0 cap0 : Nat) (z0 : List Int) (w : World) (w0 : IsRow .u8 w a0 len0 cap0 z0) :
    Calls Try.prog 8 #[.slice a0 len0 cap0] w fun e w' => e = .returned (.bool true) ∧ Below w.heap.size w w' := by
  by_cases hl : 1048576 < len0
  · have hl' : (1048576 : Int) < (len0 : Int) := by omega
    clear w0 hl
    go_enter Try.func8, Try.ntmps8
    go_wp2
    go_ret
    exact ⟨rfl, Below.refl _ _⟩
  have hl' : ¬ (1048576 : Int) < (len0 : Int) := by omega
  obtain ⟨hc, hcap⟩ := code_of w0 (by omega)
  clear w0 hl
  go_enter Try.func8, Try.ntmps8
  go_wp2_with fail
  refine (DrawSpanOf_any w a0 len0 cap0 hc hcap).mono ?_
  rintro e w1 ⟨a, n, c, l, rfl, hL, hk, hnc, hcm, hsm, bl⟩
  clear hc hcap
  have st := Lq.mk hL bl
  clear hL bl hsm hk
  rcases hv : O.sok l with _ | _
  · go_wp2_with fail
    refine (SPi_no _ _ _ _ _ _ hv st.here (Nat.le_refl _)).mono ?_
    rintro e w2 ⟨rfl, b2⟩
    have st2 := (st.b b2).al (.cells #[.int .i64 0, .int .i64 0] 30)
    have d2 := C2.new w2 0 0 30
    clear st b2
    go_wp2_with fail
    refine (SPs_no _ _ _ _ _ _ hv (st2.here.more (by simp)) (Nat.le_refl _)).mono ?_
    rintro e w3 ⟨rfl, b3⟩
    have st3 := (st2.b b3).al (.cells #[.int .i64 0, .int .i64 0] 30)
    have d3 := (d2.b b3).al (.cells #[.int .i64 0, .int .i64 0] 30)
    have e30 := (d2.b b3).c0
    have e31 := (d2.b b3).c1
    have l31 := (d2.b b3).lt
    have c30 := d3.c0
    have c31 := d3.c1
    clear st2 b3 hv d2 d3
    go_wp2
    go_ret
    exact ⟨by first | rfl | simp, st3.bel⟩
  have HS := O.sok_of hv
  obtain ⟨hl, h0, h1, h2, h3⟩ := O.vo_at HS.1
  obtain ⟨rfl, b, off, rfl, s1⟩ := L4.of st hl
  have hbd := O.o_bd HS.1
  have hok := HS.2
  unfold V.okN at hok
  have hlo : O.lo l = O.of l - (O.de l + 1) / 2 := rfl
  have hhi : O.hi l = O.of l + (O.de l + 1) / 2 := rfl
  have HLO := Lib.hid hlo
  have HHI := Lib.hid hhi
  have HV := Lib.hid HS
  clear st hl hlo hhi HS
  go_wp2_with fail
  refine (SPi_yes _ _ _ _ _ _ hv s1.q.here (Nat.le_refl _)).mono ?_
  rintro e w2 ⟨rfl, b2⟩
  have s2 := (s1.b b2).al (.cells #[.int .i64 (O.lo l), .int .i64 (O.hi l)] 30)
  have d2 := C2.new w2 (O.lo l) (O.hi l) 30
  clear s1 b2
  go_wp2_with fail
  refine (SPs_yes _ _ _ _ _ _ hv s2.q.here (Nat.le_refl _)).mono ?_
  rintro e w3 ⟨rfl, b3⟩
  have s3 := (s2.b b3).al (.cells #[.int .i64 (O.lo l), .int .i64 (O.hi l)] 30)
  have d3 := (d2.b b3).al (.cells #[.int .i64 (O.lo l), .int .i64 (O.hi l)] 30)
  have e30 := (d2.b b3).c0
  have e31 := (d2.b b3).c1
  have l31 := (d2.b b3).lt
  have c30 := d3.c0
  have c31 := d3.c1
  have hD : w2.heap.size < w3.heap.size := l31
  clear s2 b3 d2 hv
  have q3 := s3.c3
  by_cases e3 : 200000000999999 < L.g l 3 + 20
  · go_wp2
    go_ret
    exact ⟨by first | rfl | simp, s3.q.bel⟩
  have q0 := s3.c0
  have q1 := s3.c1
  have q2 := s3.c2
  have e20 : IntKind.i64.wrap (L.g l 3 + 20) = L.g l 3 + 20 := IntWalk.i64_in _ (by omega)
  have hv' : O.vo [L.g l 0, L.g l 1, L.g l 2, L.g l 3 + 20] = true := O.vo_four h0 h1 h2 (by omega)
  have hw : ∃ (X2 Y2 : Int) (r : Bool), (∀ B n c a (w' : World), Lst B w' a n [L.g l 0, L.g l 1, L.g l 2, L.g l 3 + 20] → B ≤ w'.heap.size → Calls Try.prog 19 #[.slice a n c] w' fun e w'' => e = .returned (.tuple #[.agg #[.int .i64 X2, .int .i64 Y2], .bool r]) ∧ Below w'.heap.size w' w'') ∧ (-1000000 ≤ X2 ∧ X2 ≤ 1000000 ∧ -1000000 ≤ Y2 ∧ Y2 ≤ 1000000) ∧ (r = true → O.hi l - O.lo l ≤ Y2 - X2) := by
    rcases hs : O.sok [L.g l 0, L.g l 1, L.g l 2, L.g l 3 + 20] with _ | _
    · exact ⟨0, 0, false, fun B n c a w' h hB => SPi_no B n c a _ w' hs h hB, by omega, fun h => by cases h⟩
    · refine ⟨_, _, true, fun B n c a w' h hB => SPi_yes B n c a _ w' hs h hB, ?_, fun _ => ?_⟩
      · have := (O.sok_of hs).2; unfold V.okN at this; omega
      · have hd : O.de l ≤ O.de [L.g l 0, L.g l 1, L.g l 2, L.g l 3 + 20] := by show O.de4 _ _ _ _ ≤ O.de4 _ _ _ _; simp only [O.de4, L.g, List.getD_cons_zero, List.getD_cons_succ]; omega
        have := HLO.out
        have := HHI.out
        unfold O.lo O.hi
        omega
  obtain ⟨X2, Y2, r, ks, hXY, hw⟩ := hw
  have KS := Lib.hid ks
  have HW := Lib.hid hw
  clear ks hw
  go_wp2_with fail
  have LV : LS w (w3.alloc (.cells #[.int .i64 (O.lo l), .int .i64 (O.hi l)] 30)).drew b off l w2.heap.size (O.lo l) (O.hi l) := ⟨s3.drew, d3.s ((Same.refl _).drewN 1)⟩
  have HA := LV.all
  refine wp_region_held_drew (S := (fun w' => w'.cell? ⟨b, off, none⟩ = some (.int .i64 (L.g l 0)) ∧ w'.cell? ⟨b, off + 1, none⟩ = some (.int .i64 (L.g l 1)) ∧ w'.cell? ⟨b, off + 2, none⟩ = some (.int .i64 (L.g l 2)) ∧ w'.cell? ⟨b, off + 3, none⟩ = some (.int .i64 (L.g l 3)) ∧ LS w w' b off l w2.heap.size (O.lo l) (O.hi l))) (by kernel_rfl) (HA) (fun hHeld => ?_)
  generalize (w3.alloc (.cells #[.int .i64 (O.lo l), .int .i64 (O.hi l)] 30)).drew = V0 at *
  clear s3 d3 q0 q1 q2 q3 e30 e31 c30 c31 HA
  have HV0 : w2.heap.size < V0.heap.size ∧ w.heap.size ≤ V0.heap.size ∧ b < V0.heap.size := ⟨LV.d.lt, LV.q.q.bel.size, LV.q.lt⟩
  refine wpAnyH_take (i := 0) (v := ?_) rfl (by kernel_rfl) (by kernel_rfl) (by kernel_rfl) (fun _ _ _ h => h) (Or.inl ⟨by rfl, ?_⟩) (by assumption) ?_
  rotate_left
  · intro w hSw
    (try dsimp only at hSw)
    go_simp
    all_goals with_reducible rfl
  try simp only [Act.put, List.setIfInBounds_toArray, List.set_cons_zero, List.set_cons_succ, List.getElem_toArray, List.getElem_cons_zero]
  refine wpAnyH_take (i := 1) (v := ?_) rfl (by kernel_rfl) (by kernel_rfl) (by kernel_rfl) (fun _ _ _ h => h) (Or.inl ⟨by rfl, ?_⟩) (by assumption) ?_
  rotate_left
  · intro w hSw
    (try dsimp only at hSw)
    go_simp
    all_goals with_reducible rfl
  try simp only [Act.put, List.setIfInBounds_toArray, List.set_cons_zero, List.set_cons_succ, List.getElem_toArray, List.getElem_cons_zero, List.getElem_cons_succ]
  refine wpAnyH_take (i := 2) (v := ?_) rfl (by kernel_rfl) (by kernel_rfl) (by kernel_rfl) (fun _ _ _ h => h) (Or.inl ⟨by rfl, ?_⟩) (by assumption) ?_
  rotate_left
  · intro w hSw
    (try dsimp only at hSw)
    go_simp
    all_goals with_reducible rfl
  try simp only [Act.put, List.setIfInBounds_toArray, List.set_cons_zero, List.set_cons_succ, List.getElem_toArray, List.getElem_cons_zero, List.getElem_cons_succ]
  refine wpAnyH_take (i := 3) (v := ?_) rfl (by kernel_rfl) (by kernel_rfl) (by kernel_rfl) (fun _ _ _ h => h) (Or.inl ⟨by rfl, ?_⟩) (by assumption) ?_
  rotate_left
  · intro w hSw
    (try dsimp only at hSw)
    go_simp
    all_goals with_reducible rfl
  try simp only [Act.put, List.setIfInBounds_toArray, List.set_cons_zero, List.set_cons_succ, List.getElem_toArray, List.getElem_cons_zero, List.getElem_cons_succ]
  refine wpAnyH_take (i := 4) (v := ?_) rfl (by kernel_rfl) (by kernel_rfl) (by kernel_rfl) (fun _ _ _ h => h) (Or.inl ⟨by rfl, ?_⟩) (by assumption) ?_
  rotate_left
  · intro w hSw
    (try dsimp only at hSw)
    go_simp
    all_goals with_reducible rfl
  try simp only [Act.put, List.setIfInBounds_toArray, List.set_cons_zero, List.set_cons_succ, List.getElem_toArray, List.getElem_cons_zero, List.getElem_cons_succ]
  refine wpAnyH_take (i := 5) (v := ?_) rfl (by kernel_rfl) (by kernel_rfl) (by kernel_rfl) (fun _ _ _ h => h) (Or.inl ⟨by rfl, ?_⟩) (by assumption) ?_
  rotate_left
  · intro w hSw
    (try dsimp only at hSw)
    go_simp
    all_goals with_reducible rfl
  try simp only [Act.put, List.setIfInBounds_toArray, List.set_cons_zero, List.set_cons_succ, List.getElem_toArray, List.getElem_cons_zero, List.getElem_cons_succ]
  refine wpAnyH_take (i := 6) (v := ?_) rfl (by kernel_rfl) (by kernel_rfl) (by kernel_rfl) (fun _ _ _ h => h) (Or.inl ⟨by rfl, ?_⟩) (by assumption) ?_
  rotate_left
  · intro w hSw
    (try dsimp only at hSw)
    go_simp
    all_goals with_reducible rfl
  try simp only [Act.put, List.setIfInBounds_toArray, List.set_cons_zero, List.set_cons_succ, List.getElem_toArray, List.getElem_cons_zero, List.getElem_cons_succ]
  refine wpAnyH_take (i := 7) (v := ?_) rfl (by kernel_rfl) (by kernel_rfl) (by kernel_rfl) (fun _ _ _ h => h) (Or.inl ⟨by rfl, ?_⟩) (by assumption) ?_
  rotate_left
  · intro w hSw
    (try dsimp only at hSw)
    go_simp
    all_goals with_reducible rfl
  try simp only [Act.put, List.setIfInBounds_toArray, List.set_cons_zero, List.set_cons_succ, List.getElem_toArray, List.getElem_cons_zero, List.getElem_cons_succ]
  refine wpAnyH_take (i := 8) (v := ?_) rfl (by kernel_rfl) (by kernel_rfl) (by kernel_rfl) (fun _ _ _ h => h) (Or.inl ⟨by rfl, ?_⟩) (by assumption) ?_
  rotate_left
  · intro w hSw
    (try dsimp only at hSw)
    go_simp
    all_goals with_reducible rfl
  try simp only [Act.put, List.setIfInBounds_toArray, List.set_cons_zero, List.set_cons_succ, List.getElem_toArray, List.getElem_cons_zero, List.getElem_cons_succ]
  refine wpAnyH_take (i := 9) (v := ?_) rfl (by kernel_rfl) (by kernel_rfl) (by kernel_rfl) (fun _ _ _ h => h) (Or.inl ⟨by rfl, ?_⟩) (by assumption) ?_
  rotate_left
  · intro w hSw
    (try dsimp only at hSw)
    go_simp
    all_goals with_reducible rfl
  try simp only [Act.put, List.setIfInBounds_toArray, List.set_cons_zero, List.set_cons_succ, List.getElem_toArray, List.getElem_cons_zero, List.getElem_cons_succ]
  refine wpAnyH_take (i := 10) (v := ?_) rfl (by kernel_rfl) (by kernel_rfl) (by kernel_rfl) (fun _ _ _ h => h) (Or.inl ⟨by rfl, ?_⟩) (by assumption) ?_
  rotate_left
  · intro w hSw
    (try dsimp only at hSw)
    go_simp
    all_goals with_reducible rfl
  try simp only [Act.put, List.setIfInBounds_toArray, List.set_cons_zero, List.set_cons_succ, List.getElem_toArray, List.getElem_cons_zero, List.getElem_cons_succ]
  refine wpAnyH_take (i := 11) (v := ?_) rfl (by kernel_rfl) (by kernel_rfl) (by kernel_rfl) (fun _ _ _ h => h) (Or.inl ⟨by rfl, ?_⟩) (by assumption) ?_
  rotate_left
  · intro w hSw
    (try dsimp only at hSw)
    go_simp
    all_goals with_reducible rfl
  try simp only [Act.put, List.setIfInBounds_toArray, List.set_cons_zero, List.set_cons_succ, List.getElem_toArray, List.getElem_cons_zero, List.getElem_cons_succ]
  refine wpAnyH_take (i := 12) (v := ?_) rfl (by kernel_rfl) (by kernel_rfl) (by kernel_rfl) (fun _ _ _ h => h) (Or.inl ⟨by rfl, ?_⟩) (by assumption) ?_
  rotate_left
  · intro w hSw
    (try dsimp only at hSw)
    go_simp
    all_goals with_reducible rfl
  try simp only [Act.put, List.setIfInBounds_toArray, List.set_cons_zero, List.set_cons_succ, List.getElem_toArray, List.getElem_cons_zero, List.getElem_cons_succ]
  refine wpAnyH_ready (rs := [13, 18]) (by kernel_rfl) (by simp) ?_
  refine AllReadyH.cons rfl (fun K hK => ?_) (AllReadyH.cons rfl (fun K hK => ?_) AllReadyH.nil)
  · go_simp
    have LA := LV.al (.cells #[.int .i64 (L.g l 0), .int .i64 (L.g l 1), .int .i64 (L.g l 2), .int .i64 (L.g l 3 + 20)] 3)
    have hL := lst_four V0 (L.g l 0) (L.g l 1) (L.g l 2) (L.g l 3 + 20) 3
    have bA : Below V0.heap.size V0 (V0.alloc (.cells #[.int .i64 (L.g l 0), .int .i64 (L.g l 1), .int .i64 (L.g l 2), .int .i64 (L.g l 3 + 20)] 3)) := (Below.refl _ _).alloc (Nat.le_refl _) _
    have hB : V0.heap.size + 1 ≤ (V0.alloc (.cells #[.int .i64 (L.g l 0), .int .i64 (L.g l 1), .int .i64 (L.g l 2), .int .i64 (L.g l 3 + 20)] 3)).heap.size := by simp
    refine hK.out _ _ LA.all (fun hHeld => ?_)
    clear hK K LV
    try simp only [Act.put, List.setIfInBounds_toArray, List.set_cons_zero, List.set_cons_succ, List.getElem_toArray, List.getElem_cons_zero, List.getElem_cons_succ]
    refine wpAnyH_ready (rs := [14, 18]) (by kernel_rfl) (by simp) ?_
    refine AllReadyH.cons rfl (fun K hK => ?_) (AllReadyH.cons rfl (fun K hK => ?_) AllReadyH.nil)
    · go_simp
      (go_at_call 19; refine (KS.out _ _ _ _ _ hL hB).mono ?_; rintro e w5 ⟨rfl, b5⟩)
      have L5 := LA.b b5
      have bb := bA.trans (b5.mono bA.size)
      refine hK.out _ _ L5.all (fun hHeld => ?_)
      clear hK K LA hL
      try simp only [Act.put, List.setIfInBounds_toArray, List.set_cons_zero, List.set_cons_succ, List.getElem_toArray, List.getElem_cons_zero, List.getElem_cons_succ]
      refine wpAnyH_take (i := 15) (v := ?_) rfl (by kernel_rfl) (by kernel_rfl) (by kernel_rfl) (fun _ _ _ h => h) (Or.inl ⟨by rfl, ?_⟩) (by assumption) ?_
      rotate_left
      · intro w hSw
        (try dsimp only at hSw)
        go_simp
        all_goals with_reducible rfl
      try simp only [Act.put, List.setIfInBounds_toArray, List.set_cons_zero, List.set_cons_succ, List.getElem_toArray, List.getElem_cons_zero, List.getElem_cons_succ]
      refine wpAnyH_take (i := 16) (v := ?_) rfl (by kernel_rfl) (by kernel_rfl) (by kernel_rfl) (fun _ _ _ h => h) (Or.inl ⟨by rfl, ?_⟩) (by assumption) ?_
      rotate_left
      · intro w hSw
        (try dsimp only at hSw)
        go_simp
        all_goals with_reducible rfl
      try simp only [Act.put, List.setIfInBounds_toArray, List.set_cons_zero, List.set_cons_succ, List.getElem_toArray, List.getElem_cons_zero, List.getElem_cons_succ]
      refine wpAnyH_take (i := 17) (v := ?_) rfl (by kernel_rfl) (by kernel_rfl) (by kernel_rfl) (fun _ _ _ h => h) (Or.inl ⟨by rfl, ?_⟩) (by assumption) ?_
      rotate_left
      · intro w hSw
        (try dsimp only at hSw)
        go_simp
        all_goals with_reducible rfl
      try simp only [Act.put, List.setIfInBounds_toArray, List.set_cons_zero, List.set_cons_succ, List.getElem_toArray, List.getElem_cons_zero, List.getElem_cons_succ]
      have L6 := L5.al (.cells #[.int .i64 0, .int .i64 0] 30)
      have z6 := Z2.new w5 30
      have hE : V0.heap.size ≤ w5.heap.size := bb.size
      have b6 := bb.alloc hE (.cells #[.int .i64 0, .int .i64 0] 30)
      refine wpAnyH_ready (rs := [18]) (by kernel_rfl) (by simp) ?_
      refine AllReadyH.cons rfl (fun K hK => ?_) AllReadyH.nil
      go_simp
      skip
      refine hK.out _ _ (L6.all) (fun hHeld => ?_)
      clear hK K
      try simp only [Act.put, List.setIfInBounds_toArray, List.set_cons_zero, List.set_cons_succ, List.getElem_toArray, List.getElem_cons_zero, List.getElem_cons_succ]
      generalize w5.alloc (.cells #[.int .i64 0, .int .i64 0] 30) = X6 at *
      generalize w5.heap.size = EE at *
      have z60 := z6.c0
      have z61 := z6.c1
      have y60 := z6.f0
      have y61 := z6.f1
      have hc := set2 (x := .int .i64 X2) (y := .int .i64 Y2) z6
      have hne : w2.heap.size ≠ EE := by omega
      have d90 := (hc.2.2 w2.heap.size 0 hne).trans L6.d.c0
      have d91 := (hc.2.2 w2.heap.size 1 hne).trans L6.d.c1
      have c90 := hc.1
      have c91 := hc.2.1
      have hfin : Below w.heap.size w ((X6.setCell ⟨EE, 0, none⟩ (.int .i64 X2)).setCell ⟨EE, 1, none⟩ (.int .i64 Y2)) := (L6.q.q.bel.setCell (p := ⟨EE, 0, none⟩) (show w.heap.size ≤ EE by omega) _).setCell (p := ⟨EE, 1, none⟩) (show w.heap.size ≤ EE by omega) _
      refine wpAnyH_ready (rs := [19]) (by kernel_rfl) (by simp) ?_
      refine AllReadyH.cons rfl (fun K hK => ?_) AllReadyH.nil
      go_simp
      have hneb : b ≠ EE := by omega
      have L9 := L6.set (u := .int .i64 X2) (v := .int .i64 Y2) z6 (show w.heap.size ≤ EE by omega) hneb hne
      refine hK.out _ _ L9.all (fun hHeld => ?_)
      clear hK K
      try simp only [Act.put, List.setIfInBounds_toArray, List.set_cons_zero, List.set_cons_succ, List.getElem_toArray, List.getElem_cons_zero, List.getElem_cons_succ]
      refine wpAnyH_take (i := 20) (v := ?_) rfl (by kernel_rfl) (by kernel_rfl) (by kernel_rfl) (fun _ _ _ h => h) (Or.inl ⟨by rfl, ?_⟩) (by assumption) ?_
      rotate_left
      · intro w hSw
        (try dsimp only at hSw)
        go_simp
        all_goals with_reducible rfl
      try simp only [Act.put, List.setIfInBounds_toArray, List.set_cons_zero, List.set_cons_succ, List.getElem_toArray, List.getElem_cons_zero, List.getElem_cons_succ]
      refine wpAnyH_done (by kernel_rfl) ?_ _
      clear hHeld hc L6 L9 z6 b6 z60 z61 y60 y61 HV0 hE
      generalize (X6.setCell ⟨EE, 0, none⟩ (.int .i64 X2)).setCell ⟨EE, 1, none⟩ (.int .i64 Y2) = WX at *
      rcases r with _ | _
      · go_wp2
        go_ret
        exact ⟨by first | rfl | simp, hfin⟩
      · have hge := HW.out rfl
        have hge2 : decide (O.hi l - O.lo l ≤ Y2 - X2) = true := decide_eq_true hge
        clear hge
        go_wp2
        go_ret
        exact ⟨by first | rfl | simp, hfin⟩
    · go_simp
      have L5 := LA.al (.cells #[.int .i64 0, .int .i64 0] 30)
      have z5 := Z2.new (V0.alloc (.cells #[.int .i64 (L.g l 0), .int .i64 (L.g l 1), .int .i64 (L.g l 2), .int .i64 (L.g l 3 + 20)] 3)) 30
      have hEq : (V0.alloc (.cells #[.int .i64 (L.g l 0), .int .i64 (L.g l 1), .int .i64 (L.g l 2), .int .i64 (L.g l 3 + 20)] 3)).heap.size = V0.heap.size + 1 := by simp
      rw [hEq] at z5
      have b6 := bA.alloc bA.size (.cells #[.int .i64 0, .int .i64 0] 30)
      have hL5 := hL.below (show Below (V0.heap.size + 1) (V0.alloc (.cells #[.int .i64 (L.g l 0), .int .i64 (L.g l 1), .int .i64 (L.g l 2), .int .i64 (L.g l 3 + 20)] 3)) ((V0.alloc (.cells #[.int .i64 (L.g l 0), .int .i64 (L.g l 1), .int .i64 (L.g l 2), .int .i64 (L.g l 3 + 20)] 3)).alloc (.cells #[.int .i64 0, .int .i64 0] 30)) from (Below.refl _ _).alloc hB _)
      have hB5 : V0.heap.size + 1 ≤ ((V0.alloc (.cells #[.int .i64 (L.g l 0), .int .i64 (L.g l 1), .int .i64 (L.g l 2), .int .i64 (L.g l 3 + 20)] 3)).alloc (.cells #[.int .i64 0, .int .i64 0] 30)).heap.size := by simp
      have hE : V0.heap.size ≤ V0.heap.size + 1 := by omega
      refine hK.out _ _ L5.all (fun hHeld => ?_)
      clear hK K LA hL hEq bA hB
      try simp only [Act.put, List.setIfInBounds_toArray, List.set_cons_zero, List.set_cons_succ, List.getElem_toArray, List.getElem_cons_zero, List.getElem_cons_succ]
      generalize (V0.alloc (.cells #[.int .i64 (L.g l 0), .int .i64 (L.g l 1), .int .i64 (L.g l 2), .int .i64 (L.g l 3 + 20)] 3)).alloc (.cells #[.int .i64 0, .int .i64 0] 30) = X5 at *
      refine wpAnyH_ready (rs := [14]) (by kernel_rfl) (by simp) ?_
      refine AllReadyH.cons rfl (fun K hK => ?_) AllReadyH.nil
      go_simp
      (go_at_call 19; refine (KS.out _ _ _ _ _ hL5 hB5).mono ?_; rintro e X6 ⟨rfl, b5⟩)
      refine hK.out _ _ ((L5.b b5).all) (fun hHeld => ?_)
      clear hK K
      try simp only [Act.put, List.setIfInBounds_toArray, List.set_cons_zero, List.set_cons_succ, List.getElem_toArray, List.getElem_cons_zero, List.getElem_cons_succ]
      have L6 := L5.b b5
      have z6 := z5.b b5
      replace b6 := b6.trans (b5.mono b6.size)
      clear L5 z5 b5 hL5 hB5
      refine wpAnyH_take (i := 15) (v := ?_) rfl (by kernel_rfl) (by kernel_rfl) (by kernel_rfl) (fun _ _ _ h => h) (Or.inl ⟨by rfl, ?_⟩) (by assumption) ?_
      rotate_left
      · intro w hSw
        (try dsimp only at hSw)
        go_simp
        all_goals with_reducible rfl
      try simp only [Act.put, List.setIfInBounds_toArray, List.set_cons_zero, List.set_cons_succ, List.getElem_toArray, List.getElem_cons_zero, List.getElem_cons_succ]
      refine wpAnyH_take (i := 16) (v := ?_) rfl (by kernel_rfl) (by kernel_rfl) (by kernel_rfl) (fun _ _ _ h => h) (Or.inl ⟨by rfl, ?_⟩) (by assumption) ?_
      rotate_left
      · intro w hSw
        (try dsimp only at hSw)
        go_simp
        all_goals with_reducible rfl
      try simp only [Act.put, List.setIfInBounds_toArray, List.set_cons_zero, List.set_cons_succ, List.getElem_toArray, List.getElem_cons_zero, List.getElem_cons_succ]
      refine wpAnyH_take (i := 17) (v := ?_) rfl (by kernel_rfl) (by kernel_rfl) (by kernel_rfl) (fun _ _ _ h => h) (Or.inl ⟨by rfl, ?_⟩) (by assumption) ?_
      rotate_left
      · intro w hSw
        (try dsimp only at hSw)
        go_simp
        all_goals with_reducible rfl
      try simp only [Act.put, List.setIfInBounds_toArray, List.set_cons_zero, List.set_cons_succ, List.getElem_toArray, List.getElem_cons_zero, List.getElem_cons_succ]
      generalize V0.heap.size + 1 = EE at *
      have z60 := z6.c0
      have z61 := z6.c1
      have y60 := z6.f0
      have y61 := z6.f1
      have hc := set2 (x := .int .i64 X2) (y := .int .i64 Y2) z6
      have hne : w2.heap.size ≠ EE := by omega
      have d90 := (hc.2.2 w2.heap.size 0 hne).trans L6.d.c0
      have d91 := (hc.2.2 w2.heap.size 1 hne).trans L6.d.c1
      have c90 := hc.1
      have c91 := hc.2.1
      have hfin : Below w.heap.size w ((X6.setCell ⟨EE, 0, none⟩ (.int .i64 X2)).setCell ⟨EE, 1, none⟩ (.int .i64 Y2)) := (L6.q.q.bel.setCell (p := ⟨EE, 0, none⟩) (show w.heap.size ≤ EE by omega) _).setCell (p := ⟨EE, 1, none⟩) (show w.heap.size ≤ EE by omega) _
      refine wpAnyH_ready (rs := [19]) (by kernel_rfl) (by simp) ?_
      refine AllReadyH.cons rfl (fun K hK => ?_) AllReadyH.nil
      go_simp
      have hneb : b ≠ EE := by omega
      have L9 := L6.set (u := .int .i64 X2) (v := .int .i64 Y2) z6 (show w.heap.size ≤ EE by omega) hneb hne
      refine hK.out _ _ L9.all (fun hHeld => ?_)
      clear hK K
      try simp only [Act.put, List.setIfInBounds_toArray, List.set_cons_zero, List.set_cons_succ, List.getElem_toArray, List.getElem_cons_zero, List.getElem_cons_succ]
      refine wpAnyH_take (i := 20) (v := ?_) rfl (by kernel_rfl) (by kernel_rfl) (by kernel_rfl) (fun _ _ _ h => h) (Or.inl ⟨by rfl, ?_⟩) (by assumption) ?_
      rotate_left
      · intro w hSw
        (try dsimp only at hSw)
        go_simp
        all_goals with_reducible rfl
      try simp only [Act.put, List.setIfInBounds_toArray, List.set_cons_zero, List.set_cons_succ, List.getElem_toArray, List.getElem_cons_zero, List.getElem_cons_succ]
      refine wpAnyH_done (by kernel_rfl) ?_ _
      clear hHeld hc L6 L9 z6 b6 z60 z61 y60 y61 HV0 hE
      generalize (X6.setCell ⟨EE, 0, none⟩ (.int .i64 X2)).setCell ⟨EE, 1, none⟩ (.int .i64 Y2) = WX at *
      rcases r with _ | _
      · go_wp2
        go_ret
        exact ⟨by first | rfl | simp, hfin⟩
      · have hge := HW.out rfl
        have hge2 : decide (O.hi l - O.lo l ≤ Y2 - X2) = true := decide_eq_true hge
        clear hge
        go_wp2
        go_ret
        exact ⟨by first | rfl | simp, hfin⟩
  · go_simp
    have LA := LV.al (.cells #[.int .i64 0, .int .i64 0] 30)
    have zA := Z2.new V0 30
    have bA : Below V0.heap.size V0 (V0.alloc (.cells #[.int .i64 0, .int .i64 0] 30)) := (Below.refl _ _).alloc (Nat.le_refl _) _
    refine hK.out _ _ LA.all (fun hHeld => ?_)
    clear hK K LV
    try simp only [Act.put, List.setIfInBounds_toArray, List.set_cons_zero, List.set_cons_succ, List.getElem_toArray, List.getElem_cons_zero, List.getElem_cons_succ]
    have hE : V0.heap.size ≤ V0.heap.size := Nat.le_refl _
    generalize V0.alloc (.cells #[.int .i64 0, .int .i64 0] 30) = X3 at *
    have hL := lst_four X3 (L.g l 0) (L.g l 1) (L.g l 2) (L.g l 3 + 20) 3
    have L4' := LA.al (.cells #[.int .i64 (L.g l 0), .int .i64 (L.g l 1), .int .i64 (L.g l 2), .int .i64 (L.g l 3 + 20)] 3)
    have z4 := zA.al (.cells #[.int .i64 (L.g l 0), .int .i64 (L.g l 1), .int .i64 (L.g l 2), .int .i64 (L.g l 3 + 20)] 3)
    have b4 := bA.alloc bA.size (.cells #[.int .i64 (L.g l 0), .int .i64 (L.g l 1), .int .i64 (L.g l 2), .int .i64 (L.g l 3 + 20)] 3)
    have hB : X3.heap.size + 1 ≤ (X3.alloc (.cells #[.int .i64 (L.g l 0), .int .i64 (L.g l 1), .int .i64 (L.g l 2), .int .i64 (L.g l 3 + 20)] 3)).heap.size := by simp
    refine wpAnyH_ready (rs := [13]) (by kernel_rfl) (by simp) ?_
    refine AllReadyH.cons rfl (fun K hK => ?_) AllReadyH.nil
    go_simp
    skip
    refine hK.out _ _ (L4'.all) (fun hHeld => ?_)
    clear hK K
    try simp only [Act.put, List.setIfInBounds_toArray, List.set_cons_zero, List.set_cons_succ, List.getElem_toArray, List.getElem_cons_zero, List.getElem_cons_succ]
    clear LA zA bA
    refine wpAnyH_ready (rs := [14]) (by kernel_rfl) (by simp) ?_
    refine AllReadyH.cons rfl (fun K hK => ?_) AllReadyH.nil
    go_simp
    (go_at_call 19; refine (KS.out _ _ _ _ _ hL hB).mono ?_; rintro e X6 ⟨rfl, b5⟩)
    refine hK.out _ _ ((L4'.b b5).all) (fun hHeld => ?_)
    clear hK K
    try simp only [Act.put, List.setIfInBounds_toArray, List.set_cons_zero, List.set_cons_succ, List.getElem_toArray, List.getElem_cons_zero, List.getElem_cons_succ]
    have L6 := L4'.b b5
    have z6 := z4.b b5
    have b6 := b4.trans (b5.mono b4.size)
    clear L4' z4 b5 hL hB b4
    refine wpAnyH_take (i := 15) (v := ?_) rfl (by kernel_rfl) (by kernel_rfl) (by kernel_rfl) (fun _ _ _ h => h) (Or.inl ⟨by rfl, ?_⟩) (by assumption) ?_
    rotate_left
    · intro w hSw
      (try dsimp only at hSw)
      go_simp
      all_goals with_reducible rfl
    try simp only [Act.put, List.setIfInBounds_toArray, List.set_cons_zero, List.set_cons_succ, List.getElem_toArray, List.getElem_cons_zero, List.getElem_cons_succ]
    refine wpAnyH_take (i := 16) (v := ?_) rfl (by kernel_rfl) (by kernel_rfl) (by kernel_rfl) (fun _ _ _ h => h) (Or.inl ⟨by rfl, ?_⟩) (by assumption) ?_
    rotate_left
    · intro w hSw
      (try dsimp only at hSw)
      go_simp
      all_goals with_reducible rfl
    try simp only [Act.put, List.setIfInBounds_toArray, List.set_cons_zero, List.set_cons_succ, List.getElem_toArray, List.getElem_cons_zero, List.getElem_cons_succ]
    refine wpAnyH_take (i := 17) (v := ?_) rfl (by kernel_rfl) (by kernel_rfl) (by kernel_rfl) (fun _ _ _ h => h) (Or.inl ⟨by rfl, ?_⟩) (by assumption) ?_
    rotate_left
    · intro w hSw
      (try dsimp only at hSw)
      go_simp
      all_goals with_reducible rfl
    try simp only [Act.put, List.setIfInBounds_toArray, List.set_cons_zero, List.set_cons_succ, List.getElem_toArray, List.getElem_cons_zero, List.getElem_cons_succ]
    generalize hEE : V0.heap.size = EE at hE z6 b6 ⊢
    replace hE : V0.heap.size ≤ EE := by omega
    replace b6 : Below V0.heap.size V0 X6 := by rw [hEE]; exact b6
    have z60 := z6.c0
    have z61 := z6.c1
    have y60 := z6.f0
    have y61 := z6.f1
    have hc := set2 (x := .int .i64 X2) (y := .int .i64 Y2) z6
    have hne : w2.heap.size ≠ EE := by omega
    have d90 := (hc.2.2 w2.heap.size 0 hne).trans L6.d.c0
    have d91 := (hc.2.2 w2.heap.size 1 hne).trans L6.d.c1
    have c90 := hc.1
    have c91 := hc.2.1
    have hfin : Below w.heap.size w ((X6.setCell ⟨EE, 0, none⟩ (.int .i64 X2)).setCell ⟨EE, 1, none⟩ (.int .i64 Y2)) := (L6.q.q.bel.setCell (p := ⟨EE, 0, none⟩) (show w.heap.size ≤ EE by omega) _).setCell (p := ⟨EE, 1, none⟩) (show w.heap.size ≤ EE by omega) _
    refine wpAnyH_ready (rs := [19]) (by kernel_rfl) (by simp) ?_
    refine AllReadyH.cons rfl (fun K hK => ?_) AllReadyH.nil
    go_simp
    have hneb : b ≠ EE := by omega
    have L9 := L6.set (u := .int .i64 X2) (v := .int .i64 Y2) z6 (show w.heap.size ≤ EE by omega) hneb hne
    refine hK.out _ _ L9.all (fun hHeld => ?_)
    clear hK K
    try simp only [Act.put, List.setIfInBounds_toArray, List.set_cons_zero, List.set_cons_succ, List.getElem_toArray, List.getElem_cons_zero, List.getElem_cons_succ]
    refine wpAnyH_take (i := 20) (v := ?_) rfl (by kernel_rfl) (by kernel_rfl) (by kernel_rfl) (fun _ _ _ h => h) (Or.inl ⟨by rfl, ?_⟩) (by assumption) ?_
    rotate_left
    · intro w hSw
      (try dsimp only at hSw)
      go_simp
      all_goals with_reducible rfl
    try simp only [Act.put, List.setIfInBounds_toArray, List.set_cons_zero, List.set_cons_succ, List.getElem_toArray, List.getElem_cons_zero, List.getElem_cons_succ]
    refine wpAnyH_done (by kernel_rfl) ?_ _
    clear hHeld hc L6 L9 z6 b6 z60 z61 y60 y61 HV0 hE
    generalize (X6.setCell ⟨EE, 0, none⟩ (.int .i64 X2)).setCell ⟨EE, 1, none⟩ (.int .i64 Y2) = WX at *
    rcases r with _ | _
    · go_wp2
      go_ret
      exact ⟨by first | rfl | simp, hfin⟩
    · have hge := HW.out rfl
      have hge2 : decide (O.hi l - O.lo l ≤ Y2 - X2) = true := decide_eq_true hge
      clear hge
      go_wp2
      go_ret
      exact ⟨by first | rfl | simp, hfin⟩

/-! ### THE ROW's STEP: WRITTEN OUT: LEAVE IT -/
set_option maxRecDepth 100000 in
theorem lifted (os : Os) (started : os.Started) (H : Type) (enc : TypeId × Value → H) :
    ReturnsInHanded {} Try.checked os 8 .any (Rows.fnSpanOfWideSpec.pre6 enc Try.prog Try.f8 Rows.fnSpanOfWideRow.domain false) (Rows.fnSpanOfWideSpec.post enc Try.prog Try.f8 false true false false) := by
  refine returnsInHanded_of_change (C := Try.checked) own started (by kernel_rfl) Try.func8
    (ChangeSpec.witness6 (enc := enc) (C := Try.checked) false ⟨#[], #[.slice none 0 0], []⟩ 8 (by kernel_rfl) (by kernel_rfl) (by kernel_rfl) (by kernel_rfl)) ?_
  intro W base args ds gs before hval0 hW hcnd _
  have hval : ∀ (j : Nat) t v, Try.f8.params[j]? = some t → args[j]? = some v → Value.okWide Try.prog W .any base t v := hval0
  have hW' := hW
  obtain ⟨p, q, hA0, hV, rfl, hfz, hnd⟩ := hW
  have hA : DataW.TrodAll enc Try.prog W 0 (fun _ => true) true Try.f8.params.toList args.toList ds p := hA0
  rw [Try.params8] at hA hval
  obtain ⟨v0, vs0, d0, ds0, p0, q0, hargs, rfl, rfl, h0, r0⟩ := trodAll_cons hA
  obtain ⟨rfl, rfl, rfl⟩ := trodAll_nil r0
  obtain rfl : args = #[v0] := by cases args; simp_all
  obtain ⟨rfl, rfl⟩ := trodVars_none hV
  obtain ⟨a0, len0, cap0, rfl⟩ := okWide_slice Try.underlying22 (hval 0 22 v0 rfl rfl)
  have k0 := h0
  have lt0 : ∀ x ∈ p0, x.block < W.heap.size := by obtain ⟨m, hm⟩ := k0; exact DataW.trod_lt m _ _ _ hm
  obtain ⟨z0, w0⟩ : ∃ zs, IsRow .u8 W a0 len0 cap0 zs := by
    obtain ⟨fuel, hf⟩ := h0
    rcases open_ints Try.underlying22 Try.underlying5 (by kernel_rfl) hf with ⟨hcs, _⟩ | ⟨x, l, c, zs, hcs, _, hl, hm, hz, _, hcell, hwz⟩
    · simp [Value.cells] at hcs
      obtain ⟨rfl, rfl, rfl⟩ := hcs
      exact ⟨[], .inl ⟨rfl, rfl, rfl, rfl⟩⟩
    · simp [Value.cells] at hcs
      obtain ⟨rfl, rfl, rfl⟩ := hcs
      exact ⟨zs, .inr ⟨_, rfl, hl, hm, by simpa using hz, hcell, hwz⟩⟩
  clear hA0 hval0
  refine (walk a0 len0 cap0 z0 W w0).mono fun e W' ⟨he, bel⟩ => ?_
  subst he
  exact ⟨_, rfl, _, _, _, [], _, [], hW', trodAll_mk1 (shut_bool Try.underlying4 _), (trodAll_cons_mk (Below.trod laidOut (by kernel_rfl) (of_decide_eq_true (by kernel_rfl)) k0 bel lt0) trodAll_mk0), rfl, bel.frame _, fun h => by cases h⟩

theorem over : Rows.fnSpanOfWideRow.holds Try.pinned (OpenSpec.ofChange Rows.fnSpanOfWideSpec) :=
  OpenClaim.holds_of_wide 8 Try.f8 rfl rfl rfl rfl rfl rfl rfl ⟨rfl, rfl, rfl, rfl, rfl⟩ rfl rfl rfl rfl rfl (by kernel_rfl) Try.func8 (by kernel_rfl)
    (of_decide_eq_true (by kernel_rfl)) (by unfold Func.isWrapper; first | (rw [if_pos (by decide +kernel)]; kernel_rfl) | (rw [if_neg (by decide +kernel)]; exact ⟨rfl, rfl⟩))
    (fun os started H enc _ => lifted os started H enc)

/-- ████ THE STATEMENT ████ -/
theorem proved : Rows.FnSpanOfWideSaid := over
#print axioms proved
end Go.Proofs.Ytoaldklkacmflaa.fnSpanOfWide
