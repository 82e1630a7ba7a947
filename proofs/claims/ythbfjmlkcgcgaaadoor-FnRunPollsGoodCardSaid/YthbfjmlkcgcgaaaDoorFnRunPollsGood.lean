/-
  PROVED: FnRunPollsGood: for every input the law returns true, and the input reads as it did. The condition that the row lists: the table of rules (impl.pollRules) holds what the program lays in it; the given tie says that it does.
  The frame is as the kit prints it (proof-skeleton.mjs); the walk is mine.
-/
import Derived.Test.YthbfjmlkcgcgaaaDoorRows
import Derived.Test.YthbfjmlkcgcgaaaDoorRunL
import Derived.Test.YthbfjmlkcgcgaaaDoorDrawRun
import Derived.Test.YthbfjmlkcgcgaaaDoorCopy
import Derived.Test.YthbfjmlkcgcgaaaDoorNums
import Derived.Test.YthbfjmlkcgcgaaaDoorDoor
import Derived.Test.YthbfjmlkcgcgaaaDoorTie
import Derived.Test.YthbfjmlkcgcgaaaDoorCards
import Derived.LaidMore
import Derived.OpenVars
import Derived.ChangeVars
import Derived.SevenTiedAt
import Derived.WalkKit
import Derived.ProofKit
import Derived.OpenShut
import Derived.ShutString
import Derived.ChangeOld
import Derived.Below
namespace Go.Proofs.YthbfjmlkcgcgaaaDoor.fnRunPollsGood
open Go.ChangeShapes Go.WideShapes Go.ChangeAt Go.RowKit
open Go.ChangeMaps (open_string shut_string)
set_option linter.unusedVariables false

theorem own : ownKnob Tryd.prog.godebug = none := by kernel_rfl
theorem laidOut : laidOutB Tryd.prog = true := by kernel_rfl

/-- WHAT THE WALK IS TOLD OF A SLICE OF INTEGERS THAT CAME IN: it is nil; or it leads to a row of 'cap' cells, the numbers 'zs' (the first 'len' are its elements, the rest its spare room), each fitting its kind. -/
def IsRow (k : IntKind) (w : World) (a : Option Addr) (len cap : Nat) (zs : List Int) : Prop :=
  (a = none ∧ len = 0 ∧ cap = 0 ∧ zs = []) ∨
  ∃ x, a = some x ∧ len ≤ cap ∧ cap ≤ maxLen ∧ zs.length = cap ∧ (∀ i, i < zs.length → w.cell? (x.add i) = some (.int k (zs.getD i 0))) ∧ ∀ n ∈ zs, (Lit.int k n).wf = true

/-! ### STEP 1: THE WALK: the Go text returns true, AND WRITES NOTHING THAT WAS THERE: 'Below w.heap.size w w'' (Derived/Below.lean: '.refl', '.alloc', '.drew', '.setCell' at a new block, '.trans'). Open each 'IsRow' by 'rcases' AHEAD of 'go_enter'; part every test ahead of the walk. -/
theorem g_zero (n i : Nat) : L.g (List.replicate n (0 : Int)) i = 0 := by
  unfold L.g
  rw [List.getD_eq_getElem?_getD, List.getElem?_replicate]
  split <;> rfl
theorem make_ints (w : World) (n : Nat) (hn : n ≤ 1000) : ∃ w', (Instr.makeSlice 32 (.int .i64 (n : Int)) (.int .i64 (n : Int))).run Tryd.prog w = .ok (.slice (some ⟨w.heap.size, 0, none⟩) n n) w' ∧
    Lst w'.heap.size w' (some ⟨w.heap.size, 0, none⟩) n (List.replicate n 0) ∧ Below w.heap.size w w' := by
  obtain ⟨i0, hi0, hz0, hz1, hz2⟩ := info_parts intC_info
  obtain ⟨w1, hrun, own1, hg1⟩ := run_make_full (P := Tryd.prog) w w.heap.size 32 3 i0 (.int .i64 0) 1 Tryd.underlying32 hi0 hz0 hz1 .i64 .i64 n (by rw [hz2]; omega) (by unfold maxLen; omega) (Nat.le_refl _)
  rw [show (Value.int IntKind.i64 0).cells = #[.int .i64 0] from rfl, toList_madeCells_one, Nat.mul_one] at own1
  have hlen : (List.replicate n (0 : Int)).length = n := List.length_replicate
  have nm : Nums w.heap.size w1 (some ⟨w.heap.size, 0, none⟩) n (List.replicate n 0) := by
    unfold Nums valsC
    rw [hlen, List.map_replicate]
    exact own1
  have hl := nm.lst (by rw [hlen]; omega)
  rw [hlen] at hl
  exact ⟨w1, hrun, hl, (Below.refl _ _).grown hg1 (Nat.le_refl _) (fun k hk => by cases hk)⟩
set_option maxRecDepth 100000 in
set_option maxHeartbeats 4000000 in
theorem walk (a0 : Option Addr) (len0 cap0 : Nat) (z0 : List Int) (w : World) (w0 : IsRow .u8 w a0 len0 cap0 z0) (hg : Gl w) :
    Calls Tryd.prog 8 #[.slice a0 len0 cap0] w fun e w' => e = .returned (.bool true) ∧ Below w.heap.size w w' := by
  by_cases hl : 1048576 < len0
  · have hl' : (1048576 : Int) < (len0 : Int) := by omega
    clear w0 hl
    go_enter Tryd.func8, Tryd.ntmps8
    go_wp2
    go_ret
    exact ⟨rfl, Below.refl _ _⟩
  have hl' : ¬ (1048576 : Int) < (len0 : Int) := by omega
  obtain ⟨hc, hcap⟩ := code_of w0 (by omega)
  clear w0 hl
  go_enter Tryd.func8, Tryd.ntmps8
  go_wp2_with fail
  refine (DrawRunPolls_any w a0 len0 cap0 hc hcap).mono ?_
  rintro e w1 ⟨p, c, j, a, n, cp, l, rfl, hls, hn32, hncp, hcpm, hsm, hj, bl⟩
  clear hc hcap
  have g1 := (hg.b bl).al (.cells #[.int .i64 p, .int .i64 c] 24)
  have p1 := P2.new w1 p c 24
  have l1 := (hls.below ((Below.refl _ _).alloc (Nat.le_refl _) (.cells #[.int .i64 p, .int .i64 c] 24))).more (show w1.heap.size ≤ (w1.alloc (.cells #[.int .i64 p, .int .i64 c] 24)).heap.size by simp)
  have b1 := bl.alloc bl.size (.cells #[.int .i64 p, .int .i64 c] 24)
  have hln := hls.1
  subst hln
  clear bl hg hls hsm
  rcases hk : J.rk (p, c) l j with _ | _
  · have K1k := fun a' n' cp' w' (h' : Lst w'.heap.size w' a' n' (l)) (hg' : Gl w') => RPi_no p c j (l) hk a' n' cp' w' h' hg'
    have K1 := Lib.hid K1k
    clear K1k
    have K2k := fun a' n' cp' w' (h' : Lst w'.heap.size w' a' n' (l)) => RPs_no p c j (l) hk a' n' cp' w' h'
    have K2 := Lib.hid K2k
    clear K2k
    clear hk
    have pc0 := p1.c0
    have pc1 := p1.c1
    go_wp2_with fail
    refine (K1.out _ _ _ _ l1 g1).mono ?_
    rintro e w2 ⟨rfl, bb⟩
    clear pc0 pc1
    have p2 := p1.b bb
    have l2 := (l1.below bb).more bb.size
    have g2 := g1.b bb
    have b2 := b1.trans (bb.mono b1.size)
    clear p1 l1 g1 b1 bb
    replace p2 := p2.al (.cells #[.int .i64 0, .int .i64 0] 24)
    replace g2 := g2.al (.cells #[.int .i64 0, .int .i64 0] 24)
    replace l2 := (l2.below ((Below.refl _ _).alloc (Nat.le_refl _) (.cells #[.int .i64 0, .int .i64 0] 24))).more (show w2.heap.size ≤ (w2.alloc (.cells #[.int .i64 0, .int .i64 0] 24)).heap.size by simp)
    replace b2 := b2.alloc b2.size (.cells #[.int .i64 0, .int .i64 0] 24)
    have q2 := P2.new w2 0 0 24
    have pc0 := p2.c0
    have pc1 := p2.c1
    go_wp2_with fail
    refine (K2.out _ _ _ _ l2).mono ?_
    rintro e w3 ⟨rfl, bb⟩
    clear pc0 pc1
    have p3 := p2.b bb
    have q3 := q2.b bb
    have l3 := (l2.below bb).more bb.size
    have g3 := g2.b bb
    have b3 := b2.trans (bb.mono b2.size)
    clear p2 q2 l2 g2 b2 bb
    replace p3 := p3.al (.cells #[.int .i64 0, .int .i64 0] 24)
    replace q3 := q3.al (.cells #[.int .i64 0, .int .i64 0] 24)
    replace g3 := g3.al (.cells #[.int .i64 0, .int .i64 0] 24)
    replace l3 := (l3.below ((Below.refl _ _).alloc (Nat.le_refl _) (.cells #[.int .i64 0, .int .i64 0] 24))).more (show w3.heap.size ≤ (w3.alloc (.cells #[.int .i64 0, .int .i64 0] 24)).heap.size by simp)
    replace b3 := b3.alloc b3.size (.cells #[.int .i64 0, .int .i64 0] 24)
    have r3 := P2.new w3 0 0 24
    have qc0 := q3.c0
    have qc1 := q3.c1
    have rc0 := r3.c0
    have rc1 := r3.c1
    go_wp2
    go_ret
    exact ⟨ret_bool (by first | rfl | (simp; done) | simp_all), b3⟩
  · have hl30 := (J.rk_of hk).2.2.1
    have hj0 := (J.rk_of hk).2.1
    have hz : J.rk (p, c) (List.replicate l.length 0) j = true := J.rk_yes ⟨(J.rk_of hk).1, hj0, by rw [List.length_replicate]; omega, fun i _ => by rw [g_zero]; omega⟩
    have hgd : p ≤ (J.rn (p, c) (List.replicate l.length 0) j (List.replicate l.length (0 : Int)).length).1 := J.rn_good (s := (p, c)) (J.rk_of hk).1 hj0.1 (fun i => g_zero _ _) _
    have K1k := fun a' n' cp' w' (h' : Lst w'.heap.size w' a' n' (l)) (hg' : Gl w') => RPi_yes p c j (l) hk a' n' cp' w' h' hg'
    have K1 := Lib.hid K1k
    clear K1k
    have K2k := fun a' n' cp' w' (h' : Lst w'.heap.size w' a' n' (l)) => RPs_yes p c j (l) hk a' n' cp' w' h'
    have K2 := Lib.hid K2k
    clear K2k
    have K4k := fun a' n' cp' w' (h' : Lst w'.heap.size w' a' n' (List.replicate l.length 0)) (hg' : Gl w') => RPi_yes p c j (List.replicate l.length 0) hz a' n' cp' w' h' hg'
    have K4 := Lib.hid K4k
    clear K4k
    clear hk hz
    generalize (J.rn (p, c) l j l.length).1 = X at *
    generalize (J.rn (p, c) l j l.length).2 = Y at *
    generalize J.rt (p, c) l j l.length = T at *
    generalize (J.rn (p, c) (List.replicate l.length 0) j (List.replicate l.length (0 : Int)).length).1 = X9 at *
    generalize (J.rn (p, c) (List.replicate l.length 0) j (List.replicate l.length (0 : Int)).length).2 = Y9 at *
    generalize J.rt (p, c) (List.replicate l.length 0) j (List.replicate l.length (0 : Int)).length = T9 at *
    have HG := Lib.hid hgd
    clear hgd hj
    have hjn : ¬ j < 0 := by omega
    have pc0 := p1.c0
    have pc1 := p1.c1
    go_wp2_with fail
    refine (K1.out _ _ _ _ l1 g1).mono ?_
    rintro e w2 ⟨rfl, bb⟩
    clear pc0 pc1
    have p2 := p1.b bb
    have l2 := (l1.below bb).more bb.size
    have g2 := g1.b bb
    have b2 := b1.trans (bb.mono b1.size)
    clear p1 l1 g1 b1 bb
    replace p2 := p2.al (.cells #[.int .i64 X, .int .i64 Y] 24)
    replace g2 := g2.al (.cells #[.int .i64 X, .int .i64 Y] 24)
    replace l2 := (l2.below ((Below.refl _ _).alloc (Nat.le_refl _) (.cells #[.int .i64 X, .int .i64 Y] 24))).more (show w2.heap.size ≤ (w2.alloc (.cells #[.int .i64 X, .int .i64 Y] 24)).heap.size by simp)
    replace b2 := b2.alloc b2.size (.cells #[.int .i64 X, .int .i64 Y] 24)
    have q2 := P2.new w2 X Y 24
    have pc0 := p2.c0
    have pc1 := p2.c1
    go_wp2_with fail
    refine (K2.out _ _ _ _ l2).mono ?_
    rintro e w3 ⟨rfl, bb⟩
    clear pc0 pc1
    have p3 := p2.b bb
    have q3 := q2.b bb
    have l3 := (l2.below bb).more bb.size
    have g3 := g2.b bb
    have b3 := b2.trans (bb.mono b2.size)
    clear p2 q2 l2 g2 b2 bb
    replace p3 := p3.al (.cells #[.int .i64 X, .int .i64 Y] 24)
    replace q3 := q3.al (.cells #[.int .i64 X, .int .i64 Y] 24)
    replace g3 := g3.al (.cells #[.int .i64 X, .int .i64 Y] 24)
    replace l3 := (l3.below ((Below.refl _ _).alloc (Nat.le_refl _) (.cells #[.int .i64 X, .int .i64 Y] 24))).more (show w3.heap.size ≤ (w3.alloc (.cells #[.int .i64 X, .int .i64 Y] 24)).heap.size by simp)
    replace b3 := b3.alloc b3.size (.cells #[.int .i64 X, .int .i64 Y] 24)
    have r3 := P2.new w3 X Y 24
    have pc0 := p3.c0
    have pc1 := p3.c1
    have qc0 := q3.c0
    have qc1 := q3.c1
    have rc0 := r3.c0
    have rc1 := r3.c1
    go_wp2_with fail
    have G9 : RG w (w3.alloc (.cells #[.int .i64 X, .int .i64 Y] 24)) w1.heap.size p c w2.heap.size X Y a l.length l := ⟨p3, q3, l3, g3, b3⟩
    clear pc0 pc1 qc0 qc1 rc0 rc1
    clear p3 q3 r3 l3 g3 b3
    generalize w3.alloc (.cells #[.int .i64 X, .int .i64 Y] 24) = W3 at *
    generalize w1.heap.size = D1 at *
    generalize w2.heap.size = D2 at *
    generalize w3.heap.size = D3 at *
    refine wp_region_held_drew (S := (fun w' => w'.cell? ⟨D1, 0, none⟩ = some (.int .i64 p) ∧ w'.cell? ⟨D1, 1, none⟩ = some (.int .i64 c))) (by kernel_rfl) (G9.keep0) (fun hHeld => ?_)
    have G9 := G9.drew
    generalize W3.drew = V at *
    refine wpAnyH_take (i := 0) (v := ?_) rfl (by kernel_rfl) (by kernel_rfl) (by kernel_rfl) (fun _ _ _ h => h) (Or.inl ⟨by rfl, ?_⟩) (by assumption) ?_
    rotate_left
    · intro w hSw
      (try dsimp only at hSw)
      go_simp
      all_goals with_reducible rfl
    try simp only [Act.put, List.setIfInBounds_toArray, List.set_cons_zero, List.set_cons_succ, List.getElem_toArray, List.getElem_cons_zero]
    refine wpAnyH_take (i := 1) (v := ?_) rfl (by kernel_rfl) (by kernel_rfl) (by kernel_rfl) (fun _ _ _ h => h) (Or.inl ⟨by rfl, ?_⟩) (by assumption) ?_
    rotate_left
    · intro w hSw
      (try dsimp only at hSw)
      go_simp
      all_goals with_reducible rfl
    try simp only [Act.put, List.setIfInBounds_toArray, List.set_cons_zero, List.set_cons_succ, List.getElem_toArray, List.getElem_cons_zero, List.getElem_cons_succ]
    refine wpAnyH_take (i := 2) (v := ?_) rfl (by kernel_rfl) (by kernel_rfl) (by kernel_rfl) (fun _ _ _ h => h) (Or.inl ⟨by rfl, ?_⟩) (by assumption) ?_
    rotate_left
    · intro w hSw
      (try dsimp only at hSw)
      go_simp
      all_goals with_reducible rfl
    try simp only [Act.put, List.setIfInBounds_toArray, List.set_cons_zero, List.set_cons_succ, List.getElem_toArray, List.getElem_cons_zero, List.getElem_cons_succ]
    refine wpAnyH_take (i := 4) (v := ?_) rfl (by kernel_rfl) (by kernel_rfl) (by kernel_rfl) (fun _ _ _ h => h) (Or.inl ⟨by rfl, ?_⟩) (by assumption) ?_
    rotate_left
    · intro w hSw
      (try dsimp only at hSw)
      go_simp
      all_goals with_reducible rfl
    try simp only [Act.put, List.setIfInBounds_toArray, List.set_cons_zero, List.set_cons_succ, List.getElem_toArray, List.getElem_cons_zero, List.getElem_cons_succ]
    refine wpAnyH_take (i := 5) (v := ?_) rfl (by kernel_rfl) (by kernel_rfl) (by kernel_rfl) (fun _ _ _ h => h) (Or.inl ⟨by rfl, ?_⟩) (by assumption) ?_
    rotate_left
    · intro w hSw
      (try dsimp only at hSw)
      go_simp
      all_goals with_reducible rfl
    try simp only [Act.put, List.setIfInBounds_toArray, List.set_cons_zero, List.set_cons_succ, List.getElem_toArray, List.getElem_cons_zero, List.getElem_cons_succ]
    refine wpAnyH_ready (rs := [3, 11]) (by kernel_rfl) (by simp) ?_
    refine AllReadyH.cons rfl (fun K hK => ?_) (AllReadyH.cons rfl (fun K hK => ?_) AllReadyH.nil)
    · obtain ⟨M, hrun, hLz, bm⟩ := make_ints V l.length (by omega)
      go_simp
      refine hK.out _ _ (G9.keep2 bm) (fun hHeld => ?_)
      clear hK K
      try simp only [Act.put, List.setIfInBounds_toArray, List.set_cons_zero, List.set_cons_succ, List.getElem_toArray, List.getElem_cons_zero, List.getElem_cons_succ]
      clear hrun
      refine wpAnyH_ready (rs := [6, 11]) (by kernel_rfl) (by simp) ?_
      refine AllReadyH.cons rfl (fun K hK => ?_) (AllReadyH.cons rfl (fun K hK => ?_) AllReadyH.nil)
      · go_simp
        (go_at_call 17; rw [if_neg (show ¬ j < 0 by omega)]; refine (K4.out _ _ _ _ hLz (G9.g.b bm)).mono ?_; rintro e w5 ⟨rfl, b5⟩)
        have b6 := bm.trans (b5.mono bm.size)
        refine hK.out _ _ (G9.keep2 b6) (fun hHeld => ?_)
        clear hK K
        try simp only [Act.put, List.setIfInBounds_toArray, List.set_cons_zero, List.set_cons_succ, List.getElem_toArray, List.getElem_cons_zero, List.getElem_cons_succ]
        refine wpAnyH_take (i := 7) (v := ?_) rfl (by kernel_rfl) (by kernel_rfl) (by kernel_rfl) (fun _ _ _ h => h) (Or.inl ⟨by rfl, ?_⟩) (by assumption) ?_
        rotate_left
        · intro w hSw
          (try dsimp only at hSw)
          go_simp
          all_goals with_reducible rfl
        try simp only [Act.put, List.setIfInBounds_toArray, List.set_cons_zero, List.set_cons_succ, List.getElem_toArray, List.getElem_cons_zero, List.getElem_cons_succ]
        refine wpAnyH_take (i := 8) (v := ?_) rfl (by kernel_rfl) (by kernel_rfl) (by kernel_rfl) (fun _ _ _ h => h) (Or.inl ⟨by rfl, ?_⟩) (by assumption) ?_
        rotate_left
        · intro w hSw
          (try dsimp only at hSw)
          go_simp
          all_goals with_reducible rfl
        try simp only [Act.put, List.setIfInBounds_toArray, List.set_cons_zero, List.set_cons_succ, List.getElem_toArray, List.getElem_cons_zero, List.getElem_cons_succ]
        refine wpAnyH_take (i := 9) (v := ?_) rfl (by kernel_rfl) (by kernel_rfl) (by kernel_rfl) (fun _ _ _ h => h) (Or.inl ⟨by rfl, ?_⟩) (by assumption) ?_
        rotate_left
        · intro w hSw
          (try dsimp only at hSw)
          go_simp
          all_goals with_reducible rfl
        try simp only [Act.put, List.setIfInBounds_toArray, List.set_cons_zero, List.set_cons_succ, List.getElem_toArray, List.getElem_cons_zero, List.getElem_cons_succ]
        refine wpAnyH_take (i := 10) (v := ?_) rfl (by kernel_rfl) (by kernel_rfl) (by kernel_rfl) (fun _ _ _ h => h) (Or.inl ⟨by rfl, ?_⟩) (by assumption) ?_
        rotate_left
        · intro w hSw
          (try dsimp only at hSw)
          go_simp
          all_goals with_reducible rfl
        try simp only [Act.put, List.setIfInBounds_toArray, List.set_cons_zero, List.set_cons_succ, List.getElem_toArray, List.getElem_cons_zero, List.getElem_cons_succ]
        have ZZ := Zp2.new w5 24
        have bX := b6.alloc b6.size (.cells #[.int .i64 0, .int .i64 0] 24)
        have hE := b6.size
        refine wpAnyH_ready (rs := [11]) (by kernel_rfl) (by simp) ?_
        refine AllReadyH.cons rfl (fun K hK => ?_) AllReadyH.nil
        go_simp
        skip
        refine hK.out _ _ (G9.keep2 bX) (fun hHeld => ?_)
        clear hK K
        try simp only [Act.put, List.setIfInBounds_toArray, List.set_cons_zero, List.set_cons_succ, List.getElem_toArray, List.getElem_cons_zero, List.getElem_cons_succ]
        clear b5 b6 bm hLz
        generalize w5.alloc (.cells #[.int .i64 0, .int .i64 0] 24) = X5 at *
        generalize w5.heap.size = E9 at *
        have e0 := ZZ.c0
        have e1 := ZZ.c1
        have h0 := ZZ.f0
        have h1 := ZZ.f1
        obtain ⟨v0, v1⟩ := Zp2.to (u := (.int .i64 X9)) (v := (.int .i64 Y9)) ZZ
        have bF := (bX.setCell (p := ⟨E9, 0, none⟩) hE (.int .i64 X9)).setCell (p := ⟨E9, 1, none⟩) hE (.int .i64 Y9)
        refine wpAnyH_ready (rs := [12]) (by kernel_rfl) (by simp) ?_
        refine AllReadyH.cons rfl (fun K hK => ?_) AllReadyH.nil
        go_simp
        skip
        refine hK.out _ _ (G9.keep2 bF) (fun hHeld => ?_)
        clear hK K
        try simp only [Act.put, List.setIfInBounds_toArray, List.set_cons_zero, List.set_cons_succ, List.getElem_toArray, List.getElem_cons_zero, List.getElem_cons_succ]
        refine wpAnyH_take (i := 13) (v := ?_) rfl (by kernel_rfl) (by kernel_rfl) (by kernel_rfl) (fun _ _ _ h => h) (Or.inl ⟨by rfl, ?_⟩) (by assumption) ?_
        rotate_left
        · intro w hSw
          (try dsimp only at hSw)
          go_simp
          all_goals with_reducible rfl
        try simp only [Act.put, List.setIfInBounds_toArray, List.set_cons_zero, List.set_cons_succ, List.getElem_toArray, List.getElem_cons_zero, List.getElem_cons_succ]
        refine wpAnyH_take (i := 14) (v := ?_) rfl (by kernel_rfl) (by kernel_rfl) (by kernel_rfl) (fun _ _ _ h => h) (Or.inl ⟨by rfl, ?_⟩) (by assumption) ?_
        rotate_left
        · intro w hSw
          (try dsimp only at hSw)
          go_simp
          all_goals with_reducible rfl
        try simp only [Act.put, List.setIfInBounds_toArray, List.set_cons_zero, List.set_cons_succ, List.getElem_toArray, List.getElem_cons_zero, List.getElem_cons_succ]
        refine wpAnyH_done (by kernel_rfl) ?_ _
        clear hHeld e0 e1 h0 h1 bX ZZ
        have hbel := (G9.b bF).bel
        have p0 := (G9.b bF).d.c0
        clear bF G9
        generalize (X5.setCell ⟨E9, 0, none⟩ (.int .i64 X9)).setCell ⟨E9, 1, none⟩ (.int .i64 Y9) = WX at *
        have hgd := HG.out
        go_wp2
        go_ret
        exact ⟨ret_bool (by first | rfl | (simp; done) | simp_all), hbel⟩
      · go_simp
        have bY := bm.alloc bm.size (.cells #[.int .i64 0, .int .i64 0] 24)
        refine hK.out _ _ (G9.keep2 bY) (fun hHeld => ?_)
        clear hK K
        try simp only [Act.put, List.setIfInBounds_toArray, List.set_cons_zero, List.set_cons_succ, List.getElem_toArray, List.getElem_cons_zero, List.getElem_cons_succ]
        have ZZ := Zp2.new M 24
        have hLy := (hLz.below ((Below.refl _ _).alloc (Nat.le_refl _) (.cells #[.int .i64 0, .int .i64 0] 24))).more (show M.heap.size ≤ (M.alloc (.cells #[.int .i64 0, .int .i64 0] 24)).heap.size by simp)
        refine wpAnyH_ready (rs := [6]) (by kernel_rfl) (by simp) ?_
        refine AllReadyH.cons rfl (fun K hK => ?_) AllReadyH.nil
        go_simp
        (go_at_call 17; rw [if_neg (show ¬ j < 0 by omega)]; refine (K4.out _ _ _ _ hLy (G9.g.b bY)).mono ?_; rintro e w5 ⟨rfl, b5⟩)
        refine hK.out _ _ (G9.keep2 (bY.trans (b5.mono bY.size))) (fun hHeld => ?_)
        clear hK K
        try simp only [Act.put, List.setIfInBounds_toArray, List.set_cons_zero, List.set_cons_succ, List.getElem_toArray, List.getElem_cons_zero, List.getElem_cons_succ]
        have ZZ := ZZ.b b5
        have bX := bY.trans (b5.mono bY.size)
        have hE := bm.size
        clear b5 bY hLy hLz bm
        refine wpAnyH_take (i := 7) (v := ?_) rfl (by kernel_rfl) (by kernel_rfl) (by kernel_rfl) (fun _ _ _ h => h) (Or.inl ⟨by rfl, ?_⟩) (by assumption) ?_
        rotate_left
        · intro w hSw
          (try dsimp only at hSw)
          go_simp
          all_goals with_reducible rfl
        try simp only [Act.put, List.setIfInBounds_toArray, List.set_cons_zero, List.set_cons_succ, List.getElem_toArray, List.getElem_cons_zero, List.getElem_cons_succ]
        refine wpAnyH_take (i := 8) (v := ?_) rfl (by kernel_rfl) (by kernel_rfl) (by kernel_rfl) (fun _ _ _ h => h) (Or.inl ⟨by rfl, ?_⟩) (by assumption) ?_
        rotate_left
        · intro w hSw
          (try dsimp only at hSw)
          go_simp
          all_goals with_reducible rfl
        try simp only [Act.put, List.setIfInBounds_toArray, List.set_cons_zero, List.set_cons_succ, List.getElem_toArray, List.getElem_cons_zero, List.getElem_cons_succ]
        refine wpAnyH_take (i := 9) (v := ?_) rfl (by kernel_rfl) (by kernel_rfl) (by kernel_rfl) (fun _ _ _ h => h) (Or.inl ⟨by rfl, ?_⟩) (by assumption) ?_
        rotate_left
        · intro w hSw
          (try dsimp only at hSw)
          go_simp
          all_goals with_reducible rfl
        try simp only [Act.put, List.setIfInBounds_toArray, List.set_cons_zero, List.set_cons_succ, List.getElem_toArray, List.getElem_cons_zero, List.getElem_cons_succ]
        refine wpAnyH_take (i := 10) (v := ?_) rfl (by kernel_rfl) (by kernel_rfl) (by kernel_rfl) (fun _ _ _ h => h) (Or.inl ⟨by rfl, ?_⟩) (by assumption) ?_
        rotate_left
        · intro w hSw
          (try dsimp only at hSw)
          go_simp
          all_goals with_reducible rfl
        try simp only [Act.put, List.setIfInBounds_toArray, List.set_cons_zero, List.set_cons_succ, List.getElem_toArray, List.getElem_cons_zero, List.getElem_cons_succ]
        generalize M.heap.size = E9 at *
        generalize w5 = X5 at *
        have e0 := ZZ.c0
        have e1 := ZZ.c1
        have h0 := ZZ.f0
        have h1 := ZZ.f1
        obtain ⟨v0, v1⟩ := Zp2.to (u := (.int .i64 X9)) (v := (.int .i64 Y9)) ZZ
        have bF := (bX.setCell (p := ⟨E9, 0, none⟩) hE (.int .i64 X9)).setCell (p := ⟨E9, 1, none⟩) hE (.int .i64 Y9)
        refine wpAnyH_ready (rs := [12]) (by kernel_rfl) (by simp) ?_
        refine AllReadyH.cons rfl (fun K hK => ?_) AllReadyH.nil
        go_simp
        skip
        refine hK.out _ _ (G9.keep2 bF) (fun hHeld => ?_)
        clear hK K
        try simp only [Act.put, List.setIfInBounds_toArray, List.set_cons_zero, List.set_cons_succ, List.getElem_toArray, List.getElem_cons_zero, List.getElem_cons_succ]
        refine wpAnyH_take (i := 13) (v := ?_) rfl (by kernel_rfl) (by kernel_rfl) (by kernel_rfl) (fun _ _ _ h => h) (Or.inl ⟨by rfl, ?_⟩) (by assumption) ?_
        rotate_left
        · intro w hSw
          (try dsimp only at hSw)
          go_simp
          all_goals with_reducible rfl
        try simp only [Act.put, List.setIfInBounds_toArray, List.set_cons_zero, List.set_cons_succ, List.getElem_toArray, List.getElem_cons_zero, List.getElem_cons_succ]
        refine wpAnyH_take (i := 14) (v := ?_) rfl (by kernel_rfl) (by kernel_rfl) (by kernel_rfl) (fun _ _ _ h => h) (Or.inl ⟨by rfl, ?_⟩) (by assumption) ?_
        rotate_left
        · intro w hSw
          (try dsimp only at hSw)
          go_simp
          all_goals with_reducible rfl
        try simp only [Act.put, List.setIfInBounds_toArray, List.set_cons_zero, List.set_cons_succ, List.getElem_toArray, List.getElem_cons_zero, List.getElem_cons_succ]
        refine wpAnyH_done (by kernel_rfl) ?_ _
        clear hHeld e0 e1 h0 h1 bX ZZ
        have hbel := (G9.b bF).bel
        have p0 := (G9.b bF).d.c0
        clear bF G9
        generalize (X5.setCell ⟨E9, 0, none⟩ (.int .i64 X9)).setCell ⟨E9, 1, none⟩ (.int .i64 Y9) = WX at *
        have hgd := HG.out
        go_wp2
        go_ret
        exact ⟨ret_bool (by first | rfl | (simp; done) | simp_all), hbel⟩
    · go_simp
      have bA := (Below.refl V.heap.size V).alloc (Nat.le_refl _) (.cells #[.int .i64 0, .int .i64 0] 24)
      refine hK.out _ _ (G9.keep2 bA) (fun hHeld => ?_)
      clear hK K
      try simp only [Act.put, List.setIfInBounds_toArray, List.set_cons_zero, List.set_cons_succ, List.getElem_toArray, List.getElem_cons_zero, List.getElem_cons_succ]
      have ZZ := Zp2.new V 24
      have hVs : (V.alloc (.cells #[.int .i64 0, .int .i64 0] 24)).heap.size = V.heap.size + 1 := World.size_alloc _ _
      obtain ⟨M, hrun, hLz, bm⟩ := make_ints (V.alloc (.cells #[.int .i64 0, .int .i64 0] 24)) l.length (by omega)
      have bm' := bA.trans (bm.mono bA.size)
      rw [hVs] at hrun hLz
      refine wpAnyH_ready (rs := [3]) (by kernel_rfl) (by simp) ?_
      refine AllReadyH.cons rfl (fun K hK => ?_) AllReadyH.nil
      go_simp
      skip
      refine hK.out _ _ (G9.keep2 bm') (fun hHeld => ?_)
      clear hK K
      try simp only [Act.put, List.setIfInBounds_toArray, List.set_cons_zero, List.set_cons_succ, List.getElem_toArray, List.getElem_cons_zero, List.getElem_cons_succ]
      have ZZ := ZZ.b bm
      refine wpAnyH_ready (rs := [6]) (by kernel_rfl) (by simp) ?_
      refine AllReadyH.cons rfl (fun K hK => ?_) AllReadyH.nil
      go_simp
      (go_at_call 17; rw [if_neg (show ¬ j < 0 by omega)]; refine (K4.out _ _ _ _ hLz (G9.g.b bm')).mono ?_; rintro e w5 ⟨rfl, b5⟩)
      refine hK.out _ _ (G9.keep2 (bm'.trans (b5.mono bm'.size))) (fun hHeld => ?_)
      clear hK K
      try simp only [Act.put, List.setIfInBounds_toArray, List.set_cons_zero, List.set_cons_succ, List.getElem_toArray, List.getElem_cons_zero, List.getElem_cons_succ]
      have ZZ := ZZ.b b5
      have bX := bm'.trans (b5.mono bm'.size)
      have hE := Nat.le_refl V.heap.size
      clear b5 bm bm' hLz hrun bA hVs
      refine wpAnyH_take (i := 7) (v := ?_) rfl (by kernel_rfl) (by kernel_rfl) (by kernel_rfl) (fun _ _ _ h => h) (Or.inl ⟨by rfl, ?_⟩) (by assumption) ?_
      rotate_left
      · intro w hSw
        (try dsimp only at hSw)
        go_simp
        all_goals with_reducible rfl
      try simp only [Act.put, List.setIfInBounds_toArray, List.set_cons_zero, List.set_cons_succ, List.getElem_toArray, List.getElem_cons_zero, List.getElem_cons_succ]
      refine wpAnyH_take (i := 8) (v := ?_) rfl (by kernel_rfl) (by kernel_rfl) (by kernel_rfl) (fun _ _ _ h => h) (Or.inl ⟨by rfl, ?_⟩) (by assumption) ?_
      rotate_left
      · intro w hSw
        (try dsimp only at hSw)
        go_simp
        all_goals with_reducible rfl
      try simp only [Act.put, List.setIfInBounds_toArray, List.set_cons_zero, List.set_cons_succ, List.getElem_toArray, List.getElem_cons_zero, List.getElem_cons_succ]
      refine wpAnyH_take (i := 9) (v := ?_) rfl (by kernel_rfl) (by kernel_rfl) (by kernel_rfl) (fun _ _ _ h => h) (Or.inl ⟨by rfl, ?_⟩) (by assumption) ?_
      rotate_left
      · intro w hSw
        (try dsimp only at hSw)
        go_simp
        all_goals with_reducible rfl
      try simp only [Act.put, List.setIfInBounds_toArray, List.set_cons_zero, List.set_cons_succ, List.getElem_toArray, List.getElem_cons_zero, List.getElem_cons_succ]
      refine wpAnyH_take (i := 10) (v := ?_) rfl (by kernel_rfl) (by kernel_rfl) (by kernel_rfl) (fun _ _ _ h => h) (Or.inl ⟨by rfl, ?_⟩) (by assumption) ?_
      rotate_left
      · intro w hSw
        (try dsimp only at hSw)
        go_simp
        all_goals with_reducible rfl
      try simp only [Act.put, List.setIfInBounds_toArray, List.set_cons_zero, List.set_cons_succ, List.getElem_toArray, List.getElem_cons_zero, List.getElem_cons_succ]
      generalize hEE : V.heap.size = E9 at ZZ ⊢
      have hE : V.heap.size ≤ E9 := by omega
      clear hEE
      generalize w5 = X5 at *
      have e0 := ZZ.c0
      have e1 := ZZ.c1
      have h0 := ZZ.f0
      have h1 := ZZ.f1
      obtain ⟨v0, v1⟩ := Zp2.to (u := (.int .i64 X9)) (v := (.int .i64 Y9)) ZZ
      have bF := (bX.setCell (p := ⟨E9, 0, none⟩) hE (.int .i64 X9)).setCell (p := ⟨E9, 1, none⟩) hE (.int .i64 Y9)
      refine wpAnyH_ready (rs := [12]) (by kernel_rfl) (by simp) ?_
      refine AllReadyH.cons rfl (fun K hK => ?_) AllReadyH.nil
      go_simp
      skip
      refine hK.out _ _ (G9.keep2 bF) (fun hHeld => ?_)
      clear hK K
      try simp only [Act.put, List.setIfInBounds_toArray, List.set_cons_zero, List.set_cons_succ, List.getElem_toArray, List.getElem_cons_zero, List.getElem_cons_succ]
      refine wpAnyH_take (i := 13) (v := ?_) rfl (by kernel_rfl) (by kernel_rfl) (by kernel_rfl) (fun _ _ _ h => h) (Or.inl ⟨by rfl, ?_⟩) (by assumption) ?_
      rotate_left
      · intro w hSw
        (try dsimp only at hSw)
        go_simp
        all_goals with_reducible rfl
      try simp only [Act.put, List.setIfInBounds_toArray, List.set_cons_zero, List.set_cons_succ, List.getElem_toArray, List.getElem_cons_zero, List.getElem_cons_succ]
      refine wpAnyH_take (i := 14) (v := ?_) rfl (by kernel_rfl) (by kernel_rfl) (by kernel_rfl) (fun _ _ _ h => h) (Or.inl ⟨by rfl, ?_⟩) (by assumption) ?_
      rotate_left
      · intro w hSw
        (try dsimp only at hSw)
        go_simp
        all_goals with_reducible rfl
      try simp only [Act.put, List.setIfInBounds_toArray, List.set_cons_zero, List.set_cons_succ, List.getElem_toArray, List.getElem_cons_zero, List.getElem_cons_succ]
      refine wpAnyH_done (by kernel_rfl) ?_ _
      clear hHeld e0 e1 h0 h1 bX ZZ
      have hbel := (G9.b bF).bel
      have p0 := (G9.b bF).d.c0
      clear bF G9
      generalize (X5.setCell ⟨E9, 0, none⟩ (.int .i64 X9)).setCell ⟨E9, 1, none⟩ (.int .i64 Y9) = WX at *
      have hgd := HG.out
      go_wp2
      go_ret
      exact ⟨ret_bool (by first | rfl | (simp; done) | simp_all), hbel⟩

/-! ### THE ROW's STEP: WRITTEN OUT: LEAVE IT -/
set_option maxRecDepth 100000 in
theorem lifted (os : Os) (started : os.Started) (H : Type) (enc : TypeId × Value → H) :
    ReturnsInHanded {} Tryd.checked os 8 .any (fun w args => (Rows.fnRunPollsGoodSpec.pre enc Tryd.prog Tryd.f8 [] false w args ∧ laidMetH Tryd.prog laidL w) ∧ sizedMet enc Tryd.prog Tryd.f8 (OpenSpec.ofChange Rows.fnRunPollsGoodSpec) false w args) (Rows.fnRunPollsGoodSpec.post enc Tryd.prog Tryd.f8 false true false false) := by
  refine returnsInHanded_of_change_and (C := Tryd.checked) (X := fun w _ => laidMetH Tryd.prog laidL w) (fun _ _ _ hh h => h.of_heap hh) own started (by kernel_rfl) Tryd.func8
    (ChangeSpec.witness_shaped (enc := enc) (C := Tryd.checked) (os := os) (X := fun w _ => laidMetH Tryd.prog laidL w) false (World.doorLaid Tryd.prog 400 os) #[.slice none 0 0] 8 rfl (World.shaped_of_RefB (by kernel_rfl) (by kernel_rfl)) (by kernel_rfl) (by kernel_rfl) (by kernel_rfl) (door_met os _)) ?_
  intro W base args ds gs before hval0 hW _ _ hL _
  have hval : ∀ (j : Nat) t v, Tryd.f8.params[j]? = some t → args[j]? = some v → Value.okWide Tryd.prog W .any base t v := hval0
  have hW' := hW
  obtain ⟨p, q, hA0, hV, rfl, hfz, hnd⟩ := hW
  have hA : DataW.TrodAll enc Tryd.prog W 0 (fun _ => true) true Tryd.f8.params.toList args.toList ds p := hA0
  rw [Tryd.params8] at hA hval
  obtain ⟨v0, vs0, d0, ds0, p0, q0, hargs, rfl, rfl, h0, r0⟩ := trodAll_cons hA
  obtain ⟨rfl, rfl, rfl⟩ := trodAll_nil r0
  obtain rfl : args = #[v0] := by cases args; simp_all
  have hVk : DataW.TrodVars enc Tryd.prog W (fun _ => true) [VN] gs q := hV
  obtain ⟨vg, vt, vcs, vf, vd, vp, rfl, vh1, vh2, vh3, vh4, rfl⟩ := trodVars_one (n := VN) hV
  obtain ⟨a0, len0, cap0, rfl⟩ := okWide_slice Tryd.underlying22 (hval 0 22 v0 rfl rfl)
  have k0 := h0
  have lt0 : ∀ x ∈ p0, x.block < W.heap.size := by obtain ⟨m, hm⟩ := k0; exact DataW.trod_lt m _ _ _ hm
  obtain ⟨z0, w0⟩ : ∃ zs, IsRow .u8 W a0 len0 cap0 zs := by
    obtain ⟨fuel, hf⟩ := h0
    rcases open_ints Tryd.underlying22 Tryd.underlying5 (by kernel_rfl) hf with ⟨hcs, _⟩ | ⟨x, l, c, zs, hcs, _, hl, hm, hz, _, hcell, hwz⟩
    · simp [Value.cells] at hcs
      obtain ⟨rfl, rfl, rfl⟩ := hcs
      exact ⟨[], .inl ⟨rfl, rfl, rfl, rfl⟩⟩
    · simp [Value.cells] at hcs
      obtain ⟨rfl, rfl, rfl⟩ := hcs
      exact ⟨zs, .inr ⟨_, rfl, hl, hm, by simpa using hz, hcell, hwz⟩⟩
  clear hA0 hval0
  refine (walk a0 len0 cap0 z0 W w0 (of_laid hL)).mono fun e W' ⟨he, bel⟩ => ?_
  subst he
  exact ⟨_, rfl, _, _, _, [], _, _, hW', trodAll_mk1 (shut_bool Tryd.underlying4 _), (trodAll_cons_mk (Below.trod laidOut (by kernel_rfl) (of_decide_eq_true (by kernel_rfl)) k0 bel lt0) trodAll_mk0), Below.trodVars laidOut bel (by kernel_rfl) hVk, bel.frame _, fun h => by cases h⟩

theorem over : Rows.fnRunPollsGoodRow.holds Tryd.pinned (OpenSpec.ofChange Rows.fnRunPollsGoodSpec) :=
  OpenClaim.holds_of_wide 8 Tryd.f8 rfl rfl rfl rfl rfl rfl rfl ⟨rfl, rfl, rfl, rfl, rfl⟩ rfl rfl rfl rfl rfl (by kernel_rfl) Tryd.func8 (by kernel_rfl)
    (of_decide_eq_true (by kernel_rfl)) (by unfold Func.isWrapper; first | (rw [if_pos (by decide +kernel)]; kernel_rfl) | (rw [if_neg (by decide +kernel)]; exact ⟨rfl, rfl⟩))
    (fun os started H enc _ => lifted os started H enc)

/-- ████ THE STATEMENT ████ -/
theorem proved : Rows.FnRunPollsGoodCardSaid :=
  Claim7.holds_tied_plain_at .later [] [.data] true (true, "f2e49cd36c93ffb06ebc91e7e571fd3580a7b60fdc3852441a80230de0c8a5b1") false over (fun _ h => by cases h) (by kernel_rfl) (fun _ h => by cases h) fnRunPollsGood_row_tie rfl ⟨rfl, rfl⟩ (by kernel_rfl) rfl
    (fun f fn hf hfn => by
      obtain rfl : f = 8 := Option.some.inj ((show Tryd.prog.funcNamed "loop.example/satelliteclock/laws.FnRunPollsGood" = some 8 by kernel_rfl).symm.trans hf) |>.symm
      obtain rfl : fn = Tryd.f8 := (Option.some.inj (Tryd.func8.symm.trans hfn)).symm
      exact ⟨by kernel_rfl, fun j t ht => by
        rw [Tryd.params8] at ht
        have hm : t ∈ [22] := by simpa using Array.mem_of_getElem? ht
        have hall : ([22].all fun u => !Tryd.prog.wantsStandIn u) = true := by kernel_rfl
        exact (show Tryd.prog.wantsStandIn t = false by simpa using List.all_eq_true.1 hall t hm)⟩)
    (by kernel_rfl)
#print axioms proved
end Go.Proofs.YthbfjmlkcgcgaaaDoor.fnRunPollsGood
