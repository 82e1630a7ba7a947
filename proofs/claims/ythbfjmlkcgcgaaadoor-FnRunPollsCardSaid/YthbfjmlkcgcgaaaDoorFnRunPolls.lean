/-
  PROVED: FnRunPolls: for every input the law returns true, and the input reads as it did. The condition that the row lists: the table of rules (impl.pollRules) holds what the program lays in it; the given tie says that it does.
  The frame is as the kit prints it (proof-skeleton.mjs); the walk is mine.
-/
import Derived.Test.YthbfjmlkcgcgaaaDoorRows
import Derived.Test.YthbfjmlkcgcgaaaDoorRunL
import Derived.Test.YthbfjmlkcgcgaaaDoorDrawRun
import Derived.Test.YthbfjmlkcgcgaaaDoorDoor
import Derived.Test.YthbfjmlkcgcgaaaDoorTie
import Derived.Test.YthbfjmlkcgcgaaaDoorCards
import Derived.LaidMore
import Derived.OpenVars
import Derived.ChangeVars
import Derived.SevenTiedAt
import Derived.WalkKit
import Derived.ProofKit
import Derived.OpenShut
import Derived.ShutString
import Derived.ChangeOld
import Derived.Below
namespace Go.Proofs.YthbfjmlkcgcgaaaDoor.fnRunPolls
open Go.ChangeShapes Go.WideShapes Go.ChangeAt Go.RowKit
open Go.ChangeMaps (open_string shut_string)
set_option linter.unusedVariables false

theorem own : ownKnob Tryd.prog.godebug = none := by kernel_rfl
theorem laidOut : laidOutB Tryd.prog = true := by kernel_rfl

/-- WHAT THE WALK IS TOLD OF A SLICE OF INTEGERS THAT CAME IN: it is nil; or it leads to a row of 'cap' cells, the numbers 'zs' (the first 'len' are its elements, the rest its spare room), each fitting its kind. -/
def IsRow (k : IntKind) (w : World) (a : Option Addr) (len cap : Nat) (zs : List Int) : Prop :=
  (a = none ∧ len = 0 ∧ cap = 0 ∧ zs = []) ∨
  ∃ x, a = some x ∧ len ≤ cap ∧ cap ≤ maxLen ∧ zs.length = cap ∧ (∀ i, i < zs.length → w.cell? (x.add i) = some (.int k (zs.getD i 0))) ∧ ∀ n ∈ zs, (Lit.int k n).wf = true

/-! ### STEP 1: THE WALK: the Go text returns true, AND WRITES NOTHING THAT WAS THERE: 'Below w.heap.size w w'' (Derived/Below.lean: '.refl', '.alloc', '.drew', '.setCell' at a new block, '.trans'). Open each 'IsRow' by 'rcases' AHEAD of 'go_enter'; part every test ahead of the walk. -/
theorem run_parts {p c j : Int} {l : List Int} (hk : J.rk (p, c) l j = true) (m : Nat) (hm : m ≤ l.length) : ∃ X Y X9 Y9 T T1 T2 : Int,
    (J.rn (p, c) l j l.length = (X, Y) ∧ J.rt (p, c) l j l.length = T) ∧
    (J.rk (p, c) (l.take m) j = true ∧ J.rn (p, c) (l.take m) j (l.take m).length = (X9, Y9) ∧ J.rt (p, c) (l.take m) j (l.take m).length = T1) ∧
    (J.rk (X9, Y9) (l.drop m) j = true ∧ J.rn (X9, Y9) (l.drop m) j (l.drop m).length = (X, Y) ∧ J.rt (X9, Y9) (l.drop m) j (l.drop m).length = T2) ∧
    T1 + T2 = T ∧ (0 ≤ T1 ∧ T1 ≤ 40000) ∧ 0 ≤ T2 ∧ T2 ≤ 40000 := by
  obtain ⟨hv, hj, hl, hg⟩ := J.rk_of hk
  have hv9 := J.rn_vp (l := l) (j := j) hv m
  have ht1 := J.rn_take (p, c) l j m m (Nat.le_refl _)
  have ht2 := J.rn_drop (p, c) l j m (l.length - m)
  rw [show m + (l.length - m) = l.length by omega] at ht2
  have hlt : (l.take m).length = m := by rw [List.length_take]; omega
  have hld : (l.drop m).length = l.length - m := List.length_drop
  have hb1 := J.rt_bd (l := l) (j := j) hv m
  have hb2 := J.rt_bd (s := J.rn (p, c) l j m) (l := l.drop m) (j := j) hv9 (l.length - m)
  have hk1 : J.rk (p, c) (l.take m) j = true := J.rk_yes ⟨hv, hj, by omega, fun i hi => by
    have h1 : L.g (l.take m) i = L.g l i := by
      unfold L.g
      rw [List.getD_eq_getElem?_getD, List.getD_eq_getElem?_getD, List.getElem?_take_of_lt (by omega)]
    rw [h1]
    exact hg i (by omega)⟩
  have hk2 : J.rk (J.rn (p, c) l j m) (l.drop m) j = true := J.rk_yes ⟨hv9, hj, by omega, fun i hi => by
    have h1 : L.g (l.drop m) i = L.g l (m + i) := by
      unfold L.g
      rw [List.getD_eq_getElem?_getD, List.getD_eq_getElem?_getD, List.getElem?_drop]
    rw [h1]
    exact hg _ (by omega)⟩
  rw [hlt, hld, ht1.1, ht1.2]
  generalize hs : J.rn (p, c) l j m = s9 at *
  obtain ⟨X9, Y9⟩ := s9
  generalize hS : J.rn (p, c) l j l.length = S at *
  obtain ⟨X, Y⟩ := S
  exact ⟨X, Y, X9, Y9, _, _, _, ⟨rfl, rfl⟩, ⟨hk1, rfl, rfl⟩, ⟨hk2, ht2.1, rfl⟩, ht2.2, by omega, by omega⟩
set_option maxRecDepth 100000 in
set_option maxHeartbeats 4000000 in
theorem walk (a0 : Option Addr) (len0 cap0 : Nat) (z0 : List Int) (w : World) (w0 : IsRow .u8 w a0 len0 cap0 z0) (hg : Gl w) :
    Calls Tryd.prog 6 #[.slice a0 len0 cap0] w fun e w' => e = .returned (.bool true) ∧ Below w.heap.size w w' := by
  by_cases hl : 1048576 < len0
  · have hl' : (1048576 : Int) < (len0 : Int) := by omega
    clear w0 hl
    go_enter Tryd.func6, Tryd.ntmps6
    go_wp2
    go_ret
    exact ⟨rfl, Below.refl _ _⟩
  have hl' : ¬ (1048576 : Int) < (len0 : Int) := by omega
  obtain ⟨hc, hcap⟩ := code_of w0 (by omega)
  clear w0 hl
  go_enter Tryd.func6, Tryd.ntmps6
  go_wp2_with fail
  refine (DrawRunPolls_any w a0 len0 cap0 hc hcap).mono ?_
  rintro e w1 ⟨p, c, j, a, n, cp, l, rfl, hls, hn32, hncp, hcpm, hsm, hj, bl⟩
  clear hc hcap
  have g1 := (hg.b bl).al (.cells #[.int .i64 p, .int .i64 c] 24)
  have p1 := P2.new w1 p c 24
  have l1 := (hls.below ((Below.refl _ _).alloc (Nat.le_refl _) (.cells #[.int .i64 p, .int .i64 c] 24))).more (show w1.heap.size ≤ (w1.alloc (.cells #[.int .i64 p, .int .i64 c] 24)).heap.size by simp)
  have b1 := bl.alloc bl.size (.cells #[.int .i64 p, .int .i64 c] 24)
  have hln := hls.1
  subst hln
  clear bl hg hls hsm
  rcases hk : J.rk (p, c) l j with _ | _
  · have K1k := fun a' n' cp' w' (h' : Lst w'.heap.size w' a' n' (l)) (hg' : Gl w') => RPi_no p c j (l) hk a' n' cp' w' h' hg'
    have K1 := Lib.hid K1k
    clear K1k
    have K2k := fun a' n' cp' w' (h' : Lst w'.heap.size w' a' n' (l)) => RPs_no p c j (l) hk a' n' cp' w' h'
    have K2 := Lib.hid K2k
    clear K2k
    clear hk
    have pc0 := p1.c0
    have pc1 := p1.c1
    go_wp2_with fail
    refine (K1.out _ _ _ _ l1 g1).mono ?_
    rintro e w2 ⟨rfl, bb⟩
    clear pc0 pc1
    have p2 := p1.b bb
    have l2 := (l1.below bb).more bb.size
    have g2 := g1.b bb
    have b2 := b1.trans (bb.mono b1.size)
    clear p1 l1 g1 b1 bb
    replace p2 := p2.al (.cells #[.int .i64 0, .int .i64 0] 24)
    replace g2 := g2.al (.cells #[.int .i64 0, .int .i64 0] 24)
    replace l2 := (l2.below ((Below.refl _ _).alloc (Nat.le_refl _) (.cells #[.int .i64 0, .int .i64 0] 24))).more (show w2.heap.size ≤ (w2.alloc (.cells #[.int .i64 0, .int .i64 0] 24)).heap.size by simp)
    replace b2 := b2.alloc b2.size (.cells #[.int .i64 0, .int .i64 0] 24)
    have q2 := P2.new w2 0 0 24
    have pc0 := p2.c0
    have pc1 := p2.c1
    go_wp2_with fail
    refine (K2.out _ _ _ _ l2).mono ?_
    rintro e w3 ⟨rfl, bb⟩
    clear pc0 pc1
    have p3 := p2.b bb
    have q3 := q2.b bb
    have l3 := (l2.below bb).more bb.size
    have g3 := g2.b bb
    have b3 := b2.trans (bb.mono b2.size)
    clear p2 q2 l2 g2 b2 bb
    replace p3 := p3.al (.cells #[.int .i64 0, .int .i64 0] 24)
    replace q3 := q3.al (.cells #[.int .i64 0, .int .i64 0] 24)
    replace g3 := g3.al (.cells #[.int .i64 0, .int .i64 0] 24)
    replace l3 := (l3.below ((Below.refl _ _).alloc (Nat.le_refl _) (.cells #[.int .i64 0, .int .i64 0] 24))).more (show w3.heap.size ≤ (w3.alloc (.cells #[.int .i64 0, .int .i64 0] 24)).heap.size by simp)
    replace b3 := b3.alloc b3.size (.cells #[.int .i64 0, .int .i64 0] 24)
    have r3 := P2.new w3 0 0 24
    have qc0 := q3.c0
    have qc1 := q3.c1
    have rc0 := r3.c0
    have rc1 := r3.c1
    go_wp2
    go_ret
    exact ⟨ret_bool (by first | rfl | (simp; done) | simp_all), b3⟩
  · have hl30 := (J.rk_of hk).2.2.1
    have hml : l.length / 2 ≤ l.length := by omega
    obtain ⟨X, Y, X9, Y9, T, T1, T2, ⟨e1, e2⟩, ⟨k4, e3, e4⟩, ⟨k5, e5, e6⟩, hsum, ht1, ht2⟩ := run_parts hk (l.length / 2) hml
    have K1k := fun a' n' cp' w' (h' : Lst w'.heap.size w' a' n' l) (hg' : Gl w') => RPi_yes p c j l hk a' n' cp' w' h' hg'
    have K2k := fun a' n' cp' w' (h' : Lst w'.heap.size w' a' n' l) => RPs_yes p c j l hk a' n' cp' w' h'
    simp only [e1, e2] at K1k K2k
    generalize hm : l.length / 2 = m at *
    have K4k := fun a' n' cp' w' (h' : Lst w'.heap.size w' a' n' (l.take m)) (hg' : Gl w') => RPi_yes p c j (l.take m) k4 a' n' cp' w' h' hg'
    have K5k := fun a' n' cp' w' (h' : Lst w'.heap.size w' a' n' (l.drop m)) (hg' : Gl w') => RPi_yes X9 Y9 j (l.drop m) k5 a' n' cp' w' h' hg'
    simp only [e3, e4] at K4k
    simp only [e5, e6] at K5k
    have K1 := Lib.hid K1k
    have K2 := Lib.hid K2k
    have hsb : (T1 + T2 == T) = true := by rw [beq_iff_eq]; exact hsum
    have HS := Lib.hid hsum
    clear e1 e2 e3 e4 e5 e6 k4 k5 hk K1k K2k hsum hj
    rcases Nat.eq_zero_or_pos l.length with hln | hln
    · obtain rfl : l = [] := List.length_eq_zero_iff.mp hln
      obtain rfl : m = 0 := by simpa using hm.symm
      simp only [List.take_nil, List.drop_nil] at K4k K5k
      simp only [List.length_nil] at l1
      have K4 := Lib.hid K4k
      have K5 := Lib.hid K5k
      clear K4k K5k hm hln hl30
      have pc0 := p1.c0
      have pc1 := p1.c1
      go_wp2_with fail
      refine (K1.out _ _ _ _ l1 g1).mono ?_
      rintro e w2 ⟨rfl, bb⟩
      clear pc0 pc1
      have p2 := p1.b bb
      have l2 := (l1.below bb).more bb.size
      have g2 := g1.b bb
      have b2 := b1.trans (bb.mono b1.size)
      clear p1 l1 g1 b1 bb
      replace p2 := p2.al (.cells #[.int .i64 X, .int .i64 Y] 24)
      replace g2 := g2.al (.cells #[.int .i64 X, .int .i64 Y] 24)
      replace l2 := (l2.below ((Below.refl _ _).alloc (Nat.le_refl _) (.cells #[.int .i64 X, .int .i64 Y] 24))).more (show w2.heap.size ≤ (w2.alloc (.cells #[.int .i64 X, .int .i64 Y] 24)).heap.size by simp)
      replace b2 := b2.alloc b2.size (.cells #[.int .i64 X, .int .i64 Y] 24)
      have q2 := P2.new w2 X Y 24
      have pc0 := p2.c0
      have pc1 := p2.c1
      go_wp2_with fail
      refine (K2.out _ _ _ _ l2).mono ?_
      rintro e w3 ⟨rfl, bb⟩
      clear pc0 pc1
      have p3 := p2.b bb
      have q3 := q2.b bb
      have l3 := (l2.below bb).more bb.size
      have g3 := g2.b bb
      have b3 := b2.trans (bb.mono b2.size)
      clear p2 q2 l2 g2 b2 bb
      replace p3 := p3.al (.cells #[.int .i64 X, .int .i64 Y] 24)
      replace q3 := q3.al (.cells #[.int .i64 X, .int .i64 Y] 24)
      replace g3 := g3.al (.cells #[.int .i64 X, .int .i64 Y] 24)
      replace l3 := (l3.below ((Below.refl _ _).alloc (Nat.le_refl _) (.cells #[.int .i64 X, .int .i64 Y] 24))).more (show w3.heap.size ≤ (w3.alloc (.cells #[.int .i64 X, .int .i64 Y] 24)).heap.size by simp)
      replace b3 := b3.alloc b3.size (.cells #[.int .i64 X, .int .i64 Y] 24)
      have r3 := P2.new w3 X Y 24
      have pc0 := p3.c0
      have pc1 := p3.c1
      have qc0 := q3.c0
      have qc1 := q3.c1
      have rc0 := r3.c0
      have rc1 := r3.c1
      go_wp2_with fail
      have G9 : RG w (w3.alloc (.cells #[.int .i64 X, .int .i64 Y] 24)) w1.heap.size p c w2.heap.size X Y a 0 ([] : List Int) := ⟨p3, q3, l3, g3, b3⟩
      clear pc0 pc1 qc0 qc1 rc0 rc1
      clear p3 q3 r3 l3 g3 b3
      generalize w3.alloc (.cells #[.int .i64 X, .int .i64 Y] 24) = W3 at *
      generalize w1.heap.size = D1 at *
      generalize w2.heap.size = D2 at *
      generalize w3.heap.size = D3 at *
      refine wp_region_held_drew (S := (fun w' => w'.cell? ⟨D1, 0, none⟩ = some (.int .i64 p) ∧ w'.cell? ⟨D1, 1, none⟩ = some (.int .i64 c))) (by kernel_rfl) (G9.keep0) (fun hHeld => ?_)
      have G9 := G9.drew
      generalize W3.drew = V9 at *
      refine wpAnyH_take (i := 0) (v := ?_) rfl (by kernel_rfl) (by kernel_rfl) (by kernel_rfl) (fun _ _ _ h => h) (Or.inl ⟨by rfl, ?_⟩) (by assumption) ?_
      rotate_left
      · intro w hSw
        (try dsimp only at hSw)
        go_simp
        all_goals with_reducible rfl
      try simp only [Act.put, List.setIfInBounds_toArray, List.set_cons_zero, List.set_cons_succ, List.getElem_toArray, List.getElem_cons_zero]
      refine wpAnyH_take (i := 1) (v := ?_) rfl (by kernel_rfl) (by kernel_rfl) (by kernel_rfl) (fun _ _ _ h => h) (Or.inl ⟨by rfl, ?_⟩) (by assumption) ?_
      rotate_left
      · intro w hSw
        (try dsimp only at hSw)
        go_simp
        all_goals with_reducible rfl
      try simp only [Act.put, List.setIfInBounds_toArray, List.set_cons_zero, List.set_cons_succ, List.getElem_toArray, List.getElem_cons_zero, List.getElem_cons_succ]
      refine wpAnyH_take (i := 2) (v := ?_) rfl (by kernel_rfl) (by kernel_rfl) (by kernel_rfl) (fun _ _ _ h => h) (Or.inl ⟨by rfl, ?_⟩) (by assumption) ?_
      rotate_left
      · intro w hSw
        (try dsimp only at hSw)
        go_simp
        all_goals with_reducible rfl
      try simp only [Act.put, List.setIfInBounds_toArray, List.set_cons_zero, List.set_cons_succ, List.getElem_toArray, List.getElem_cons_zero, List.getElem_cons_succ]
      refine wpAnyH_take (i := 3) (v := ?_) rfl (by kernel_rfl) (by kernel_rfl) (by kernel_rfl) (fun _ _ _ h => h) (Or.inl ⟨by rfl, ?_⟩) (by assumption) ?_
      rotate_left
      · intro w hSw
        (try dsimp only at hSw)
        go_simp
        all_goals with_reducible rfl
      try simp only [Act.put, List.setIfInBounds_toArray, List.set_cons_zero, List.set_cons_succ, List.getElem_toArray, List.getElem_cons_zero, List.getElem_cons_succ]
      refine wpAnyH_take (i := 4) (v := ?_) rfl (by kernel_rfl) (by kernel_rfl) (by kernel_rfl) (fun _ _ _ h => h) (Or.inl ⟨by rfl, ?_⟩) (by assumption) ?_
      rotate_left
      · intro w hSw
        (try dsimp only at hSw)
        go_simp
        all_goals with_reducible rfl
      try simp only [Act.put, List.setIfInBounds_toArray, List.set_cons_zero, List.set_cons_succ, List.getElem_toArray, List.getElem_cons_zero, List.getElem_cons_succ]
      refine wpAnyH_ready (rs := [5, 10]) (by kernel_rfl) (by simp) ?_
      refine AllReadyH.cons rfl (fun K hK => ?_) (AllReadyH.cons rfl (fun K hK => ?_) AllReadyH.nil)
      · go_simp
        (go_at_call 17; refine (K4.out _ _ _ _ (Lst.any0 _ _ _) G9.g).mono ?_; rintro e w95 ⟨rfl, b95⟩)
        refine hK.out _ _ (G9.keep2 b95) (fun hHeld => ?_)
        clear hK K
        try simp only [Act.put, List.setIfInBounds_toArray, List.set_cons_zero, List.set_cons_succ, List.getElem_toArray, List.getElem_cons_zero, List.getElem_cons_succ]
        refine wpAnyH_take (i := 6) (v := ?_) rfl (by kernel_rfl) (by kernel_rfl) (by kernel_rfl) (fun _ _ _ h => h) (Or.inl ⟨by rfl, ?_⟩) (by assumption) ?_
        rotate_left
        · intro w hSw
          (try dsimp only at hSw)
          go_simp
          all_goals with_reducible rfl
        try simp only [Act.put, List.setIfInBounds_toArray, List.set_cons_zero, List.set_cons_succ, List.getElem_toArray, List.getElem_cons_zero, List.getElem_cons_succ]
        refine wpAnyH_take (i := 7) (v := ?_) rfl (by kernel_rfl) (by kernel_rfl) (by kernel_rfl) (fun _ _ _ h => h) (Or.inl ⟨by rfl, ?_⟩) (by assumption) ?_
        rotate_left
        · intro w hSw
          (try dsimp only at hSw)
          go_simp
          all_goals with_reducible rfl
        try simp only [Act.put, List.setIfInBounds_toArray, List.set_cons_zero, List.set_cons_succ, List.getElem_toArray, List.getElem_cons_zero, List.getElem_cons_succ]
        refine wpAnyH_take (i := 8) (v := ?_) rfl (by kernel_rfl) (by kernel_rfl) (by kernel_rfl) (fun _ _ _ h => h) (Or.inl ⟨by rfl, ?_⟩) (by assumption) ?_
        rotate_left
        · intro w hSw
          (try dsimp only at hSw)
          go_simp
          all_goals with_reducible rfl
        try simp only [Act.put, List.setIfInBounds_toArray, List.set_cons_zero, List.set_cons_succ, List.getElem_toArray, List.getElem_cons_zero, List.getElem_cons_succ]
        refine wpAnyH_take (i := 9) (v := ?_) rfl (by kernel_rfl) (by kernel_rfl) (by kernel_rfl) (fun _ _ _ h => h) (Or.inl ⟨by rfl, ?_⟩) (by assumption) ?_
        rotate_left
        · intro w hSw
          (try dsimp only at hSw)
          go_simp
          all_goals with_reducible rfl
        try simp only [Act.put, List.setIfInBounds_toArray, List.set_cons_zero, List.set_cons_succ, List.getElem_toArray, List.getElem_cons_zero, List.getElem_cons_succ]
        have ZZ := Zp2.new w95 24
        have bX := b95.alloc b95.size (.cells #[.int .i64 0, .int .i64 0] 24)
        have hE := b95.size
        refine wpAnyH_ready (rs := [10]) (by kernel_rfl) (by simp) ?_
        refine AllReadyH.cons rfl (fun K hK => ?_) AllReadyH.nil
        go_simp
        skip
        refine hK.out _ _ (G9.keep2 bX) (fun hHeld => ?_)
        clear hK K
        try simp only [Act.put, List.setIfInBounds_toArray, List.set_cons_zero, List.set_cons_succ, List.getElem_toArray, List.getElem_cons_zero, List.getElem_cons_succ]
        clear b95
        generalize w95.alloc (.cells #[.int .i64 0, .int .i64 0] 24) = X5 at *
        generalize w95.heap.size = E9 at *
        have e0 := ZZ.c0
        have e1 := ZZ.c1
        have h0 := ZZ.f0
        have h1 := ZZ.f1
        obtain ⟨v0, v1⟩ := Zp2.to (u := (.int .i64 X9)) (v := (.int .i64 Y9)) ZZ
        have bF := (bX.setCell (p := ⟨E9, 0, none⟩) hE (.int .i64 X9)).setCell (p := ⟨E9, 1, none⟩) hE (.int .i64 Y9)
        refine wpAnyH_ready (rs := [11]) (by kernel_rfl) (by simp) ?_
        refine AllReadyH.cons rfl (fun K hK => ?_) AllReadyH.nil
        go_simp
        skip
        refine hK.out _ _ (G9.keep2 bF) (fun hHeld => ?_)
        clear hK K
        try simp only [Act.put, List.setIfInBounds_toArray, List.set_cons_zero, List.set_cons_succ, List.getElem_toArray, List.getElem_cons_zero, List.getElem_cons_succ]
        have hlt : E9 < ((X5.setCell ⟨E9, 0, none⟩ (.int .i64 X9)).setCell ⟨E9, 1, none⟩ (.int .i64 Y9)).heap.size := World.block_lt_of_cell? _ _ v0
        refine wpAnyH_take (i := 12) (v := ?_) rfl (by kernel_rfl) (by kernel_rfl) (by kernel_rfl) (fun _ _ _ h => h) (Or.inl ⟨by rfl, ?_⟩) (by assumption) ?_
        rotate_left
        · intro w hSw
          (try dsimp only at hSw)
          go_simp
          all_goals with_reducible rfl
        try simp only [Act.put, List.setIfInBounds_toArray, List.set_cons_zero, List.set_cons_succ, List.getElem_toArray, List.getElem_cons_zero, List.getElem_cons_succ]
        refine wpAnyH_take (i := 13) (v := ?_) rfl (by kernel_rfl) (by kernel_rfl) (by kernel_rfl) (fun _ _ _ h => h) (Or.inl ⟨by rfl, ?_⟩) (by assumption) ?_
        rotate_left
        · intro w hSw
          (try dsimp only at hSw)
          go_simp
          all_goals with_reducible rfl
        try simp only [Act.put, List.setIfInBounds_toArray, List.set_cons_zero, List.set_cons_succ, List.getElem_toArray, List.getElem_cons_zero, List.getElem_cons_succ]
        refine wpAnyH_done (by kernel_rfl) ?_ _
        clear hHeld e0 e1 h0 h1 bX ZZ
        generalize (X5.setCell ⟨E9, 0, none⟩ (.int .i64 X9)).setCell ⟨E9, 1, none⟩ (.int .i64 Y9) = W9 at *
        have G10 : RG w W9 E9 X9 Y9 D2 X Y a 0 ([] : List Int) := ⟨⟨v0, v1, hlt⟩, (G9.b bF).q, (G9.b bF).ls, (G9.b bF).g, (G9.b bF).bel⟩
        clear G9 bF v0 v1 hE hlt
        go_wp2_with fail
        refine wp_region_held_drew (S := (fun w' => w'.cell? ⟨E9, 0, none⟩ = some (.int .i64 X9) ∧ w'.cell? ⟨E9, 1, none⟩ = some (.int .i64 Y9))) (by kernel_rfl) (G10.keep0) (fun hHeld => ?_)
        have G10 := G10.drew
        generalize W9.drew = V10 at *
        refine wpAnyH_take (i := 0) (v := ?_) rfl (by kernel_rfl) (by kernel_rfl) (by kernel_rfl) (fun _ _ _ h => h) (Or.inl ⟨by rfl, ?_⟩) (by assumption) ?_
        rotate_left
        · intro w hSw
          (try dsimp only at hSw)
          go_simp
          all_goals with_reducible rfl
        try simp only [Act.put, List.setIfInBounds_toArray, List.set_cons_zero, List.set_cons_succ, List.getElem_toArray, List.getElem_cons_zero]
        refine wpAnyH_take (i := 1) (v := ?_) rfl (by kernel_rfl) (by kernel_rfl) (by kernel_rfl) (fun _ _ _ h => h) (Or.inl ⟨by rfl, ?_⟩) (by assumption) ?_
        rotate_left
        · intro w hSw
          (try dsimp only at hSw)
          go_simp
          all_goals with_reducible rfl
        try simp only [Act.put, List.setIfInBounds_toArray, List.set_cons_zero, List.set_cons_succ, List.getElem_toArray, List.getElem_cons_zero, List.getElem_cons_succ]
        refine wpAnyH_take (i := 2) (v := ?_) rfl (by kernel_rfl) (by kernel_rfl) (by kernel_rfl) (fun _ _ _ h => h) (Or.inl ⟨by rfl, ?_⟩) (by assumption) ?_
        rotate_left
        · intro w hSw
          (try dsimp only at hSw)
          go_simp
          all_goals with_reducible rfl
        try simp only [Act.put, List.setIfInBounds_toArray, List.set_cons_zero, List.set_cons_succ, List.getElem_toArray, List.getElem_cons_zero, List.getElem_cons_succ]
        refine wpAnyH_take (i := 3) (v := ?_) rfl (by kernel_rfl) (by kernel_rfl) (by kernel_rfl) (fun _ _ _ h => h) (Or.inl ⟨by rfl, ?_⟩) (by assumption) ?_
        rotate_left
        · intro w hSw
          (try dsimp only at hSw)
          go_simp
          all_goals with_reducible rfl
        try simp only [Act.put, List.setIfInBounds_toArray, List.set_cons_zero, List.set_cons_succ, List.getElem_toArray, List.getElem_cons_zero, List.getElem_cons_succ]
        refine wpAnyH_take (i := 4) (v := ?_) rfl (by kernel_rfl) (by kernel_rfl) (by kernel_rfl) (fun _ _ _ h => h) (Or.inl ⟨by rfl, ?_⟩) (by assumption) ?_
        rotate_left
        · intro w hSw
          (try dsimp only at hSw)
          go_simp
          all_goals with_reducible rfl
        try simp only [Act.put, List.setIfInBounds_toArray, List.set_cons_zero, List.set_cons_succ, List.getElem_toArray, List.getElem_cons_zero, List.getElem_cons_succ]
        refine wpAnyH_ready (rs := [5, 10]) (by kernel_rfl) (by simp) ?_
        refine AllReadyH.cons rfl (fun K hK => ?_) (AllReadyH.cons rfl (fun K hK => ?_) AllReadyH.nil)
        · go_simp
          (go_at_call 17; refine (K5.out _ _ _ _ (Lst.any0 _ _ _) G10.g).mono ?_; rintro e w105 ⟨rfl, b105⟩)
          refine hK.out _ _ (G10.keep2 b105) (fun hHeld => ?_)
          clear hK K
          try simp only [Act.put, List.setIfInBounds_toArray, List.set_cons_zero, List.set_cons_succ, List.getElem_toArray, List.getElem_cons_zero, List.getElem_cons_succ]
          refine wpAnyH_take (i := 6) (v := ?_) rfl (by kernel_rfl) (by kernel_rfl) (by kernel_rfl) (fun _ _ _ h => h) (Or.inl ⟨by rfl, ?_⟩) (by assumption) ?_
          rotate_left
          · intro w hSw
            (try dsimp only at hSw)
            go_simp
            all_goals with_reducible rfl
          try simp only [Act.put, List.setIfInBounds_toArray, List.set_cons_zero, List.set_cons_succ, List.getElem_toArray, List.getElem_cons_zero, List.getElem_cons_succ]
          refine wpAnyH_take (i := 7) (v := ?_) rfl (by kernel_rfl) (by kernel_rfl) (by kernel_rfl) (fun _ _ _ h => h) (Or.inl ⟨by rfl, ?_⟩) (by assumption) ?_
          rotate_left
          · intro w hSw
            (try dsimp only at hSw)
            go_simp
            all_goals with_reducible rfl
          try simp only [Act.put, List.setIfInBounds_toArray, List.set_cons_zero, List.set_cons_succ, List.getElem_toArray, List.getElem_cons_zero, List.getElem_cons_succ]
          refine wpAnyH_take (i := 8) (v := ?_) rfl (by kernel_rfl) (by kernel_rfl) (by kernel_rfl) (fun _ _ _ h => h) (Or.inl ⟨by rfl, ?_⟩) (by assumption) ?_
          rotate_left
          · intro w hSw
            (try dsimp only at hSw)
            go_simp
            all_goals with_reducible rfl
          try simp only [Act.put, List.setIfInBounds_toArray, List.set_cons_zero, List.set_cons_succ, List.getElem_toArray, List.getElem_cons_zero, List.getElem_cons_succ]
          refine wpAnyH_take (i := 9) (v := ?_) rfl (by kernel_rfl) (by kernel_rfl) (by kernel_rfl) (fun _ _ _ h => h) (Or.inl ⟨by rfl, ?_⟩) (by assumption) ?_
          rotate_left
          · intro w hSw
            (try dsimp only at hSw)
            go_simp
            all_goals with_reducible rfl
          try simp only [Act.put, List.setIfInBounds_toArray, List.set_cons_zero, List.set_cons_succ, List.getElem_toArray, List.getElem_cons_zero, List.getElem_cons_succ]
          have ZZ := Zp2.new w105 24
          have bX := b105.alloc b105.size (.cells #[.int .i64 0, .int .i64 0] 24)
          have hE := b105.size
          refine wpAnyH_ready (rs := [10]) (by kernel_rfl) (by simp) ?_
          refine AllReadyH.cons rfl (fun K hK => ?_) AllReadyH.nil
          go_simp
          skip
          refine hK.out _ _ (G10.keep2 bX) (fun hHeld => ?_)
          clear hK K
          try simp only [Act.put, List.setIfInBounds_toArray, List.set_cons_zero, List.set_cons_succ, List.getElem_toArray, List.getElem_cons_zero, List.getElem_cons_succ]
          clear b105
          generalize w105.alloc (.cells #[.int .i64 0, .int .i64 0] 24) = X5 at *
          generalize w105.heap.size = E10 at *
          have e0 := ZZ.c0
          have e1 := ZZ.c1
          have h0 := ZZ.f0
          have h1 := ZZ.f1
          obtain ⟨v0, v1⟩ := Zp2.to (u := (.int .i64 X)) (v := (.int .i64 Y)) ZZ
          have bF := (bX.setCell (p := ⟨E10, 0, none⟩) hE (.int .i64 X)).setCell (p := ⟨E10, 1, none⟩) hE (.int .i64 Y)
          refine wpAnyH_ready (rs := [11]) (by kernel_rfl) (by simp) ?_
          refine AllReadyH.cons rfl (fun K hK => ?_) AllReadyH.nil
          go_simp
          skip
          refine hK.out _ _ (G10.keep2 bF) (fun hHeld => ?_)
          clear hK K
          try simp only [Act.put, List.setIfInBounds_toArray, List.set_cons_zero, List.set_cons_succ, List.getElem_toArray, List.getElem_cons_zero, List.getElem_cons_succ]
          have hlt : E10 < ((X5.setCell ⟨E10, 0, none⟩ (.int .i64 X)).setCell ⟨E10, 1, none⟩ (.int .i64 Y)).heap.size := World.block_lt_of_cell? _ _ v0
          refine wpAnyH_take (i := 12) (v := ?_) rfl (by kernel_rfl) (by kernel_rfl) (by kernel_rfl) (fun _ _ _ h => h) (Or.inl ⟨by rfl, ?_⟩) (by assumption) ?_
          rotate_left
          · intro w hSw
            (try dsimp only at hSw)
            go_simp
            all_goals with_reducible rfl
          try simp only [Act.put, List.setIfInBounds_toArray, List.set_cons_zero, List.set_cons_succ, List.getElem_toArray, List.getElem_cons_zero, List.getElem_cons_succ]
          refine wpAnyH_take (i := 13) (v := ?_) rfl (by kernel_rfl) (by kernel_rfl) (by kernel_rfl) (fun _ _ _ h => h) (Or.inl ⟨by rfl, ?_⟩) (by assumption) ?_
          rotate_left
          · intro w hSw
            (try dsimp only at hSw)
            go_simp
            all_goals with_reducible rfl
          try simp only [Act.put, List.setIfInBounds_toArray, List.set_cons_zero, List.set_cons_succ, List.getElem_toArray, List.getElem_cons_zero, List.getElem_cons_succ]
          refine wpAnyH_done (by kernel_rfl) ?_ _
          clear hHeld e0 e1 h0 h1 bX ZZ
          generalize (X5.setCell ⟨E10, 0, none⟩ (.int .i64 X)).setCell ⟨E10, 1, none⟩ (.int .i64 Y) = WX at *
          have hbel := (G10.b bF).bel
          have y0 := (G10.b bF).q.c0
          have y1 := (G10.b bF).q.c1
          clear bF G10 hE hlt
          go_wp2
          go_ret
          exact ⟨ret_bool (by first | rfl | (simp; done) | simp_all), hbel⟩
        · go_simp
          have bZ := (Below.refl V10.heap.size V10).alloc (Nat.le_refl _) (.cells #[.int .i64 0, .int .i64 0] 24)
          refine hK.out _ _ (G10.keep2 bZ) (fun hHeld => ?_)
          clear hK K
          try simp only [Act.put, List.setIfInBounds_toArray, List.set_cons_zero, List.set_cons_succ, List.getElem_toArray, List.getElem_cons_zero, List.getElem_cons_succ]
          have G10z := G10.al (.cells #[.int .i64 0, .int .i64 0] 24)
          have ZZ := Zp2.new V10 24
          refine wpAnyH_ready (rs := [5]) (by kernel_rfl) (by simp) ?_
          refine AllReadyH.cons rfl (fun K hK => ?_) AllReadyH.nil
          go_simp
          (go_at_call 17; refine (K5.out _ _ _ _ (Lst.any0 _ _ _) G10z.g).mono ?_; rintro e w105 ⟨rfl, b105⟩)
          refine hK.out _ _ (G10z.keep2 b105) (fun hHeld => ?_)
          clear hK K
          try simp only [Act.put, List.setIfInBounds_toArray, List.set_cons_zero, List.set_cons_succ, List.getElem_toArray, List.getElem_cons_zero, List.getElem_cons_succ]
          have ZZ := ZZ.b b105
          have bX := bZ.trans (b105.mono bZ.size)
          have hE := Nat.le_refl V10.heap.size
          clear b105 bZ G10z
          refine wpAnyH_take (i := 6) (v := ?_) rfl (by kernel_rfl) (by kernel_rfl) (by kernel_rfl) (fun _ _ _ h => h) (Or.inl ⟨by rfl, ?_⟩) (by assumption) ?_
          rotate_left
          · intro w hSw
            (try dsimp only at hSw)
            go_simp
            all_goals with_reducible rfl
          try simp only [Act.put, List.setIfInBounds_toArray, List.set_cons_zero, List.set_cons_succ, List.getElem_toArray, List.getElem_cons_zero, List.getElem_cons_succ]
          refine wpAnyH_take (i := 7) (v := ?_) rfl (by kernel_rfl) (by kernel_rfl) (by kernel_rfl) (fun _ _ _ h => h) (Or.inl ⟨by rfl, ?_⟩) (by assumption) ?_
          rotate_left
          · intro w hSw
            (try dsimp only at hSw)
            go_simp
            all_goals with_reducible rfl
          try simp only [Act.put, List.setIfInBounds_toArray, List.set_cons_zero, List.set_cons_succ, List.getElem_toArray, List.getElem_cons_zero, List.getElem_cons_succ]
          refine wpAnyH_take (i := 8) (v := ?_) rfl (by kernel_rfl) (by kernel_rfl) (by kernel_rfl) (fun _ _ _ h => h) (Or.inl ⟨by rfl, ?_⟩) (by assumption) ?_
          rotate_left
          · intro w hSw
            (try dsimp only at hSw)
            go_simp
            all_goals with_reducible rfl
          try simp only [Act.put, List.setIfInBounds_toArray, List.set_cons_zero, List.set_cons_succ, List.getElem_toArray, List.getElem_cons_zero, List.getElem_cons_succ]
          refine wpAnyH_take (i := 9) (v := ?_) rfl (by kernel_rfl) (by kernel_rfl) (by kernel_rfl) (fun _ _ _ h => h) (Or.inl ⟨by rfl, ?_⟩) (by assumption) ?_
          rotate_left
          · intro w hSw
            (try dsimp only at hSw)
            go_simp
            all_goals with_reducible rfl
          try simp only [Act.put, List.setIfInBounds_toArray, List.set_cons_zero, List.set_cons_succ, List.getElem_toArray, List.getElem_cons_zero, List.getElem_cons_succ]
          generalize hEE : V10.heap.size = E10 at ZZ ⊢
          have hE : V10.heap.size ≤ E10 := by omega
          clear hEE
          generalize w105 = X5 at *
          have e0 := ZZ.c0
          have e1 := ZZ.c1
          have h0 := ZZ.f0
          have h1 := ZZ.f1
          obtain ⟨v0, v1⟩ := Zp2.to (u := (.int .i64 X)) (v := (.int .i64 Y)) ZZ
          have bF := (bX.setCell (p := ⟨E10, 0, none⟩) hE (.int .i64 X)).setCell (p := ⟨E10, 1, none⟩) hE (.int .i64 Y)
          refine wpAnyH_ready (rs := [11]) (by kernel_rfl) (by simp) ?_
          refine AllReadyH.cons rfl (fun K hK => ?_) AllReadyH.nil
          go_simp
          skip
          refine hK.out _ _ (G10.keep2 bF) (fun hHeld => ?_)
          clear hK K
          try simp only [Act.put, List.setIfInBounds_toArray, List.set_cons_zero, List.set_cons_succ, List.getElem_toArray, List.getElem_cons_zero, List.getElem_cons_succ]
          have hlt : E10 < ((X5.setCell ⟨E10, 0, none⟩ (.int .i64 X)).setCell ⟨E10, 1, none⟩ (.int .i64 Y)).heap.size := World.block_lt_of_cell? _ _ v0
          refine wpAnyH_take (i := 12) (v := ?_) rfl (by kernel_rfl) (by kernel_rfl) (by kernel_rfl) (fun _ _ _ h => h) (Or.inl ⟨by rfl, ?_⟩) (by assumption) ?_
          rotate_left
          · intro w hSw
            (try dsimp only at hSw)
            go_simp
            all_goals with_reducible rfl
          try simp only [Act.put, List.setIfInBounds_toArray, List.set_cons_zero, List.set_cons_succ, List.getElem_toArray, List.getElem_cons_zero, List.getElem_cons_succ]
          refine wpAnyH_take (i := 13) (v := ?_) rfl (by kernel_rfl) (by kernel_rfl) (by kernel_rfl) (fun _ _ _ h => h) (Or.inl ⟨by rfl, ?_⟩) (by assumption) ?_
          rotate_left
          · intro w hSw
            (try dsimp only at hSw)
            go_simp
            all_goals with_reducible rfl
          try simp only [Act.put, List.setIfInBounds_toArray, List.set_cons_zero, List.set_cons_succ, List.getElem_toArray, List.getElem_cons_zero, List.getElem_cons_succ]
          refine wpAnyH_done (by kernel_rfl) ?_ _
          clear hHeld e0 e1 h0 h1 bX ZZ
          generalize (X5.setCell ⟨E10, 0, none⟩ (.int .i64 X)).setCell ⟨E10, 1, none⟩ (.int .i64 Y) = WX at *
          have hbel := (G10.b bF).bel
          have y0 := (G10.b bF).q.c0
          have y1 := (G10.b bF).q.c1
          clear bF G10 hE hlt
          go_wp2
          go_ret
          exact ⟨ret_bool (by first | rfl | (simp; done) | simp_all), hbel⟩
      · go_simp
        have bZ := (Below.refl V9.heap.size V9).alloc (Nat.le_refl _) (.cells #[.int .i64 0, .int .i64 0] 24)
        refine hK.out _ _ (G9.keep2 bZ) (fun hHeld => ?_)
        clear hK K
        try simp only [Act.put, List.setIfInBounds_toArray, List.set_cons_zero, List.set_cons_succ, List.getElem_toArray, List.getElem_cons_zero, List.getElem_cons_succ]
        have G9z := G9.al (.cells #[.int .i64 0, .int .i64 0] 24)
        have ZZ := Zp2.new V9 24
        refine wpAnyH_ready (rs := [5]) (by kernel_rfl) (by simp) ?_
        refine AllReadyH.cons rfl (fun K hK => ?_) AllReadyH.nil
        go_simp
        (go_at_call 17; refine (K4.out _ _ _ _ (Lst.any0 _ _ _) G9z.g).mono ?_; rintro e w95 ⟨rfl, b95⟩)
        refine hK.out _ _ (G9z.keep2 b95) (fun hHeld => ?_)
        clear hK K
        try simp only [Act.put, List.setIfInBounds_toArray, List.set_cons_zero, List.set_cons_succ, List.getElem_toArray, List.getElem_cons_zero, List.getElem_cons_succ]
        have ZZ := ZZ.b b95
        have bX := bZ.trans (b95.mono bZ.size)
        have hE := Nat.le_refl V9.heap.size
        clear b95 bZ G9z
        refine wpAnyH_take (i := 6) (v := ?_) rfl (by kernel_rfl) (by kernel_rfl) (by kernel_rfl) (fun _ _ _ h => h) (Or.inl ⟨by rfl, ?_⟩) (by assumption) ?_
        rotate_left
        · intro w hSw
          (try dsimp only at hSw)
          go_simp
          all_goals with_reducible rfl
        try simp only [Act.put, List.setIfInBounds_toArray, List.set_cons_zero, List.set_cons_succ, List.getElem_toArray, List.getElem_cons_zero, List.getElem_cons_succ]
        refine wpAnyH_take (i := 7) (v := ?_) rfl (by kernel_rfl) (by kernel_rfl) (by kernel_rfl) (fun _ _ _ h => h) (Or.inl ⟨by rfl, ?_⟩) (by assumption) ?_
        rotate_left
        · intro w hSw
          (try dsimp only at hSw)
          go_simp
          all_goals with_reducible rfl
        try simp only [Act.put, List.setIfInBounds_toArray, List.set_cons_zero, List.set_cons_succ, List.getElem_toArray, List.getElem_cons_zero, List.getElem_cons_succ]
        refine wpAnyH_take (i := 8) (v := ?_) rfl (by kernel_rfl) (by kernel_rfl) (by kernel_rfl) (fun _ _ _ h => h) (Or.inl ⟨by rfl, ?_⟩) (by assumption) ?_
        rotate_left
        · intro w hSw
          (try dsimp only at hSw)
          go_simp
          all_goals with_reducible rfl
        try simp only [Act.put, List.setIfInBounds_toArray, List.set_cons_zero, List.set_cons_succ, List.getElem_toArray, List.getElem_cons_zero, List.getElem_cons_succ]
        refine wpAnyH_take (i := 9) (v := ?_) rfl (by kernel_rfl) (by kernel_rfl) (by kernel_rfl) (fun _ _ _ h => h) (Or.inl ⟨by rfl, ?_⟩) (by assumption) ?_
        rotate_left
        · intro w hSw
          (try dsimp only at hSw)
          go_simp
          all_goals with_reducible rfl
        try simp only [Act.put, List.setIfInBounds_toArray, List.set_cons_zero, List.set_cons_succ, List.getElem_toArray, List.getElem_cons_zero, List.getElem_cons_succ]
        generalize hEE : V9.heap.size = E9 at ZZ ⊢
        have hE : V9.heap.size ≤ E9 := by omega
        clear hEE
        generalize w95 = X5 at *
        have e0 := ZZ.c0
        have e1 := ZZ.c1
        have h0 := ZZ.f0
        have h1 := ZZ.f1
        obtain ⟨v0, v1⟩ := Zp2.to (u := (.int .i64 X9)) (v := (.int .i64 Y9)) ZZ
        have bF := (bX.setCell (p := ⟨E9, 0, none⟩) hE (.int .i64 X9)).setCell (p := ⟨E9, 1, none⟩) hE (.int .i64 Y9)
        refine wpAnyH_ready (rs := [11]) (by kernel_rfl) (by simp) ?_
        refine AllReadyH.cons rfl (fun K hK => ?_) AllReadyH.nil
        go_simp
        skip
        refine hK.out _ _ (G9.keep2 bF) (fun hHeld => ?_)
        clear hK K
        try simp only [Act.put, List.setIfInBounds_toArray, List.set_cons_zero, List.set_cons_succ, List.getElem_toArray, List.getElem_cons_zero, List.getElem_cons_succ]
        have hlt : E9 < ((X5.setCell ⟨E9, 0, none⟩ (.int .i64 X9)).setCell ⟨E9, 1, none⟩ (.int .i64 Y9)).heap.size := World.block_lt_of_cell? _ _ v0
        refine wpAnyH_take (i := 12) (v := ?_) rfl (by kernel_rfl) (by kernel_rfl) (by kernel_rfl) (fun _ _ _ h => h) (Or.inl ⟨by rfl, ?_⟩) (by assumption) ?_
        rotate_left
        · intro w hSw
          (try dsimp only at hSw)
          go_simp
          all_goals with_reducible rfl
        try simp only [Act.put, List.setIfInBounds_toArray, List.set_cons_zero, List.set_cons_succ, List.getElem_toArray, List.getElem_cons_zero, List.getElem_cons_succ]
        refine wpAnyH_take (i := 13) (v := ?_) rfl (by kernel_rfl) (by kernel_rfl) (by kernel_rfl) (fun _ _ _ h => h) (Or.inl ⟨by rfl, ?_⟩) (by assumption) ?_
        rotate_left
        · intro w hSw
          (try dsimp only at hSw)
          go_simp
          all_goals with_reducible rfl
        try simp only [Act.put, List.setIfInBounds_toArray, List.set_cons_zero, List.set_cons_succ, List.getElem_toArray, List.getElem_cons_zero, List.getElem_cons_succ]
        refine wpAnyH_done (by kernel_rfl) ?_ _
        clear hHeld e0 e1 h0 h1 bX ZZ
        generalize (X5.setCell ⟨E9, 0, none⟩ (.int .i64 X9)).setCell ⟨E9, 1, none⟩ (.int .i64 Y9) = W9 at *
        have G10 : RG w W9 E9 X9 Y9 D2 X Y a 0 ([] : List Int) := ⟨⟨v0, v1, hlt⟩, (G9.b bF).q, (G9.b bF).ls, (G9.b bF).g, (G9.b bF).bel⟩
        clear G9 bF v0 v1 hE hlt
        go_wp2_with fail
        refine wp_region_held_drew (S := (fun w' => w'.cell? ⟨E9, 0, none⟩ = some (.int .i64 X9) ∧ w'.cell? ⟨E9, 1, none⟩ = some (.int .i64 Y9))) (by kernel_rfl) (G10.keep0) (fun hHeld => ?_)
        have G10 := G10.drew
        generalize W9.drew = V10 at *
        refine wpAnyH_take (i := 0) (v := ?_) rfl (by kernel_rfl) (by kernel_rfl) (by kernel_rfl) (fun _ _ _ h => h) (Or.inl ⟨by rfl, ?_⟩) (by assumption) ?_
        rotate_left
        · intro w hSw
          (try dsimp only at hSw)
          go_simp
          all_goals with_reducible rfl
        try simp only [Act.put, List.setIfInBounds_toArray, List.set_cons_zero, List.set_cons_succ, List.getElem_toArray, List.getElem_cons_zero]
        refine wpAnyH_take (i := 1) (v := ?_) rfl (by kernel_rfl) (by kernel_rfl) (by kernel_rfl) (fun _ _ _ h => h) (Or.inl ⟨by rfl, ?_⟩) (by assumption) ?_
        rotate_left
        · intro w hSw
          (try dsimp only at hSw)
          go_simp
          all_goals with_reducible rfl
        try simp only [Act.put, List.setIfInBounds_toArray, List.set_cons_zero, List.set_cons_succ, List.getElem_toArray, List.getElem_cons_zero, List.getElem_cons_succ]
        refine wpAnyH_take (i := 2) (v := ?_) rfl (by kernel_rfl) (by kernel_rfl) (by kernel_rfl) (fun _ _ _ h => h) (Or.inl ⟨by rfl, ?_⟩) (by assumption) ?_
        rotate_left
        · intro w hSw
          (try dsimp only at hSw)
          go_simp
          all_goals with_reducible rfl
        try simp only [Act.put, List.setIfInBounds_toArray, List.set_cons_zero, List.set_cons_succ, List.getElem_toArray, List.getElem_cons_zero, List.getElem_cons_succ]
        refine wpAnyH_take (i := 3) (v := ?_) rfl (by kernel_rfl) (by kernel_rfl) (by kernel_rfl) (fun _ _ _ h => h) (Or.inl ⟨by rfl, ?_⟩) (by assumption) ?_
        rotate_left
        · intro w hSw
          (try dsimp only at hSw)
          go_simp
          all_goals with_reducible rfl
        try simp only [Act.put, List.setIfInBounds_toArray, List.set_cons_zero, List.set_cons_succ, List.getElem_toArray, List.getElem_cons_zero, List.getElem_cons_succ]
        refine wpAnyH_take (i := 4) (v := ?_) rfl (by kernel_rfl) (by kernel_rfl) (by kernel_rfl) (fun _ _ _ h => h) (Or.inl ⟨by rfl, ?_⟩) (by assumption) ?_
        rotate_left
        · intro w hSw
          (try dsimp only at hSw)
          go_simp
          all_goals with_reducible rfl
        try simp only [Act.put, List.setIfInBounds_toArray, List.set_cons_zero, List.set_cons_succ, List.getElem_toArray, List.getElem_cons_zero, List.getElem_cons_succ]
        refine wpAnyH_ready (rs := [5, 10]) (by kernel_rfl) (by simp) ?_
        refine AllReadyH.cons rfl (fun K hK => ?_) (AllReadyH.cons rfl (fun K hK => ?_) AllReadyH.nil)
        · go_simp
          (go_at_call 17; refine (K5.out _ _ _ _ (Lst.any0 _ _ _) G10.g).mono ?_; rintro e w105 ⟨rfl, b105⟩)
          refine hK.out _ _ (G10.keep2 b105) (fun hHeld => ?_)
          clear hK K
          try simp only [Act.put, List.setIfInBounds_toArray, List.set_cons_zero, List.set_cons_succ, List.getElem_toArray, List.getElem_cons_zero, List.getElem_cons_succ]
          refine wpAnyH_take (i := 6) (v := ?_) rfl (by kernel_rfl) (by kernel_rfl) (by kernel_rfl) (fun _ _ _ h => h) (Or.inl ⟨by rfl, ?_⟩) (by assumption) ?_
          rotate_left
          · intro w hSw
            (try dsimp only at hSw)
            go_simp
            all_goals with_reducible rfl
          try simp only [Act.put, List.setIfInBounds_toArray, List.set_cons_zero, List.set_cons_succ, List.getElem_toArray, List.getElem_cons_zero, List.getElem_cons_succ]
          refine wpAnyH_take (i := 7) (v := ?_) rfl (by kernel_rfl) (by kernel_rfl) (by kernel_rfl) (fun _ _ _ h => h) (Or.inl ⟨by rfl, ?_⟩) (by assumption) ?_
          rotate_left
          · intro w hSw
            (try dsimp only at hSw)
            go_simp
            all_goals with_reducible rfl
          try simp only [Act.put, List.setIfInBounds_toArray, List.set_cons_zero, List.set_cons_succ, List.getElem_toArray, List.getElem_cons_zero, List.getElem_cons_succ]
          refine wpAnyH_take (i := 8) (v := ?_) rfl (by kernel_rfl) (by kernel_rfl) (by kernel_rfl) (fun _ _ _ h => h) (Or.inl ⟨by rfl, ?_⟩) (by assumption) ?_
          rotate_left
          · intro w hSw
            (try dsimp only at hSw)
            go_simp
            all_goals with_reducible rfl
          try simp only [Act.put, List.setIfInBounds_toArray, List.set_cons_zero, List.set_cons_succ, List.getElem_toArray, List.getElem_cons_zero, List.getElem_cons_succ]
          refine wpAnyH_take (i := 9) (v := ?_) rfl (by kernel_rfl) (by kernel_rfl) (by kernel_rfl) (fun _ _ _ h => h) (Or.inl ⟨by rfl, ?_⟩) (by assumption) ?_
          rotate_left
          · intro w hSw
            (try dsimp only at hSw)
            go_simp
            all_goals with_reducible rfl
          try simp only [Act.put, List.setIfInBounds_toArray, List.set_cons_zero, List.set_cons_succ, List.getElem_toArray, List.getElem_cons_zero, List.getElem_cons_succ]
          have ZZ := Zp2.new w105 24
          have bX := b105.alloc b105.size (.cells #[.int .i64 0, .int .i64 0] 24)
          have hE := b105.size
          refine wpAnyH_ready (rs := [10]) (by kernel_rfl) (by simp) ?_
          refine AllReadyH.cons rfl (fun K hK => ?_) AllReadyH.nil
          go_simp
          skip
          refine hK.out _ _ (G10.keep2 bX) (fun hHeld => ?_)
          clear hK K
          try simp only [Act.put, List.setIfInBounds_toArray, List.set_cons_zero, List.set_cons_succ, List.getElem_toArray, List.getElem_cons_zero, List.getElem_cons_succ]
          clear b105
          generalize w105.alloc (.cells #[.int .i64 0, .int .i64 0] 24) = X5 at *
          generalize w105.heap.size = E10 at *
          have e0 := ZZ.c0
          have e1 := ZZ.c1
          have h0 := ZZ.f0
          have h1 := ZZ.f1
          obtain ⟨v0, v1⟩ := Zp2.to (u := (.int .i64 X)) (v := (.int .i64 Y)) ZZ
          have bF := (bX.setCell (p := ⟨E10, 0, none⟩) hE (.int .i64 X)).setCell (p := ⟨E10, 1, none⟩) hE (.int .i64 Y)
          refine wpAnyH_ready (rs := [11]) (by kernel_rfl) (by simp) ?_
          refine AllReadyH.cons rfl (fun K hK => ?_) AllReadyH.nil
          go_simp
          skip
          refine hK.out _ _ (G10.keep2 bF) (fun hHeld => ?_)
          clear hK K
          try simp only [Act.put, List.setIfInBounds_toArray, List.set_cons_zero, List.set_cons_succ, List.getElem_toArray, List.getElem_cons_zero, List.getElem_cons_succ]
          have hlt : E10 < ((X5.setCell ⟨E10, 0, none⟩ (.int .i64 X)).setCell ⟨E10, 1, none⟩ (.int .i64 Y)).heap.size := World.block_lt_of_cell? _ _ v0
          refine wpAnyH_take (i := 12) (v := ?_) rfl (by kernel_rfl) (by kernel_rfl) (by kernel_rfl) (fun _ _ _ h => h) (Or.inl ⟨by rfl, ?_⟩) (by assumption) ?_
          rotate_left
          · intro w hSw
            (try dsimp only at hSw)
            go_simp
            all_goals with_reducible rfl
          try simp only [Act.put, List.setIfInBounds_toArray, List.set_cons_zero, List.set_cons_succ, List.getElem_toArray, List.getElem_cons_zero, List.getElem_cons_succ]
          refine wpAnyH_take (i := 13) (v := ?_) rfl (by kernel_rfl) (by kernel_rfl) (by kernel_rfl) (fun _ _ _ h => h) (Or.inl ⟨by rfl, ?_⟩) (by assumption) ?_
          rotate_left
          · intro w hSw
            (try dsimp only at hSw)
            go_simp
            all_goals with_reducible rfl
          try simp only [Act.put, List.setIfInBounds_toArray, List.set_cons_zero, List.set_cons_succ, List.getElem_toArray, List.getElem_cons_zero, List.getElem_cons_succ]
          refine wpAnyH_done (by kernel_rfl) ?_ _
          clear hHeld e0 e1 h0 h1 bX ZZ
          generalize (X5.setCell ⟨E10, 0, none⟩ (.int .i64 X)).setCell ⟨E10, 1, none⟩ (.int .i64 Y) = WX at *
          have hbel := (G10.b bF).bel
          have y0 := (G10.b bF).q.c0
          have y1 := (G10.b bF).q.c1
          clear bF G10 hE hlt
          go_wp2
          go_ret
          exact ⟨ret_bool (by first | rfl | (simp; done) | simp_all), hbel⟩
        · go_simp
          have bZ := (Below.refl V10.heap.size V10).alloc (Nat.le_refl _) (.cells #[.int .i64 0, .int .i64 0] 24)
          refine hK.out _ _ (G10.keep2 bZ) (fun hHeld => ?_)
          clear hK K
          try simp only [Act.put, List.setIfInBounds_toArray, List.set_cons_zero, List.set_cons_succ, List.getElem_toArray, List.getElem_cons_zero, List.getElem_cons_succ]
          have G10z := G10.al (.cells #[.int .i64 0, .int .i64 0] 24)
          have ZZ := Zp2.new V10 24
          refine wpAnyH_ready (rs := [5]) (by kernel_rfl) (by simp) ?_
          refine AllReadyH.cons rfl (fun K hK => ?_) AllReadyH.nil
          go_simp
          (go_at_call 17; refine (K5.out _ _ _ _ (Lst.any0 _ _ _) G10z.g).mono ?_; rintro e w105 ⟨rfl, b105⟩)
          refine hK.out _ _ (G10z.keep2 b105) (fun hHeld => ?_)
          clear hK K
          try simp only [Act.put, List.setIfInBounds_toArray, List.set_cons_zero, List.set_cons_succ, List.getElem_toArray, List.getElem_cons_zero, List.getElem_cons_succ]
          have ZZ := ZZ.b b105
          have bX := bZ.trans (b105.mono bZ.size)
          have hE := Nat.le_refl V10.heap.size
          clear b105 bZ G10z
          refine wpAnyH_take (i := 6) (v := ?_) rfl (by kernel_rfl) (by kernel_rfl) (by kernel_rfl) (fun _ _ _ h => h) (Or.inl ⟨by rfl, ?_⟩) (by assumption) ?_
          rotate_left
          · intro w hSw
            (try dsimp only at hSw)
            go_simp
            all_goals with_reducible rfl
          try simp only [Act.put, List.setIfInBounds_toArray, List.set_cons_zero, List.set_cons_succ, List.getElem_toArray, List.getElem_cons_zero, List.getElem_cons_succ]
          refine wpAnyH_take (i := 7) (v := ?_) rfl (by kernel_rfl) (by kernel_rfl) (by kernel_rfl) (fun _ _ _ h => h) (Or.inl ⟨by rfl, ?_⟩) (by assumption) ?_
          rotate_left
          · intro w hSw
            (try dsimp only at hSw)
            go_simp
            all_goals with_reducible rfl
          try simp only [Act.put, List.setIfInBounds_toArray, List.set_cons_zero, List.set_cons_succ, List.getElem_toArray, List.getElem_cons_zero, List.getElem_cons_succ]
          refine wpAnyH_take (i := 8) (v := ?_) rfl (by kernel_rfl) (by kernel_rfl) (by kernel_rfl) (fun _ _ _ h => h) (Or.inl ⟨by rfl, ?_⟩) (by assumption) ?_
          rotate_left
          · intro w hSw
            (try dsimp only at hSw)
            go_simp
            all_goals with_reducible rfl
          try simp only [Act.put, List.setIfInBounds_toArray, List.set_cons_zero, List.set_cons_succ, List.getElem_toArray, List.getElem_cons_zero, List.getElem_cons_succ]
          refine wpAnyH_take (i := 9) (v := ?_) rfl (by kernel_rfl) (by kernel_rfl) (by kernel_rfl) (fun _ _ _ h => h) (Or.inl ⟨by rfl, ?_⟩) (by assumption) ?_
          rotate_left
          · intro w hSw
            (try dsimp only at hSw)
            go_simp
            all_goals with_reducible rfl
          try simp only [Act.put, List.setIfInBounds_toArray, List.set_cons_zero, List.set_cons_succ, List.getElem_toArray, List.getElem_cons_zero, List.getElem_cons_succ]
          generalize hEE : V10.heap.size = E10 at ZZ ⊢
          have hE : V10.heap.size ≤ E10 := by omega
          clear hEE
          generalize w105 = X5 at *
          have e0 := ZZ.c0
          have e1 := ZZ.c1
          have h0 := ZZ.f0
          have h1 := ZZ.f1
          obtain ⟨v0, v1⟩ := Zp2.to (u := (.int .i64 X)) (v := (.int .i64 Y)) ZZ
          have bF := (bX.setCell (p := ⟨E10, 0, none⟩) hE (.int .i64 X)).setCell (p := ⟨E10, 1, none⟩) hE (.int .i64 Y)
          refine wpAnyH_ready (rs := [11]) (by kernel_rfl) (by simp) ?_
          refine AllReadyH.cons rfl (fun K hK => ?_) AllReadyH.nil
          go_simp
          skip
          refine hK.out _ _ (G10.keep2 bF) (fun hHeld => ?_)
          clear hK K
          try simp only [Act.put, List.setIfInBounds_toArray, List.set_cons_zero, List.set_cons_succ, List.getElem_toArray, List.getElem_cons_zero, List.getElem_cons_succ]
          have hlt : E10 < ((X5.setCell ⟨E10, 0, none⟩ (.int .i64 X)).setCell ⟨E10, 1, none⟩ (.int .i64 Y)).heap.size := World.block_lt_of_cell? _ _ v0
          refine wpAnyH_take (i := 12) (v := ?_) rfl (by kernel_rfl) (by kernel_rfl) (by kernel_rfl) (fun _ _ _ h => h) (Or.inl ⟨by rfl, ?_⟩) (by assumption) ?_
          rotate_left
          · intro w hSw
            (try dsimp only at hSw)
            go_simp
            all_goals with_reducible rfl
          try simp only [Act.put, List.setIfInBounds_toArray, List.set_cons_zero, List.set_cons_succ, List.getElem_toArray, List.getElem_cons_zero, List.getElem_cons_succ]
          refine wpAnyH_take (i := 13) (v := ?_) rfl (by kernel_rfl) (by kernel_rfl) (by kernel_rfl) (fun _ _ _ h => h) (Or.inl ⟨by rfl, ?_⟩) (by assumption) ?_
          rotate_left
          · intro w hSw
            (try dsimp only at hSw)
            go_simp
            all_goals with_reducible rfl
          try simp only [Act.put, List.setIfInBounds_toArray, List.set_cons_zero, List.set_cons_succ, List.getElem_toArray, List.getElem_cons_zero, List.getElem_cons_succ]
          refine wpAnyH_done (by kernel_rfl) ?_ _
          clear hHeld e0 e1 h0 h1 bX ZZ
          generalize (X5.setCell ⟨E10, 0, none⟩ (.int .i64 X)).setCell ⟨E10, 1, none⟩ (.int .i64 Y) = WX at *
          have hbel := (G10.b bF).bel
          have y0 := (G10.b bF).q.c0
          have y1 := (G10.b bF).q.c1
          clear bF G10 hE hlt
          go_wp2
          go_ret
          exact ⟨ret_bool (by first | rfl | (simp; done) | simp_all), hbel⟩
    · obtain ⟨b, off, rfl, hb, -⟩ := l1.at_ 0 hln
      have hmi : (l.length : Int) / 2 = (m : Int) := by omega
      have hmc : (m : Int) ≤ (cp : Int) := by omega
      have hmn : (m : Int) ≤ (l.length : Int) := by omega
      have hne : ¬ cp = m := by omega
      have HM := Lib.hid (And.intro hm hln)
      clear hb
      have K4 := Lib.hid K4k
      have K5 := Lib.hid K5k
      clear K4k K5k hm hln hl30
      have pc0 := p1.c0
      have pc1 := p1.c1
      go_wp2_with fail
      refine (K1.out _ _ _ _ l1 g1).mono ?_
      rintro e w2 ⟨rfl, bb⟩
      clear pc0 pc1
      have p2 := p1.b bb
      have l2 := (l1.below bb).more bb.size
      have g2 := g1.b bb
      have b2 := b1.trans (bb.mono b1.size)
      clear p1 l1 g1 b1 bb
      replace p2 := p2.al (.cells #[.int .i64 X, .int .i64 Y] 24)
      replace g2 := g2.al (.cells #[.int .i64 X, .int .i64 Y] 24)
      replace l2 := (l2.below ((Below.refl _ _).alloc (Nat.le_refl _) (.cells #[.int .i64 X, .int .i64 Y] 24))).more (show w2.heap.size ≤ (w2.alloc (.cells #[.int .i64 X, .int .i64 Y] 24)).heap.size by simp)
      replace b2 := b2.alloc b2.size (.cells #[.int .i64 X, .int .i64 Y] 24)
      have q2 := P2.new w2 X Y 24
      have pc0 := p2.c0
      have pc1 := p2.c1
      go_wp2_with fail
      refine (K2.out _ _ _ _ l2).mono ?_
      rintro e w3 ⟨rfl, bb⟩
      clear pc0 pc1
      have p3 := p2.b bb
      have q3 := q2.b bb
      have l3 := (l2.below bb).more bb.size
      have g3 := g2.b bb
      have b3 := b2.trans (bb.mono b2.size)
      clear p2 q2 l2 g2 b2 bb
      replace p3 := p3.al (.cells #[.int .i64 X, .int .i64 Y] 24)
      replace q3 := q3.al (.cells #[.int .i64 X, .int .i64 Y] 24)
      replace g3 := g3.al (.cells #[.int .i64 X, .int .i64 Y] 24)
      replace l3 := (l3.below ((Below.refl _ _).alloc (Nat.le_refl _) (.cells #[.int .i64 X, .int .i64 Y] 24))).more (show w3.heap.size ≤ (w3.alloc (.cells #[.int .i64 X, .int .i64 Y] 24)).heap.size by simp)
      replace b3 := b3.alloc b3.size (.cells #[.int .i64 X, .int .i64 Y] 24)
      have r3 := P2.new w3 X Y 24
      have pc0 := p3.c0
      have pc1 := p3.c1
      have qc0 := q3.c0
      have qc1 := q3.c1
      have rc0 := r3.c0
      have rc1 := r3.c1
      go_wp2_with fail
      have G9 : RG w (w3.alloc (.cells #[.int .i64 X, .int .i64 Y] 24)) w1.heap.size p c w2.heap.size X Y (some ⟨b, off, none⟩) l.length l := ⟨p3, q3, l3, g3, b3⟩
      clear pc0 pc1 qc0 qc1 rc0 rc1
      clear p3 q3 r3 l3 g3 b3
      generalize w3.alloc (.cells #[.int .i64 X, .int .i64 Y] 24) = W3 at *
      generalize w1.heap.size = D1 at *
      generalize w2.heap.size = D2 at *
      generalize w3.heap.size = D3 at *
      refine wp_region_held_drew (S := (fun w' => w'.cell? ⟨D1, 0, none⟩ = some (.int .i64 p) ∧ w'.cell? ⟨D1, 1, none⟩ = some (.int .i64 c))) (by kernel_rfl) (G9.keep0) (fun hHeld => ?_)
      have G9 := G9.drew
      generalize W3.drew = V9 at *
      refine wpAnyH_take (i := 0) (v := ?_) rfl (by kernel_rfl) (by kernel_rfl) (by kernel_rfl) (fun _ _ _ h => h) (Or.inl ⟨by rfl, ?_⟩) (by assumption) ?_
      rotate_left
      · intro w hSw
        (try dsimp only at hSw)
        go_simp
        all_goals with_reducible rfl
      try simp only [Act.put, List.setIfInBounds_toArray, List.set_cons_zero, List.set_cons_succ, List.getElem_toArray, List.getElem_cons_zero]
      refine wpAnyH_take (i := 1) (v := ?_) rfl (by kernel_rfl) (by kernel_rfl) (by kernel_rfl) (fun _ _ _ h => h) (Or.inl ⟨by rfl, ?_⟩) (by assumption) ?_
      rotate_left
      · intro w hSw
        (try dsimp only at hSw)
        go_simp
        all_goals with_reducible rfl
      try simp only [Act.put, List.setIfInBounds_toArray, List.set_cons_zero, List.set_cons_succ, List.getElem_toArray, List.getElem_cons_zero, List.getElem_cons_succ]
      refine wpAnyH_take (i := 2) (v := ?_) rfl (by kernel_rfl) (by kernel_rfl) (by kernel_rfl) (fun _ _ _ h => h) (Or.inl ⟨by rfl, ?_⟩) (by assumption) ?_
      rotate_left
      · intro w hSw
        (try dsimp only at hSw)
        go_simp
        all_goals with_reducible rfl
      try simp only [Act.put, List.setIfInBounds_toArray, List.set_cons_zero, List.set_cons_succ, List.getElem_toArray, List.getElem_cons_zero, List.getElem_cons_succ]
      refine wpAnyH_take (i := 3) (v := ?_) rfl (by kernel_rfl) (by kernel_rfl) (by kernel_rfl) (fun _ _ _ h => h) (Or.inl ⟨by rfl, ?_⟩) (by assumption) ?_
      rotate_left
      · intro w hSw
        (try dsimp only at hSw)
        go_simp
        all_goals with_reducible rfl
      try simp only [Act.put, List.setIfInBounds_toArray, List.set_cons_zero, List.set_cons_succ, List.getElem_toArray, List.getElem_cons_zero, List.getElem_cons_succ]
      refine wpAnyH_take (i := 4) (v := ?_) rfl (by kernel_rfl) (by kernel_rfl) (by kernel_rfl) (fun _ _ _ h => h) (Or.inl ⟨by rfl, ?_⟩) (by assumption) ?_
      rotate_left
      · intro w hSw
        (try dsimp only at hSw)
        go_simp
        all_goals with_reducible rfl
      try simp only [Act.put, List.setIfInBounds_toArray, List.set_cons_zero, List.set_cons_succ, List.getElem_toArray, List.getElem_cons_zero, List.getElem_cons_succ]
      refine wpAnyH_ready (rs := [5, 10]) (by kernel_rfl) (by simp) ?_
      refine AllReadyH.cons rfl (fun K hK => ?_) (AllReadyH.cons rfl (fun K hK => ?_) AllReadyH.nil)
      · go_simp
        (go_at_call 17; refine (K4.out _ _ _ _ (Lst.take G9.ls m hml) G9.g).mono ?_; rintro e w95 ⟨rfl, b95⟩)
        refine hK.out _ _ (G9.keep2 b95) (fun hHeld => ?_)
        clear hK K
        try simp only [Act.put, List.setIfInBounds_toArray, List.set_cons_zero, List.set_cons_succ, List.getElem_toArray, List.getElem_cons_zero, List.getElem_cons_succ]
        refine wpAnyH_take (i := 6) (v := ?_) rfl (by kernel_rfl) (by kernel_rfl) (by kernel_rfl) (fun _ _ _ h => h) (Or.inl ⟨by rfl, ?_⟩) (by assumption) ?_
        rotate_left
        · intro w hSw
          (try dsimp only at hSw)
          go_simp
          all_goals with_reducible rfl
        try simp only [Act.put, List.setIfInBounds_toArray, List.set_cons_zero, List.set_cons_succ, List.getElem_toArray, List.getElem_cons_zero, List.getElem_cons_succ]
        refine wpAnyH_take (i := 7) (v := ?_) rfl (by kernel_rfl) (by kernel_rfl) (by kernel_rfl) (fun _ _ _ h => h) (Or.inl ⟨by rfl, ?_⟩) (by assumption) ?_
        rotate_left
        · intro w hSw
          (try dsimp only at hSw)
          go_simp
          all_goals with_reducible rfl
        try simp only [Act.put, List.setIfInBounds_toArray, List.set_cons_zero, List.set_cons_succ, List.getElem_toArray, List.getElem_cons_zero, List.getElem_cons_succ]
        refine wpAnyH_take (i := 8) (v := ?_) rfl (by kernel_rfl) (by kernel_rfl) (by kernel_rfl) (fun _ _ _ h => h) (Or.inl ⟨by rfl, ?_⟩) (by assumption) ?_
        rotate_left
        · intro w hSw
          (try dsimp only at hSw)
          go_simp
          all_goals with_reducible rfl
        try simp only [Act.put, List.setIfInBounds_toArray, List.set_cons_zero, List.set_cons_succ, List.getElem_toArray, List.getElem_cons_zero, List.getElem_cons_succ]
        refine wpAnyH_take (i := 9) (v := ?_) rfl (by kernel_rfl) (by kernel_rfl) (by kernel_rfl) (fun _ _ _ h => h) (Or.inl ⟨by rfl, ?_⟩) (by assumption) ?_
        rotate_left
        · intro w hSw
          (try dsimp only at hSw)
          go_simp
          all_goals with_reducible rfl
        try simp only [Act.put, List.setIfInBounds_toArray, List.set_cons_zero, List.set_cons_succ, List.getElem_toArray, List.getElem_cons_zero, List.getElem_cons_succ]
        have ZZ := Zp2.new w95 24
        have bX := b95.alloc b95.size (.cells #[.int .i64 0, .int .i64 0] 24)
        have hE := b95.size
        refine wpAnyH_ready (rs := [10]) (by kernel_rfl) (by simp) ?_
        refine AllReadyH.cons rfl (fun K hK => ?_) AllReadyH.nil
        go_simp
        skip
        refine hK.out _ _ (G9.keep2 bX) (fun hHeld => ?_)
        clear hK K
        try simp only [Act.put, List.setIfInBounds_toArray, List.set_cons_zero, List.set_cons_succ, List.getElem_toArray, List.getElem_cons_zero, List.getElem_cons_succ]
        clear b95
        generalize w95.alloc (.cells #[.int .i64 0, .int .i64 0] 24) = X5 at *
        generalize w95.heap.size = E9 at *
        have e0 := ZZ.c0
        have e1 := ZZ.c1
        have h0 := ZZ.f0
        have h1 := ZZ.f1
        obtain ⟨v0, v1⟩ := Zp2.to (u := (.int .i64 X9)) (v := (.int .i64 Y9)) ZZ
        have bF := (bX.setCell (p := ⟨E9, 0, none⟩) hE (.int .i64 X9)).setCell (p := ⟨E9, 1, none⟩) hE (.int .i64 Y9)
        refine wpAnyH_ready (rs := [11]) (by kernel_rfl) (by simp) ?_
        refine AllReadyH.cons rfl (fun K hK => ?_) AllReadyH.nil
        go_simp
        skip
        refine hK.out _ _ (G9.keep2 bF) (fun hHeld => ?_)
        clear hK K
        try simp only [Act.put, List.setIfInBounds_toArray, List.set_cons_zero, List.set_cons_succ, List.getElem_toArray, List.getElem_cons_zero, List.getElem_cons_succ]
        have hlt : E9 < ((X5.setCell ⟨E9, 0, none⟩ (.int .i64 X9)).setCell ⟨E9, 1, none⟩ (.int .i64 Y9)).heap.size := World.block_lt_of_cell? _ _ v0
        refine wpAnyH_take (i := 12) (v := ?_) rfl (by kernel_rfl) (by kernel_rfl) (by kernel_rfl) (fun _ _ _ h => h) (Or.inl ⟨by rfl, ?_⟩) (by assumption) ?_
        rotate_left
        · intro w hSw
          (try dsimp only at hSw)
          go_simp
          all_goals with_reducible rfl
        try simp only [Act.put, List.setIfInBounds_toArray, List.set_cons_zero, List.set_cons_succ, List.getElem_toArray, List.getElem_cons_zero, List.getElem_cons_succ]
        refine wpAnyH_take (i := 13) (v := ?_) rfl (by kernel_rfl) (by kernel_rfl) (by kernel_rfl) (fun _ _ _ h => h) (Or.inl ⟨by rfl, ?_⟩) (by assumption) ?_
        rotate_left
        · intro w hSw
          (try dsimp only at hSw)
          go_simp
          all_goals with_reducible rfl
        try simp only [Act.put, List.setIfInBounds_toArray, List.set_cons_zero, List.set_cons_succ, List.getElem_toArray, List.getElem_cons_zero, List.getElem_cons_succ]
        refine wpAnyH_done (by kernel_rfl) ?_ _
        clear hHeld e0 e1 h0 h1 bX ZZ
        generalize (X5.setCell ⟨E9, 0, none⟩ (.int .i64 X9)).setCell ⟨E9, 1, none⟩ (.int .i64 Y9) = W9 at *
        have G10 : RG w W9 E9 X9 Y9 D2 X Y (some ⟨b, off, none⟩) l.length l := ⟨⟨v0, v1, hlt⟩, (G9.b bF).q, (G9.b bF).ls, (G9.b bF).g, (G9.b bF).bel⟩
        clear G9 bF v0 v1 hE hlt
        go_wp2_with fail
        refine wp_region_held_drew (S := (fun w' => w'.cell? ⟨E9, 0, none⟩ = some (.int .i64 X9) ∧ w'.cell? ⟨E9, 1, none⟩ = some (.int .i64 Y9))) (by kernel_rfl) (G10.keep0) (fun hHeld => ?_)
        have G10 := G10.drew
        generalize W9.drew = V10 at *
        refine wpAnyH_take (i := 0) (v := ?_) rfl (by kernel_rfl) (by kernel_rfl) (by kernel_rfl) (fun _ _ _ h => h) (Or.inl ⟨by rfl, ?_⟩) (by assumption) ?_
        rotate_left
        · intro w hSw
          (try dsimp only at hSw)
          go_simp
          all_goals with_reducible rfl
        try simp only [Act.put, List.setIfInBounds_toArray, List.set_cons_zero, List.set_cons_succ, List.getElem_toArray, List.getElem_cons_zero]
        refine wpAnyH_take (i := 1) (v := ?_) rfl (by kernel_rfl) (by kernel_rfl) (by kernel_rfl) (fun _ _ _ h => h) (Or.inl ⟨by rfl, ?_⟩) (by assumption) ?_
        rotate_left
        · intro w hSw
          (try dsimp only at hSw)
          go_simp
          all_goals with_reducible rfl
        try simp only [Act.put, List.setIfInBounds_toArray, List.set_cons_zero, List.set_cons_succ, List.getElem_toArray, List.getElem_cons_zero, List.getElem_cons_succ]
        refine wpAnyH_take (i := 2) (v := ?_) rfl (by kernel_rfl) (by kernel_rfl) (by kernel_rfl) (fun _ _ _ h => h) (Or.inl ⟨by rfl, ?_⟩) (by assumption) ?_
        rotate_left
        · intro w hSw
          (try dsimp only at hSw)
          go_simp
          all_goals with_reducible rfl
        try simp only [Act.put, List.setIfInBounds_toArray, List.set_cons_zero, List.set_cons_succ, List.getElem_toArray, List.getElem_cons_zero, List.getElem_cons_succ]
        refine wpAnyH_take (i := 3) (v := ?_) rfl (by kernel_rfl) (by kernel_rfl) (by kernel_rfl) (fun _ _ _ h => h) (Or.inl ⟨by rfl, ?_⟩) (by assumption) ?_
        rotate_left
        · intro w hSw
          (try dsimp only at hSw)
          go_simp
          all_goals with_reducible rfl
        try simp only [Act.put, List.setIfInBounds_toArray, List.set_cons_zero, List.set_cons_succ, List.getElem_toArray, List.getElem_cons_zero, List.getElem_cons_succ]
        refine wpAnyH_take (i := 4) (v := ?_) rfl (by kernel_rfl) (by kernel_rfl) (by kernel_rfl) (fun _ _ _ h => h) (Or.inl ⟨by rfl, ?_⟩) (by assumption) ?_
        rotate_left
        · intro w hSw
          (try dsimp only at hSw)
          go_simp
          all_goals with_reducible rfl
        try simp only [Act.put, List.setIfInBounds_toArray, List.set_cons_zero, List.set_cons_succ, List.getElem_toArray, List.getElem_cons_zero, List.getElem_cons_succ]
        refine wpAnyH_ready (rs := [5, 10]) (by kernel_rfl) (by simp) ?_
        refine AllReadyH.cons rfl (fun K hK => ?_) (AllReadyH.cons rfl (fun K hK => ?_) AllReadyH.nil)
        · go_simp
          (go_at_call 17; refine (K5.out _ _ _ _ (Lst.dropR G10.ls m hml) G10.g).mono ?_; rintro e w105 ⟨rfl, b105⟩)
          refine hK.out _ _ (G10.keep2 b105) (fun hHeld => ?_)
          clear hK K
          try simp only [Act.put, List.setIfInBounds_toArray, List.set_cons_zero, List.set_cons_succ, List.getElem_toArray, List.getElem_cons_zero, List.getElem_cons_succ]
          refine wpAnyH_take (i := 6) (v := ?_) rfl (by kernel_rfl) (by kernel_rfl) (by kernel_rfl) (fun _ _ _ h => h) (Or.inl ⟨by rfl, ?_⟩) (by assumption) ?_
          rotate_left
          · intro w hSw
            (try dsimp only at hSw)
            go_simp
            all_goals with_reducible rfl
          try simp only [Act.put, List.setIfInBounds_toArray, List.set_cons_zero, List.set_cons_succ, List.getElem_toArray, List.getElem_cons_zero, List.getElem_cons_succ]
          refine wpAnyH_take (i := 7) (v := ?_) rfl (by kernel_rfl) (by kernel_rfl) (by kernel_rfl) (fun _ _ _ h => h) (Or.inl ⟨by rfl, ?_⟩) (by assumption) ?_
          rotate_left
          · intro w hSw
            (try dsimp only at hSw)
            go_simp
            all_goals with_reducible rfl
          try simp only [Act.put, List.setIfInBounds_toArray, List.set_cons_zero, List.set_cons_succ, List.getElem_toArray, List.getElem_cons_zero, List.getElem_cons_succ]
          refine wpAnyH_take (i := 8) (v := ?_) rfl (by kernel_rfl) (by kernel_rfl) (by kernel_rfl) (fun _ _ _ h => h) (Or.inl ⟨by rfl, ?_⟩) (by assumption) ?_
          rotate_left
          · intro w hSw
            (try dsimp only at hSw)
            go_simp
            all_goals with_reducible rfl
          try simp only [Act.put, List.setIfInBounds_toArray, List.set_cons_zero, List.set_cons_succ, List.getElem_toArray, List.getElem_cons_zero, List.getElem_cons_succ]
          refine wpAnyH_take (i := 9) (v := ?_) rfl (by kernel_rfl) (by kernel_rfl) (by kernel_rfl) (fun _ _ _ h => h) (Or.inl ⟨by rfl, ?_⟩) (by assumption) ?_
          rotate_left
          · intro w hSw
            (try dsimp only at hSw)
            go_simp
            all_goals with_reducible rfl
          try simp only [Act.put, List.setIfInBounds_toArray, List.set_cons_zero, List.set_cons_succ, List.getElem_toArray, List.getElem_cons_zero, List.getElem_cons_succ]
          have ZZ := Zp2.new w105 24
          have bX := b105.alloc b105.size (.cells #[.int .i64 0, .int .i64 0] 24)
          have hE := b105.size
          refine wpAnyH_ready (rs := [10]) (by kernel_rfl) (by simp) ?_
          refine AllReadyH.cons rfl (fun K hK => ?_) AllReadyH.nil
          go_simp
          skip
          refine hK.out _ _ (G10.keep2 bX) (fun hHeld => ?_)
          clear hK K
          try simp only [Act.put, List.setIfInBounds_toArray, List.set_cons_zero, List.set_cons_succ, List.getElem_toArray, List.getElem_cons_zero, List.getElem_cons_succ]
          clear b105
          generalize w105.alloc (.cells #[.int .i64 0, .int .i64 0] 24) = X5 at *
          generalize w105.heap.size = E10 at *
          have e0 := ZZ.c0
          have e1 := ZZ.c1
          have h0 := ZZ.f0
          have h1 := ZZ.f1
          obtain ⟨v0, v1⟩ := Zp2.to (u := (.int .i64 X)) (v := (.int .i64 Y)) ZZ
          have bF := (bX.setCell (p := ⟨E10, 0, none⟩) hE (.int .i64 X)).setCell (p := ⟨E10, 1, none⟩) hE (.int .i64 Y)
          refine wpAnyH_ready (rs := [11]) (by kernel_rfl) (by simp) ?_
          refine AllReadyH.cons rfl (fun K hK => ?_) AllReadyH.nil
          go_simp
          skip
          refine hK.out _ _ (G10.keep2 bF) (fun hHeld => ?_)
          clear hK K
          try simp only [Act.put, List.setIfInBounds_toArray, List.set_cons_zero, List.set_cons_succ, List.getElem_toArray, List.getElem_cons_zero, List.getElem_cons_succ]
          have hlt : E10 < ((X5.setCell ⟨E10, 0, none⟩ (.int .i64 X)).setCell ⟨E10, 1, none⟩ (.int .i64 Y)).heap.size := World.block_lt_of_cell? _ _ v0
          refine wpAnyH_take (i := 12) (v := ?_) rfl (by kernel_rfl) (by kernel_rfl) (by kernel_rfl) (fun _ _ _ h => h) (Or.inl ⟨by rfl, ?_⟩) (by assumption) ?_
          rotate_left
          · intro w hSw
            (try dsimp only at hSw)
            go_simp
            all_goals with_reducible rfl
          try simp only [Act.put, List.setIfInBounds_toArray, List.set_cons_zero, List.set_cons_succ, List.getElem_toArray, List.getElem_cons_zero, List.getElem_cons_succ]
          refine wpAnyH_take (i := 13) (v := ?_) rfl (by kernel_rfl) (by kernel_rfl) (by kernel_rfl) (fun _ _ _ h => h) (Or.inl ⟨by rfl, ?_⟩) (by assumption) ?_
          rotate_left
          · intro w hSw
            (try dsimp only at hSw)
            go_simp
            all_goals with_reducible rfl
          try simp only [Act.put, List.setIfInBounds_toArray, List.set_cons_zero, List.set_cons_succ, List.getElem_toArray, List.getElem_cons_zero, List.getElem_cons_succ]
          refine wpAnyH_done (by kernel_rfl) ?_ _
          clear hHeld e0 e1 h0 h1 bX ZZ
          generalize (X5.setCell ⟨E10, 0, none⟩ (.int .i64 X)).setCell ⟨E10, 1, none⟩ (.int .i64 Y) = WX at *
          have hbel := (G10.b bF).bel
          have y0 := (G10.b bF).q.c0
          have y1 := (G10.b bF).q.c1
          clear bF G10 hE hlt
          go_wp2
          go_ret
          exact ⟨ret_bool (by first | rfl | (simp; done) | simp_all), hbel⟩
        · go_simp
          have bZ := (Below.refl V10.heap.size V10).alloc (Nat.le_refl _) (.cells #[.int .i64 0, .int .i64 0] 24)
          refine hK.out _ _ (G10.keep2 bZ) (fun hHeld => ?_)
          clear hK K
          try simp only [Act.put, List.setIfInBounds_toArray, List.set_cons_zero, List.set_cons_succ, List.getElem_toArray, List.getElem_cons_zero, List.getElem_cons_succ]
          have G10z := G10.al (.cells #[.int .i64 0, .int .i64 0] 24)
          have ZZ := Zp2.new V10 24
          refine wpAnyH_ready (rs := [5]) (by kernel_rfl) (by simp) ?_
          refine AllReadyH.cons rfl (fun K hK => ?_) AllReadyH.nil
          go_simp
          (go_at_call 17; refine (K5.out _ _ _ _ (Lst.dropR G10z.ls m hml) G10z.g).mono ?_; rintro e w105 ⟨rfl, b105⟩)
          refine hK.out _ _ (G10z.keep2 b105) (fun hHeld => ?_)
          clear hK K
          try simp only [Act.put, List.setIfInBounds_toArray, List.set_cons_zero, List.set_cons_succ, List.getElem_toArray, List.getElem_cons_zero, List.getElem_cons_succ]
          have ZZ := ZZ.b b105
          have bX := bZ.trans (b105.mono bZ.size)
          have hE := Nat.le_refl V10.heap.size
          clear b105 bZ G10z
          refine wpAnyH_take (i := 6) (v := ?_) rfl (by kernel_rfl) (by kernel_rfl) (by kernel_rfl) (fun _ _ _ h => h) (Or.inl ⟨by rfl, ?_⟩) (by assumption) ?_
          rotate_left
          · intro w hSw
            (try dsimp only at hSw)
            go_simp
            all_goals with_reducible rfl
          try simp only [Act.put, List.setIfInBounds_toArray, List.set_cons_zero, List.set_cons_succ, List.getElem_toArray, List.getElem_cons_zero, List.getElem_cons_succ]
          refine wpAnyH_take (i := 7) (v := ?_) rfl (by kernel_rfl) (by kernel_rfl) (by kernel_rfl) (fun _ _ _ h => h) (Or.inl ⟨by rfl, ?_⟩) (by assumption) ?_
          rotate_left
          · intro w hSw
            (try dsimp only at hSw)
            go_simp
            all_goals with_reducible rfl
          try simp only [Act.put, List.setIfInBounds_toArray, List.set_cons_zero, List.set_cons_succ, List.getElem_toArray, List.getElem_cons_zero, List.getElem_cons_succ]
          refine wpAnyH_take (i := 8) (v := ?_) rfl (by kernel_rfl) (by kernel_rfl) (by kernel_rfl) (fun _ _ _ h => h) (Or.inl ⟨by rfl, ?_⟩) (by assumption) ?_
          rotate_left
          · intro w hSw
            (try dsimp only at hSw)
            go_simp
            all_goals with_reducible rfl
          try simp only [Act.put, List.setIfInBounds_toArray, List.set_cons_zero, List.set_cons_succ, List.getElem_toArray, List.getElem_cons_zero, List.getElem_cons_succ]
          refine wpAnyH_take (i := 9) (v := ?_) rfl (by kernel_rfl) (by kernel_rfl) (by kernel_rfl) (fun _ _ _ h => h) (Or.inl ⟨by rfl, ?_⟩) (by assumption) ?_
          rotate_left
          · intro w hSw
            (try dsimp only at hSw)
            go_simp
            all_goals with_reducible rfl
          try simp only [Act.put, List.setIfInBounds_toArray, List.set_cons_zero, List.set_cons_succ, List.getElem_toArray, List.getElem_cons_zero, List.getElem_cons_succ]
          generalize hEE : V10.heap.size = E10 at ZZ ⊢
          have hE : V10.heap.size ≤ E10 := by omega
          clear hEE
          generalize w105 = X5 at *
          have e0 := ZZ.c0
          have e1 := ZZ.c1
          have h0 := ZZ.f0
          have h1 := ZZ.f1
          obtain ⟨v0, v1⟩ := Zp2.to (u := (.int .i64 X)) (v := (.int .i64 Y)) ZZ
          have bF := (bX.setCell (p := ⟨E10, 0, none⟩) hE (.int .i64 X)).setCell (p := ⟨E10, 1, none⟩) hE (.int .i64 Y)
          refine wpAnyH_ready (rs := [11]) (by kernel_rfl) (by simp) ?_
          refine AllReadyH.cons rfl (fun K hK => ?_) AllReadyH.nil
          go_simp
          skip
          refine hK.out _ _ (G10.keep2 bF) (fun hHeld => ?_)
          clear hK K
          try simp only [Act.put, List.setIfInBounds_toArray, List.set_cons_zero, List.set_cons_succ, List.getElem_toArray, List.getElem_cons_zero, List.getElem_cons_succ]
          have hlt : E10 < ((X5.setCell ⟨E10, 0, none⟩ (.int .i64 X)).setCell ⟨E10, 1, none⟩ (.int .i64 Y)).heap.size := World.block_lt_of_cell? _ _ v0
          refine wpAnyH_take (i := 12) (v := ?_) rfl (by kernel_rfl) (by kernel_rfl) (by kernel_rfl) (fun _ _ _ h => h) (Or.inl ⟨by rfl, ?_⟩) (by assumption) ?_
          rotate_left
          · intro w hSw
            (try dsimp only at hSw)
            go_simp
            all_goals with_reducible rfl
          try simp only [Act.put, List.setIfInBounds_toArray, List.set_cons_zero, List.set_cons_succ, List.getElem_toArray, List.getElem_cons_zero, List.getElem_cons_succ]
          refine wpAnyH_take (i := 13) (v := ?_) rfl (by kernel_rfl) (by kernel_rfl) (by kernel_rfl) (fun _ _ _ h => h) (Or.inl ⟨by rfl, ?_⟩) (by assumption) ?_
          rotate_left
          · intro w hSw
            (try dsimp only at hSw)
            go_simp
            all_goals with_reducible rfl
          try simp only [Act.put, List.setIfInBounds_toArray, List.set_cons_zero, List.set_cons_succ, List.getElem_toArray, List.getElem_cons_zero, List.getElem_cons_succ]
          refine wpAnyH_done (by kernel_rfl) ?_ _
          clear hHeld e0 e1 h0 h1 bX ZZ
          generalize (X5.setCell ⟨E10, 0, none⟩ (.int .i64 X)).setCell ⟨E10, 1, none⟩ (.int .i64 Y) = WX at *
          have hbel := (G10.b bF).bel
          have y0 := (G10.b bF).q.c0
          have y1 := (G10.b bF).q.c1
          clear bF G10 hE hlt
          go_wp2
          go_ret
          exact ⟨ret_bool (by first | rfl | (simp; done) | simp_all), hbel⟩
      · go_simp
        have bZ := (Below.refl V9.heap.size V9).alloc (Nat.le_refl _) (.cells #[.int .i64 0, .int .i64 0] 24)
        refine hK.out _ _ (G9.keep2 bZ) (fun hHeld => ?_)
        clear hK K
        try simp only [Act.put, List.setIfInBounds_toArray, List.set_cons_zero, List.set_cons_succ, List.getElem_toArray, List.getElem_cons_zero, List.getElem_cons_succ]
        have G9z := G9.al (.cells #[.int .i64 0, .int .i64 0] 24)
        have ZZ := Zp2.new V9 24
        refine wpAnyH_ready (rs := [5]) (by kernel_rfl) (by simp) ?_
        refine AllReadyH.cons rfl (fun K hK => ?_) AllReadyH.nil
        go_simp
        (go_at_call 17; refine (K4.out _ _ _ _ (Lst.take G9z.ls m hml) G9z.g).mono ?_; rintro e w95 ⟨rfl, b95⟩)
        refine hK.out _ _ (G9z.keep2 b95) (fun hHeld => ?_)
        clear hK K
        try simp only [Act.put, List.setIfInBounds_toArray, List.set_cons_zero, List.set_cons_succ, List.getElem_toArray, List.getElem_cons_zero, List.getElem_cons_succ]
        have ZZ := ZZ.b b95
        have bX := bZ.trans (b95.mono bZ.size)
        have hE := Nat.le_refl V9.heap.size
        clear b95 bZ G9z
        refine wpAnyH_take (i := 6) (v := ?_) rfl (by kernel_rfl) (by kernel_rfl) (by kernel_rfl) (fun _ _ _ h => h) (Or.inl ⟨by rfl, ?_⟩) (by assumption) ?_
        rotate_left
        · intro w hSw
          (try dsimp only at hSw)
          go_simp
          all_goals with_reducible rfl
        try simp only [Act.put, List.setIfInBounds_toArray, List.set_cons_zero, List.set_cons_succ, List.getElem_toArray, List.getElem_cons_zero, List.getElem_cons_succ]
        refine wpAnyH_take (i := 7) (v := ?_) rfl (by kernel_rfl) (by kernel_rfl) (by kernel_rfl) (fun _ _ _ h => h) (Or.inl ⟨by rfl, ?_⟩) (by assumption) ?_
        rotate_left
        · intro w hSw
          (try dsimp only at hSw)
          go_simp
          all_goals with_reducible rfl
        try simp only [Act.put, List.setIfInBounds_toArray, List.set_cons_zero, List.set_cons_succ, List.getElem_toArray, List.getElem_cons_zero, List.getElem_cons_succ]
        refine wpAnyH_take (i := 8) (v := ?_) rfl (by kernel_rfl) (by kernel_rfl) (by kernel_rfl) (fun _ _ _ h => h) (Or.inl ⟨by rfl, ?_⟩) (by assumption) ?_
        rotate_left
        · intro w hSw
          (try dsimp only at hSw)
          go_simp
          all_goals with_reducible rfl
        try simp only [Act.put, List.setIfInBounds_toArray, List.set_cons_zero, List.set_cons_succ, List.getElem_toArray, List.getElem_cons_zero, List.getElem_cons_succ]
        refine wpAnyH_take (i := 9) (v := ?_) rfl (by kernel_rfl) (by kernel_rfl) (by kernel_rfl) (fun _ _ _ h => h) (Or.inl ⟨by rfl, ?_⟩) (by assumption) ?_
        rotate_left
        · intro w hSw
          (try dsimp only at hSw)
          go_simp
          all_goals with_reducible rfl
        try simp only [Act.put, List.setIfInBounds_toArray, List.set_cons_zero, List.set_cons_succ, List.getElem_toArray, List.getElem_cons_zero, List.getElem_cons_succ]
        generalize hEE : V9.heap.size = E9 at ZZ ⊢
        have hE : V9.heap.size ≤ E9 := by omega
        clear hEE
        generalize w95 = X5 at *
        have e0 := ZZ.c0
        have e1 := ZZ.c1
        have h0 := ZZ.f0
        have h1 := ZZ.f1
        obtain ⟨v0, v1⟩ := Zp2.to (u := (.int .i64 X9)) (v := (.int .i64 Y9)) ZZ
        have bF := (bX.setCell (p := ⟨E9, 0, none⟩) hE (.int .i64 X9)).setCell (p := ⟨E9, 1, none⟩) hE (.int .i64 Y9)
        refine wpAnyH_ready (rs := [11]) (by kernel_rfl) (by simp) ?_
        refine AllReadyH.cons rfl (fun K hK => ?_) AllReadyH.nil
        go_simp
        skip
        refine hK.out _ _ (G9.keep2 bF) (fun hHeld => ?_)
        clear hK K
        try simp only [Act.put, List.setIfInBounds_toArray, List.set_cons_zero, List.set_cons_succ, List.getElem_toArray, List.getElem_cons_zero, List.getElem_cons_succ]
        have hlt : E9 < ((X5.setCell ⟨E9, 0, none⟩ (.int .i64 X9)).setCell ⟨E9, 1, none⟩ (.int .i64 Y9)).heap.size := World.block_lt_of_cell? _ _ v0
        refine wpAnyH_take (i := 12) (v := ?_) rfl (by kernel_rfl) (by kernel_rfl) (by kernel_rfl) (fun _ _ _ h => h) (Or.inl ⟨by rfl, ?_⟩) (by assumption) ?_
        rotate_left
        · intro w hSw
          (try dsimp only at hSw)
          go_simp
          all_goals with_reducible rfl
        try simp only [Act.put, List.setIfInBounds_toArray, List.set_cons_zero, List.set_cons_succ, List.getElem_toArray, List.getElem_cons_zero, List.getElem_cons_succ]
        refine wpAnyH_take (i := 13) (v := ?_) rfl (by kernel_rfl) (by kernel_rfl) (by kernel_rfl) (fun _ _ _ h => h) (Or.inl ⟨by rfl, ?_⟩) (by assumption) ?_
        rotate_left
        · intro w hSw
          (try dsimp only at hSw)
          go_simp
          all_goals with_reducible rfl
        try simp only [Act.put, List.setIfInBounds_toArray, List.set_cons_zero, List.set_cons_succ, List.getElem_toArray, List.getElem_cons_zero, List.getElem_cons_succ]
        refine wpAnyH_done (by kernel_rfl) ?_ _
        clear hHeld e0 e1 h0 h1 bX ZZ
        generalize (X5.setCell ⟨E9, 0, none⟩ (.int .i64 X9)).setCell ⟨E9, 1, none⟩ (.int .i64 Y9) = W9 at *
        have G10 : RG w W9 E9 X9 Y9 D2 X Y (some ⟨b, off, none⟩) l.length l := ⟨⟨v0, v1, hlt⟩, (G9.b bF).q, (G9.b bF).ls, (G9.b bF).g, (G9.b bF).bel⟩
        clear G9 bF v0 v1 hE hlt
        go_wp2_with fail
        refine wp_region_held_drew (S := (fun w' => w'.cell? ⟨E9, 0, none⟩ = some (.int .i64 X9) ∧ w'.cell? ⟨E9, 1, none⟩ = some (.int .i64 Y9))) (by kernel_rfl) (G10.keep0) (fun hHeld => ?_)
        have G10 := G10.drew
        generalize W9.drew = V10 at *
        refine wpAnyH_take (i := 0) (v := ?_) rfl (by kernel_rfl) (by kernel_rfl) (by kernel_rfl) (fun _ _ _ h => h) (Or.inl ⟨by rfl, ?_⟩) (by assumption) ?_
        rotate_left
        · intro w hSw
          (try dsimp only at hSw)
          go_simp
          all_goals with_reducible rfl
        try simp only [Act.put, List.setIfInBounds_toArray, List.set_cons_zero, List.set_cons_succ, List.getElem_toArray, List.getElem_cons_zero]
        refine wpAnyH_take (i := 1) (v := ?_) rfl (by kernel_rfl) (by kernel_rfl) (by kernel_rfl) (fun _ _ _ h => h) (Or.inl ⟨by rfl, ?_⟩) (by assumption) ?_
        rotate_left
        · intro w hSw
          (try dsimp only at hSw)
          go_simp
          all_goals with_reducible rfl
        try simp only [Act.put, List.setIfInBounds_toArray, List.set_cons_zero, List.set_cons_succ, List.getElem_toArray, List.getElem_cons_zero, List.getElem_cons_succ]
        refine wpAnyH_take (i := 2) (v := ?_) rfl (by kernel_rfl) (by kernel_rfl) (by kernel_rfl) (fun _ _ _ h => h) (Or.inl ⟨by rfl, ?_⟩) (by assumption) ?_
        rotate_left
        · intro w hSw
          (try dsimp only at hSw)
          go_simp
          all_goals with_reducible rfl
        try simp only [Act.put, List.setIfInBounds_toArray, List.set_cons_zero, List.set_cons_succ, List.getElem_toArray, List.getElem_cons_zero, List.getElem_cons_succ]
        refine wpAnyH_take (i := 3) (v := ?_) rfl (by kernel_rfl) (by kernel_rfl) (by kernel_rfl) (fun _ _ _ h => h) (Or.inl ⟨by rfl, ?_⟩) (by assumption) ?_
        rotate_left
        · intro w hSw
          (try dsimp only at hSw)
          go_simp
          all_goals with_reducible rfl
        try simp only [Act.put, List.setIfInBounds_toArray, List.set_cons_zero, List.set_cons_succ, List.getElem_toArray, List.getElem_cons_zero, List.getElem_cons_succ]
        refine wpAnyH_take (i := 4) (v := ?_) rfl (by kernel_rfl) (by kernel_rfl) (by kernel_rfl) (fun _ _ _ h => h) (Or.inl ⟨by rfl, ?_⟩) (by assumption) ?_
        rotate_left
        · intro w hSw
          (try dsimp only at hSw)
          go_simp
          all_goals with_reducible rfl
        try simp only [Act.put, List.setIfInBounds_toArray, List.set_cons_zero, List.set_cons_succ, List.getElem_toArray, List.getElem_cons_zero, List.getElem_cons_succ]
        refine wpAnyH_ready (rs := [5, 10]) (by kernel_rfl) (by simp) ?_
        refine AllReadyH.cons rfl (fun K hK => ?_) (AllReadyH.cons rfl (fun K hK => ?_) AllReadyH.nil)
        · go_simp
          (go_at_call 17; refine (K5.out _ _ _ _ (Lst.dropR G10.ls m hml) G10.g).mono ?_; rintro e w105 ⟨rfl, b105⟩)
          refine hK.out _ _ (G10.keep2 b105) (fun hHeld => ?_)
          clear hK K
          try simp only [Act.put, List.setIfInBounds_toArray, List.set_cons_zero, List.set_cons_succ, List.getElem_toArray, List.getElem_cons_zero, List.getElem_cons_succ]
          refine wpAnyH_take (i := 6) (v := ?_) rfl (by kernel_rfl) (by kernel_rfl) (by kernel_rfl) (fun _ _ _ h => h) (Or.inl ⟨by rfl, ?_⟩) (by assumption) ?_
          rotate_left
          · intro w hSw
            (try dsimp only at hSw)
            go_simp
            all_goals with_reducible rfl
          try simp only [Act.put, List.setIfInBounds_toArray, List.set_cons_zero, List.set_cons_succ, List.getElem_toArray, List.getElem_cons_zero, List.getElem_cons_succ]
          refine wpAnyH_take (i := 7) (v := ?_) rfl (by kernel_rfl) (by kernel_rfl) (by kernel_rfl) (fun _ _ _ h => h) (Or.inl ⟨by rfl, ?_⟩) (by assumption) ?_
          rotate_left
          · intro w hSw
            (try dsimp only at hSw)
            go_simp
            all_goals with_reducible rfl
          try simp only [Act.put, List.setIfInBounds_toArray, List.set_cons_zero, List.set_cons_succ, List.getElem_toArray, List.getElem_cons_zero, List.getElem_cons_succ]
          refine wpAnyH_take (i := 8) (v := ?_) rfl (by kernel_rfl) (by kernel_rfl) (by kernel_rfl) (fun _ _ _ h => h) (Or.inl ⟨by rfl, ?_⟩) (by assumption) ?_
          rotate_left
          · intro w hSw
            (try dsimp only at hSw)
            go_simp
            all_goals with_reducible rfl
          try simp only [Act.put, List.setIfInBounds_toArray, List.set_cons_zero, List.set_cons_succ, List.getElem_toArray, List.getElem_cons_zero, List.getElem_cons_succ]
          refine wpAnyH_take (i := 9) (v := ?_) rfl (by kernel_rfl) (by kernel_rfl) (by kernel_rfl) (fun _ _ _ h => h) (Or.inl ⟨by rfl, ?_⟩) (by assumption) ?_
          rotate_left
          · intro w hSw
            (try dsimp only at hSw)
            go_simp
            all_goals with_reducible rfl
          try simp only [Act.put, List.setIfInBounds_toArray, List.set_cons_zero, List.set_cons_succ, List.getElem_toArray, List.getElem_cons_zero, List.getElem_cons_succ]
          have ZZ := Zp2.new w105 24
          have bX := b105.alloc b105.size (.cells #[.int .i64 0, .int .i64 0] 24)
          have hE := b105.size
          refine wpAnyH_ready (rs := [10]) (by kernel_rfl) (by simp) ?_
          refine AllReadyH.cons rfl (fun K hK => ?_) AllReadyH.nil
          go_simp
          skip
          refine hK.out _ _ (G10.keep2 bX) (fun hHeld => ?_)
          clear hK K
          try simp only [Act.put, List.setIfInBounds_toArray, List.set_cons_zero, List.set_cons_succ, List.getElem_toArray, List.getElem_cons_zero, List.getElem_cons_succ]
          clear b105
          generalize w105.alloc (.cells #[.int .i64 0, .int .i64 0] 24) = X5 at *
          generalize w105.heap.size = E10 at *
          have e0 := ZZ.c0
          have e1 := ZZ.c1
          have h0 := ZZ.f0
          have h1 := ZZ.f1
          obtain ⟨v0, v1⟩ := Zp2.to (u := (.int .i64 X)) (v := (.int .i64 Y)) ZZ
          have bF := (bX.setCell (p := ⟨E10, 0, none⟩) hE (.int .i64 X)).setCell (p := ⟨E10, 1, none⟩) hE (.int .i64 Y)
          refine wpAnyH_ready (rs := [11]) (by kernel_rfl) (by simp) ?_
          refine AllReadyH.cons rfl (fun K hK => ?_) AllReadyH.nil
          go_simp
          skip
          refine hK.out _ _ (G10.keep2 bF) (fun hHeld => ?_)
          clear hK K
          try simp only [Act.put, List.setIfInBounds_toArray, List.set_cons_zero, List.set_cons_succ, List.getElem_toArray, List.getElem_cons_zero, List.getElem_cons_succ]
          have hlt : E10 < ((X5.setCell ⟨E10, 0, none⟩ (.int .i64 X)).setCell ⟨E10, 1, none⟩ (.int .i64 Y)).heap.size := World.block_lt_of_cell? _ _ v0
          refine wpAnyH_take (i := 12) (v := ?_) rfl (by kernel_rfl) (by kernel_rfl) (by kernel_rfl) (fun _ _ _ h => h) (Or.inl ⟨by rfl, ?_⟩) (by assumption) ?_
          rotate_left
          · intro w hSw
            (try dsimp only at hSw)
            go_simp
            all_goals with_reducible rfl
          try simp only [Act.put, List.setIfInBounds_toArray, List.set_cons_zero, List.set_cons_succ, List.getElem_toArray, List.getElem_cons_zero, List.getElem_cons_succ]
          refine wpAnyH_take (i := 13) (v := ?_) rfl (by kernel_rfl) (by kernel_rfl) (by kernel_rfl) (fun _ _ _ h => h) (Or.inl ⟨by rfl, ?_⟩) (by assumption) ?_
          rotate_left
          · intro w hSw
            (try dsimp only at hSw)
            go_simp
            all_goals with_reducible rfl
          try simp only [Act.put, List.setIfInBounds_toArray, List.set_cons_zero, List.set_cons_succ, List.getElem_toArray, List.getElem_cons_zero, List.getElem_cons_succ]
          refine wpAnyH_done (by kernel_rfl) ?_ _
          clear hHeld e0 e1 h0 h1 bX ZZ
          generalize (X5.setCell ⟨E10, 0, none⟩ (.int .i64 X)).setCell ⟨E10, 1, none⟩ (.int .i64 Y) = WX at *
          have hbel := (G10.b bF).bel
          have y0 := (G10.b bF).q.c0
          have y1 := (G10.b bF).q.c1
          clear bF G10 hE hlt
          go_wp2
          go_ret
          exact ⟨ret_bool (by first | rfl | (simp; done) | simp_all), hbel⟩
        · go_simp
          have bZ := (Below.refl V10.heap.size V10).alloc (Nat.le_refl _) (.cells #[.int .i64 0, .int .i64 0] 24)
          refine hK.out _ _ (G10.keep2 bZ) (fun hHeld => ?_)
          clear hK K
          try simp only [Act.put, List.setIfInBounds_toArray, List.set_cons_zero, List.set_cons_succ, List.getElem_toArray, List.getElem_cons_zero, List.getElem_cons_succ]
          have G10z := G10.al (.cells #[.int .i64 0, .int .i64 0] 24)
          have ZZ := Zp2.new V10 24
          refine wpAnyH_ready (rs := [5]) (by kernel_rfl) (by simp) ?_
          refine AllReadyH.cons rfl (fun K hK => ?_) AllReadyH.nil
          go_simp
          (go_at_call 17; refine (K5.out _ _ _ _ (Lst.dropR G10z.ls m hml) G10z.g).mono ?_; rintro e w105 ⟨rfl, b105⟩)
          refine hK.out _ _ (G10z.keep2 b105) (fun hHeld => ?_)
          clear hK K
          try simp only [Act.put, List.setIfInBounds_toArray, List.set_cons_zero, List.set_cons_succ, List.getElem_toArray, List.getElem_cons_zero, List.getElem_cons_succ]
          have ZZ := ZZ.b b105
          have bX := bZ.trans (b105.mono bZ.size)
          have hE := Nat.le_refl V10.heap.size
          clear b105 bZ G10z
          refine wpAnyH_take (i := 6) (v := ?_) rfl (by kernel_rfl) (by kernel_rfl) (by kernel_rfl) (fun _ _ _ h => h) (Or.inl ⟨by rfl, ?_⟩) (by assumption) ?_
          rotate_left
          · intro w hSw
            (try dsimp only at hSw)
            go_simp
            all_goals with_reducible rfl
          try simp only [Act.put, List.setIfInBounds_toArray, List.set_cons_zero, List.set_cons_succ, List.getElem_toArray, List.getElem_cons_zero, List.getElem_cons_succ]
          refine wpAnyH_take (i := 7) (v := ?_) rfl (by kernel_rfl) (by kernel_rfl) (by kernel_rfl) (fun _ _ _ h => h) (Or.inl ⟨by rfl, ?_⟩) (by assumption) ?_
          rotate_left
          · intro w hSw
            (try dsimp only at hSw)
            go_simp
            all_goals with_reducible rfl
          try simp only [Act.put, List.setIfInBounds_toArray, List.set_cons_zero, List.set_cons_succ, List.getElem_toArray, List.getElem_cons_zero, List.getElem_cons_succ]
          refine wpAnyH_take (i := 8) (v := ?_) rfl (by kernel_rfl) (by kernel_rfl) (by kernel_rfl) (fun _ _ _ h => h) (Or.inl ⟨by rfl, ?_⟩) (by assumption) ?_
          rotate_left
          · intro w hSw
            (try dsimp only at hSw)
            go_simp
            all_goals with_reducible rfl
          try simp only [Act.put, List.setIfInBounds_toArray, List.set_cons_zero, List.set_cons_succ, List.getElem_toArray, List.getElem_cons_zero, List.getElem_cons_succ]
          refine wpAnyH_take (i := 9) (v := ?_) rfl (by kernel_rfl) (by kernel_rfl) (by kernel_rfl) (fun _ _ _ h => h) (Or.inl ⟨by rfl, ?_⟩) (by assumption) ?_
          rotate_left
          · intro w hSw
            (try dsimp only at hSw)
            go_simp
            all_goals with_reducible rfl
          try simp only [Act.put, List.setIfInBounds_toArray, List.set_cons_zero, List.set_cons_succ, List.getElem_toArray, List.getElem_cons_zero, List.getElem_cons_succ]
          generalize hEE : V10.heap.size = E10 at ZZ ⊢
          have hE : V10.heap.size ≤ E10 := by omega
          clear hEE
          generalize w105 = X5 at *
          have e0 := ZZ.c0
          have e1 := ZZ.c1
          have h0 := ZZ.f0
          have h1 := ZZ.f1
          obtain ⟨v0, v1⟩ := Zp2.to (u := (.int .i64 X)) (v := (.int .i64 Y)) ZZ
          have bF := (bX.setCell (p := ⟨E10, 0, none⟩) hE (.int .i64 X)).setCell (p := ⟨E10, 1, none⟩) hE (.int .i64 Y)
          refine wpAnyH_ready (rs := [11]) (by kernel_rfl) (by simp) ?_
          refine AllReadyH.cons rfl (fun K hK => ?_) AllReadyH.nil
          go_simp
          skip
          refine hK.out _ _ (G10.keep2 bF) (fun hHeld => ?_)
          clear hK K
          try simp only [Act.put, List.setIfInBounds_toArray, List.set_cons_zero, List.set_cons_succ, List.getElem_toArray, List.getElem_cons_zero, List.getElem_cons_succ]
          have hlt : E10 < ((X5.setCell ⟨E10, 0, none⟩ (.int .i64 X)).setCell ⟨E10, 1, none⟩ (.int .i64 Y)).heap.size := World.block_lt_of_cell? _ _ v0
          refine wpAnyH_take (i := 12) (v := ?_) rfl (by kernel_rfl) (by kernel_rfl) (by kernel_rfl) (fun _ _ _ h => h) (Or.inl ⟨by rfl, ?_⟩) (by assumption) ?_
          rotate_left
          · intro w hSw
            (try dsimp only at hSw)
            go_simp
            all_goals with_reducible rfl
          try simp only [Act.put, List.setIfInBounds_toArray, List.set_cons_zero, List.set_cons_succ, List.getElem_toArray, List.getElem_cons_zero, List.getElem_cons_succ]
          refine wpAnyH_take (i := 13) (v := ?_) rfl (by kernel_rfl) (by kernel_rfl) (by kernel_rfl) (fun _ _ _ h => h) (Or.inl ⟨by rfl, ?_⟩) (by assumption) ?_
          rotate_left
          · intro w hSw
            (try dsimp only at hSw)
            go_simp
            all_goals with_reducible rfl
          try simp only [Act.put, List.setIfInBounds_toArray, List.set_cons_zero, List.set_cons_succ, List.getElem_toArray, List.getElem_cons_zero, List.getElem_cons_succ]
          refine wpAnyH_done (by kernel_rfl) ?_ _
          clear hHeld e0 e1 h0 h1 bX ZZ
          generalize (X5.setCell ⟨E10, 0, none⟩ (.int .i64 X)).setCell ⟨E10, 1, none⟩ (.int .i64 Y) = WX at *
          have hbel := (G10.b bF).bel
          have y0 := (G10.b bF).q.c0
          have y1 := (G10.b bF).q.c1
          clear bF G10 hE hlt
          go_wp2
          go_ret
          exact ⟨ret_bool (by first | rfl | (simp; done) | simp_all), hbel⟩

/-! ### THE ROW's STEP: WRITTEN OUT: LEAVE IT -/
set_option maxRecDepth 100000 in
theorem lifted (os : Os) (started : os.Started) (H : Type) (enc : TypeId × Value → H) :
    ReturnsInHanded {} Tryd.checked os 6 .any (fun w args => (Rows.fnRunPollsSpec.pre enc Tryd.prog Tryd.f6 [] false w args ∧ laidMetH Tryd.prog laidL w) ∧ sizedMet enc Tryd.prog Tryd.f6 (OpenSpec.ofChange Rows.fnRunPollsSpec) false w args) (Rows.fnRunPollsSpec.post enc Tryd.prog Tryd.f6 false true false false) := by
  refine returnsInHanded_of_change_and (C := Tryd.checked) (X := fun w _ => laidMetH Tryd.prog laidL w) (fun _ _ _ hh h => h.of_heap hh) own started (by kernel_rfl) Tryd.func6
    (ChangeSpec.witness_shaped (enc := enc) (C := Tryd.checked) (os := os) (X := fun w _ => laidMetH Tryd.prog laidL w) false (World.doorLaid Tryd.prog 400 os) #[.slice none 0 0] 8 rfl (World.shaped_of_RefB (by kernel_rfl) (by kernel_rfl)) (by kernel_rfl) (by kernel_rfl) (by kernel_rfl) (door_met os _)) ?_
  intro W base args ds gs before hval0 hW _ _ hL _
  have hval : ∀ (j : Nat) t v, Tryd.f6.params[j]? = some t → args[j]? = some v → Value.okWide Tryd.prog W .any base t v := hval0
  have hW' := hW
  obtain ⟨p, q, hA0, hV, rfl, hfz, hnd⟩ := hW
  have hA : DataW.TrodAll enc Tryd.prog W 0 (fun _ => true) true Tryd.f6.params.toList args.toList ds p := hA0
  rw [Tryd.params6] at hA hval
  obtain ⟨v0, vs0, d0, ds0, p0, q0, hargs, rfl, rfl, h0, r0⟩ := trodAll_cons hA
  obtain ⟨rfl, rfl, rfl⟩ := trodAll_nil r0
  obtain rfl : args = #[v0] := by cases args; simp_all
  have hVk : DataW.TrodVars enc Tryd.prog W (fun _ => true) [VN] gs q := hV
  obtain ⟨vg, vt, vcs, vf, vd, vp, rfl, vh1, vh2, vh3, vh4, rfl⟩ := trodVars_one (n := VN) hV
  obtain ⟨a0, len0, cap0, rfl⟩ := okWide_slice Tryd.underlying22 (hval 0 22 v0 rfl rfl)
  have k0 := h0
  have lt0 : ∀ x ∈ p0, x.block < W.heap.size := by obtain ⟨m, hm⟩ := k0; exact DataW.trod_lt m _ _ _ hm
  obtain ⟨z0, w0⟩ : ∃ zs, IsRow .u8 W a0 len0 cap0 zs := by
    obtain ⟨fuel, hf⟩ := h0
    rcases open_ints Tryd.underlying22 Tryd.underlying5 (by kernel_rfl) hf with ⟨hcs, _⟩ | ⟨x, l, c, zs, hcs, _, hl, hm, hz, _, hcell, hwz⟩
    · simp [Value.cells] at hcs
      obtain ⟨rfl, rfl, rfl⟩ := hcs
      exact ⟨[], .inl ⟨rfl, rfl, rfl, rfl⟩⟩
    · simp [Value.cells] at hcs
      obtain ⟨rfl, rfl, rfl⟩ := hcs
      exact ⟨zs, .inr ⟨_, rfl, hl, hm, by simpa using hz, hcell, hwz⟩⟩
  clear hA0 hval0
  refine (walk a0 len0 cap0 z0 W w0 (of_laid hL)).mono fun e W' ⟨he, bel⟩ => ?_
  subst he
  exact ⟨_, rfl, _, _, _, [], _, _, hW', trodAll_mk1 (shut_bool Tryd.underlying4 _), (trodAll_cons_mk (Below.trod laidOut (by kernel_rfl) (of_decide_eq_true (by kernel_rfl)) k0 bel lt0) trodAll_mk0), Below.trodVars laidOut bel (by kernel_rfl) hVk, bel.frame _, fun h => by cases h⟩

theorem over : Rows.fnRunPollsRow.holds Tryd.pinned (OpenSpec.ofChange Rows.fnRunPollsSpec) :=
  OpenClaim.holds_of_wide 6 Tryd.f6 rfl rfl rfl rfl rfl rfl rfl ⟨rfl, rfl, rfl, rfl, rfl⟩ rfl rfl rfl rfl rfl (by kernel_rfl) Tryd.func6 (by kernel_rfl)
    (of_decide_eq_true (by kernel_rfl)) (by unfold Func.isWrapper; first | (rw [if_pos (by decide +kernel)]; kernel_rfl) | (rw [if_neg (by decide +kernel)]; exact ⟨rfl, rfl⟩))
    (fun os started H enc _ => lifted os started H enc)

/-- ████ THE STATEMENT ████ -/
theorem proved : Rows.FnRunPollsCardSaid :=
  Claim7.holds_tied_plain_at .later [] [.data] true (true, "f2e49cd36c93ffb06ebc91e7e571fd3580a7b60fdc3852441a80230de0c8a5b1") false over (fun _ h => by cases h) (by kernel_rfl) (fun _ h => by cases h) fnRunPolls_row_tie rfl ⟨rfl, rfl⟩ (by kernel_rfl) rfl
    (fun f fn hf hfn => by
      obtain rfl : f = 6 := Option.some.inj ((show Tryd.prog.funcNamed "loop.example/satelliteclock/laws.FnRunPolls" = some 6 by kernel_rfl).symm.trans hf) |>.symm
      obtain rfl : fn = Tryd.f6 := (Option.some.inj (Tryd.func6.symm.trans hfn)).symm
      exact ⟨by kernel_rfl, fun j t ht => by
        rw [Tryd.params6] at ht
        have hm : t ∈ [22] := by simpa using Array.mem_of_getElem? ht
        have hall : ([22].all fun u => !Tryd.prog.wantsStandIn u) = true := by kernel_rfl
        exact (show Tryd.prog.wantsStandIn t = false by simpa using List.all_eq_true.1 hall t hm)⟩)
    (by kernel_rfl)
#print axioms proved
end Go.Proofs.YthbfjmlkcgcgaaaDoor.fnRunPolls
