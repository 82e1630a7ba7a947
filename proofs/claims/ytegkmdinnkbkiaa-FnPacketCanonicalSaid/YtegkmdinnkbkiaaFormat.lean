/-
  Packets (chapter 10): the bytes of a packet; the program's function.
-/
import Derived.Test.YtegkmdinnkbkiaaBytes
import Derived.Test.YtegkmdinnkbkiaaCopyD
import Derived.Deep.RegionHeld3
import Derived.Deep.Cut
namespace Go.Proofs.Ytegkmdinnkbkiaa
open Go.RowKit
set_option linter.unusedVariables false
set_option maxRecDepth 100000
namespace D
def upd (f : Nat → Int) (off n : Nat) (g : Nat → Int) (i : Nat) : Int := if off ≤ i ∧ i < off + n then g (i - off) else f i
/-- The bytes of a packet. -/
def fb (a b c d e f g h : Int) (i : Nat) : Int :=
  if i = 0 then 64 * a + 32 + b else if i = 1 then c else if i = 2 then d else if i < 5 then dg e (4 - i) else if i < 11 then dg f (10 - i) else if i < 17 then dg g (16 - i) else dg h (22 - i)
theorem first (a b : Int) (ha : 0 ≤ a ∧ a ≤ 3) (hb : 0 ≤ b ∧ b ≤ 7) : bits BinOp.or IntKind.i64 (bits BinOp.or IntKind.i64 (a * 64) 32) b % 256 = 64 * a + 32 + b := by
  rcases (by omega : a = 0 ∨ a = 1 ∨ a = 2 ∨ a = 3) with rfl | rfl | rfl | rfl <;> rcases (by omega : b = 0 ∨ b = 1 ∨ b = 2 ∨ b = 3 ∨ b = 4 ∨ b = 5 ∨ b = 6 ∨ b = 7) with rfl | rfl | rfl | rfl | rfl | rfl | rfl | rfl <;> decide
theorem dg_low {x : Int} (h : 0 ≤ x ∧ x < 256) : dg x 0 = x := by unfold dg cut; omega
def z0 (a b : Int) : Nat → Int := upd (fun _ => 0) 0 1 (fun _ => 64 * a + 32 + b)
def zz (a b c d e f g h : Int) : Nat → Int := upd (upd (upd (upd (upd (upd (z0 a b) 1 1 (fun i => dg c (1 - 1 - i))) 2 1 (fun i => dg d (1 - 1 - i))) 3 2 (fun i => dg e (2 - 1 - i))) 5 6 (fun i => dg f (6 - 1 - i))) 11 6 (fun i => dg g (6 - 1 - i))) 17 6 (fun i => dg h (6 - 1 - i))
theorem zz_fb {a b c d e f g h : Int} (hc : 0 ≤ c ∧ c < 256) (hd : 0 ≤ d ∧ d < 256) (i : Nat) (hi : i < 23) : zz a b c d e f g h i = fb a b c d e f g h i := by
  have h1 := dg_low hc
  have h2 := dg_low hd
  unfold zz z0 upd fb
  rcases (by omega : i = 0 ∨ i = 1 ∨ i = 2 ∨ i = 3 ∨ i = 4 ∨ i = 5 ∨ i = 6 ∨ i = 7 ∨ i = 8 ∨ i = 9 ∨ i = 10 ∨ i = 11 ∨ i = 12 ∨ i = 13 ∨ i = 14 ∨ i = 15 ∨ i = 16 ∨ i = 17 ∨ i = 18 ∨ i = 19 ∨ i = 20 ∨ i = 21 ∨ i = 22) with rfl | rfl | rfl | rfl | rfl | rfl | rfl | rfl | rfl | rfl | rfl | rfl | rfl | rfl | rfl | rfl | rfl | rfl | rfl | rfl | rfl | rfl | rfl <;> simp [h1, h2]
end D
/-- A packet in a block, and 23 bytes that are being written in another one. -/
structure Fb (w w' : World) (P E : Nat) (a b c d e f g h : Int) (z : Nat → Int) : Prop where
  p : C8 w' P a b c d e f g h
  by_ : ∀ i, i < 23 → w'.cell? ⟨E, i, none⟩ = some (.int .u8 (z i)) ∧ w'.frozen? ⟨E, i, none⟩ = false
  lt : E < w'.heap.size
  ne : P ≠ E
  lo : w.heap.size ≤ E
  bel : Below w.heap.size w w'
section
variable {w w' w'' : World} {P E : Nat} {a b c d e f g h : Int} {z : Nat → Int}
theorem Fb.drew (k : Fb w w' P E a b c d e f g h z) : Fb w w'.drew P E a b c d e f g h z := ⟨k.p.dr 1, k.by_, k.lt, k.ne, k.lo, k.bel.drew⟩
theorem Fb.wr (k : Fb w w' P E a b c d e f g h z) {off n : Nat} {u : Nat → Int} (hw : Wr w' w'' E off n 0 u) : Fb w w'' P E a b c d e f g h (D.upd z off n u) := by
  have hp : ∀ o, w''.cell? ⟨P, o, none⟩ = w'.cell? ⟨P, o, none⟩ := fun o => hw.oth P o (.inl k.ne)
  refine ⟨⟨(hp 0).trans k.p.c0, (hp 1).trans k.p.c1, (hp 2).trans k.p.c2, (hp 3).trans k.p.c3, (hp 4).trans k.p.c4, (hp 5).trans k.p.c5, (hp 6).trans k.p.c6, (hp 7).trans k.p.c7, by rw [hw.size]; exact k.p.lt⟩, fun i hi => ⟨?_, (hw.fro E i).trans (k.by_ i hi).2⟩, by rw [hw.size]; exact k.lt, k.ne, k.lo, k.bel.trans (hw.bel _ k.lo)⟩
  unfold D.upd
  split
  · have := hw.put (i - off) (by omega) (by omega)
    rwa [show off + (i - off) = i by omega] at this
  · exact (hw.oth E i (by omega)).trans (k.by_ i hi).1
end
theorem Wr.one (w : World) (E off n : Nat) (x : Int) (hn : 1 ≤ n) {y : Value} (hy : w.cell? ⟨E, off, none⟩ = some y) : Wr w (w.setCell ⟨E, off, none⟩ (.int .u8 x)) E off 1 0 (fun _ => x) :=
  Wr.step (f := fun _ => x) (Wr.refl w E off 1 (fun _ => x)) (by omega) hy
theorem u8_info : (Try.prog.info? 5).map (fun i => (i.zero, i.size, i.bytes)) = some (some (.int .u8 0), 1, 1) := by kernel_rfl
set_option maxHeartbeats 4000000 in
theorem FP_impl (a b c d e f g h : Int) (w : World) : Calls Try.prog 7 #[.agg #[.int .i64 a, .int .i64 b, .int .i64 c, .int .i64 d, .int .i64 e, .int .i64 f, .int .i64 g, .int .i64 h]] w fun r w' =>
    Below w.heap.size w w' ∧ ((D.vp a b c d e f g h = false ∧ r = .returned (.slice none 0 0)) ∨ (D.vp a b c d e f g h = true ∧ ∃ E, w.heap.size ≤ E ∧ r = .returned (.slice (some ⟨E, 0, none⟩) 23 23) ∧ (∀ i, i < 23 → w'.cell? ⟨E, i, none⟩ = some (.int .u8 (D.fb a b c d e f g h i))) ∧ ∀ i, i < 23 → w'.frozen? ⟨E, i, none⟩ = false)) := by
  have bA := (Below.refl w.heap.size w).alloc (Nat.le_refl _) (.cells #[.int .i64 a, .int .i64 b, .int .i64 c, .int .i64 d, .int .i64 e, .int .i64 f, .int .i64 g, .int .i64 h] 24)
  have xA := C8.new w a b c d e f g h 24
  have k1 := fun w' => vp_impl a b c d e f g h w'
  rcases hv : D.vp a b c d e f g h with _ | _
  · simp only [hv] at k1
    clear hv
    go_enter Try.func7, Try.ntmps7
    go_wp2_with fail
    refine (k1 _).mono ?_
    rintro r w1 ⟨rfl, b1⟩
    have b2 := bA.trans (b1.mono bA.size)
    clear bA b1 xA k1
    go_wp2
    go_ret
    exact ⟨b2, .inl ⟨by trivial, rfl⟩⟩
  · have hvp := D.vp_of hv
    simp only [hv] at k1
    clear hv
    have hfirst := D.first a b hvp.1 hvp.2.1
    have ha64 : IntKind.i64.wrap (a * 64) = a * 64 := IntWalk.i64_in _ (by have := hvp.1; omega)
    have hst := And.intro (T.vs_of hvp.2.2.2.2.2.1) (And.intro (T.vs_of hvp.2.2.2.2.2.2.1) (T.vs_of hvp.2.2.2.2.2.2.2))
    have HV := Lib.hid (And.intro hvp hst)
    clear hvp hst
    go_enter Try.func7, Try.ntmps7
    go_wp2_with fail
    refine (k1 _).mono ?_
    rintro r w1 ⟨rfl, b1⟩
    have b2 := bA.trans (b1.mono bA.size)
    have x1 := xA.bw b1
    have p0 := x1.c0
    have p1 := x1.c1
    clear bA b1 xA k1
    have hPs := x1.lt
    generalize hP : w.heap.size = P at p0 p1 x1 hPs ⊢
    obtain ⟨i0, hi0, hz0, hz1, hz2⟩ := info_parts u8_info
    obtain ⟨w3, hrun, own3, hg3⟩ := run_make_full (P := Try.prog) w1 w1.heap.size 22 5 i0 (.int .u8 0) 1 Try.underlying22 hi0 hz0 hz1 .i64 .i64 23 (by rw [hz2]; omega) (by unfold maxLen; omega) (Nat.le_refl _)
    rw [show ((23 : Nat) : Int) = 23 from rfl] at hrun
    have hb3 : Below w1.heap.size w1 w3 := (Below.refl _ _).grown hg3 (Nat.le_refl _) (fun k hk => by cases hk)
    rw [show (Value.int IntKind.u8 0).cells = #[.int .u8 0] from rfl, toList_madeCells_one, Nat.mul_one] at own3
    have hcur : ∀ i, i < 23 → w3.cell? ⟨w1.heap.size, i, none⟩ = some (.int .u8 0) ∧ w3.frozen? ⟨w1.heap.size, i, none⟩ = false := fun i hi => by
      have h1 := own3.cellAt i (by omega)
      rw [List.getElem?_replicate, if_pos hi] at h1
      exact ⟨h1, own3.frozenAt i⟩
    have F0 : Fb w w3 P w1.heap.size a b c d e f g h (fun _ => 0) := ⟨x1.bw hb3, hcur, World.block_lt_of_cell? _ _ (hcur 0 (by omega)).1, by omega, b2.size, b2.trans (hb3.mono b2.size)⟩
    have q0 := (hcur 0 (by omega)).1
    have q1 := (hcur 0 (by omega)).2
    have p0 := F0.p.c0
    have p1 := F0.p.c1
    clear x1 b2 hb3 own3 hg3 hi0 hz0 hz1 hz2 hcur hPs
    generalize hE : w1.heap.size = E at *
    go_upto_region 5 with (fail)
    have F1 := F0.wr (Wr.one w3 E 0 1 (64 * a + 32 + b) (by omega) q0)
    clear F0 q0 q1 p0 p1 hrun hfirst ha64
    generalize w3.setCell ⟨E, 0, none⟩ (.int .u8 (64 * a + 32 + b)) = V1 at *
    go_wp2_with fail
    refine wp_region_held_drew (S := (fun w' => w'.cell? ⟨P, 2, none⟩ = some (.int .i64 c))) (by kernel_rfl) (F1.p.c2) (fun hHeld => ?_)
    have G1 := F1.drew
    clear F1
    generalize V1.drew = U1 at *
    refine wpAnyH_take (i := 0) (v := ?_) rfl (by kernel_rfl) (by kernel_rfl) (by kernel_rfl) (fun _ _ _ h => h) (Or.inl ⟨by rfl, ?_⟩) (by assumption) ?_
    rotate_left
    · intro w hSw
      (try dsimp only at hSw)
      go_simp
      all_goals with_reducible rfl
    try simp only [Act.put, List.setIfInBounds_toArray, List.set_cons_zero, List.set_cons_succ, List.getElem_toArray, List.getElem_cons_zero]
    refine wpAnyH_take (i := 1) (v := ?_) rfl (by kernel_rfl) (by kernel_rfl) (by kernel_rfl) (fun _ _ _ h => h) (Or.inl ⟨by rfl, ?_⟩) (by assumption) ?_
    rotate_left
    · intro w hSw
      (try dsimp only at hSw)
      go_simp
      all_goals with_reducible rfl
    try simp only [Act.put, List.setIfInBounds_toArray, List.set_cons_zero, List.set_cons_succ, List.getElem_toArray, List.getElem_cons_zero, List.getElem_cons_succ]
    refine wpAnyH_take (i := 2) (v := ?_) rfl (by kernel_rfl) (by kernel_rfl) (by kernel_rfl) (fun _ _ _ h => h) (Or.inl ⟨by rfl, ?_⟩) (by assumption) ?_
    rotate_left
    · intro w hSw
      (try dsimp only at hSw)
      go_simp
      all_goals with_reducible rfl
    try simp only [Act.put, List.setIfInBounds_toArray, List.set_cons_zero, List.set_cons_succ, List.getElem_toArray, List.getElem_cons_zero, List.getElem_cons_succ]
    refine wpAnyH_take (i := 3) (v := ?_) rfl (by kernel_rfl) (by kernel_rfl) (by kernel_rfl) (fun _ _ _ h => h) (Or.inl ⟨by rfl, ?_⟩) (by assumption) ?_
    rotate_left
    · intro w hSw
      (try dsimp only at hSw)
      go_simp
      all_goals with_reducible rfl
    try simp only [Act.put, List.setIfInBounds_toArray, List.set_cons_zero, List.set_cons_succ, List.getElem_toArray, List.getElem_cons_zero, List.getElem_cons_succ]
    refine wpAnyH_ready (rs := [4]) (by kernel_rfl) (by simp) ?_
    refine AllReadyH.cons rfl (fun K hK => ?_) AllReadyH.nil
    go_simp
    (go_at_call 19; refine (put_impl E 1 1 22 c _ (by have := HV.out.1.2.2; have := HV.out.2; simp only [D.Vp] at *; omega) (by omega) (by omega) (fun i hi => ⟨⟨_, (G1.by_ (1 + i) (by omega)).1⟩, (G1.by_ (1 + i) (by omega)).2⟩)).mono ?_; rintro r V2 ⟨⟨u1, rfl⟩, hW1⟩; have F2 := G1.wr hW1; clear hW1 G1)
    refine hK.out _ _ (F2.p.c2) (fun hHeld => ?_)
    clear hK K
    try simp only [Act.put, List.setIfInBounds_toArray, List.set_cons_zero, List.set_cons_succ, List.getElem_toArray, List.getElem_cons_zero, List.getElem_cons_succ]
    refine wpAnyH_done (by kernel_rfl) ?_ _
    clear hHeld
    go_wp2_with fail
    refine wp_region_held_drew (S := (fun w' => w'.cell? ⟨P, 3, none⟩ = some (.int .i64 d))) (by kernel_rfl) (F2.p.c3) (fun hHeld => ?_)
    have G2 := F2.drew
    clear F2
    generalize V2.drew = U2 at *
    refine wpAnyH_take (i := 0) (v := ?_) rfl (by kernel_rfl) (by kernel_rfl) (by kernel_rfl) (fun _ _ _ h => h) (Or.inl ⟨by rfl, ?_⟩) (by assumption) ?_
    rotate_left
    · intro w hSw
      (try dsimp only at hSw)
      go_simp
      all_goals with_reducible rfl
    try simp only [Act.put, List.setIfInBounds_toArray, List.set_cons_zero, List.set_cons_succ, List.getElem_toArray, List.getElem_cons_zero]
    refine wpAnyH_take (i := 1) (v := ?_) rfl (by kernel_rfl) (by kernel_rfl) (by kernel_rfl) (fun _ _ _ h => h) (Or.inl ⟨by rfl, ?_⟩) (by assumption) ?_
    rotate_left
    · intro w hSw
      (try dsimp only at hSw)
      go_simp
      all_goals with_reducible rfl
    try simp only [Act.put, List.setIfInBounds_toArray, List.set_cons_zero, List.set_cons_succ, List.getElem_toArray, List.getElem_cons_zero, List.getElem_cons_succ]
    refine wpAnyH_take (i := 2) (v := ?_) rfl (by kernel_rfl) (by kernel_rfl) (by kernel_rfl) (fun _ _ _ h => h) (Or.inl ⟨by rfl, ?_⟩) (by assumption) ?_
    rotate_left
    · intro w hSw
      (try dsimp only at hSw)
      go_simp
      all_goals with_reducible rfl
    try simp only [Act.put, List.setIfInBounds_toArray, List.set_cons_zero, List.set_cons_succ, List.getElem_toArray, List.getElem_cons_zero, List.getElem_cons_succ]
    refine wpAnyH_take (i := 3) (v := ?_) rfl (by kernel_rfl) (by kernel_rfl) (by kernel_rfl) (fun _ _ _ h => h) (Or.inl ⟨by rfl, ?_⟩) (by assumption) ?_
    rotate_left
    · intro w hSw
      (try dsimp only at hSw)
      go_simp
      all_goals with_reducible rfl
    try simp only [Act.put, List.setIfInBounds_toArray, List.set_cons_zero, List.set_cons_succ, List.getElem_toArray, List.getElem_cons_zero, List.getElem_cons_succ]
    refine wpAnyH_ready (rs := [4]) (by kernel_rfl) (by simp) ?_
    refine AllReadyH.cons rfl (fun K hK => ?_) AllReadyH.nil
    go_simp
    (go_at_call 19; refine (put_impl E 2 1 21 d _ (by have := HV.out.1.2.2; have := HV.out.2; simp only [D.Vp] at *; omega) (by omega) (by omega) (fun i hi => ⟨⟨_, (G2.by_ (2 + i) (by omega)).1⟩, (G2.by_ (2 + i) (by omega)).2⟩)).mono ?_; rintro r V3 ⟨⟨u2, rfl⟩, hW2⟩; have F3 := G2.wr hW2; clear hW2 G2)
    refine hK.out _ _ (F3.p.c3) (fun hHeld => ?_)
    clear hK K
    try simp only [Act.put, List.setIfInBounds_toArray, List.set_cons_zero, List.set_cons_succ, List.getElem_toArray, List.getElem_cons_zero, List.getElem_cons_succ]
    refine wpAnyH_done (by kernel_rfl) ?_ _
    clear hHeld
    go_wp2_with fail
    refine wp_region_held_drew (S := (fun w' => w'.cell? ⟨P, 4, none⟩ = some (.int .i64 e))) (by kernel_rfl) (F3.p.c4) (fun hHeld => ?_)
    have G3 := F3.drew
    clear F3
    generalize V3.drew = U3 at *
    refine wpAnyH_take (i := 0) (v := ?_) rfl (by kernel_rfl) (by kernel_rfl) (by kernel_rfl) (fun _ _ _ h => h) (Or.inl ⟨by rfl, ?_⟩) (by assumption) ?_
    rotate_left
    · intro w hSw
      (try dsimp only at hSw)
      go_simp
      all_goals with_reducible rfl
    try simp only [Act.put, List.setIfInBounds_toArray, List.set_cons_zero, List.set_cons_succ, List.getElem_toArray, List.getElem_cons_zero]
    refine wpAnyH_take (i := 1) (v := ?_) rfl (by kernel_rfl) (by kernel_rfl) (by kernel_rfl) (fun _ _ _ h => h) (Or.inl ⟨by rfl, ?_⟩) (by assumption) ?_
    rotate_left
    · intro w hSw
      (try dsimp only at hSw)
      go_simp
      all_goals with_reducible rfl
    try simp only [Act.put, List.setIfInBounds_toArray, List.set_cons_zero, List.set_cons_succ, List.getElem_toArray, List.getElem_cons_zero, List.getElem_cons_succ]
    refine wpAnyH_take (i := 2) (v := ?_) rfl (by kernel_rfl) (by kernel_rfl) (by kernel_rfl) (fun _ _ _ h => h) (Or.inl ⟨by rfl, ?_⟩) (by assumption) ?_
    rotate_left
    · intro w hSw
      (try dsimp only at hSw)
      go_simp
      all_goals with_reducible rfl
    try simp only [Act.put, List.setIfInBounds_toArray, List.set_cons_zero, List.set_cons_succ, List.getElem_toArray, List.getElem_cons_zero, List.getElem_cons_succ]
    refine wpAnyH_take (i := 3) (v := ?_) rfl (by kernel_rfl) (by kernel_rfl) (by kernel_rfl) (fun _ _ _ h => h) (Or.inl ⟨by rfl, ?_⟩) (by assumption) ?_
    rotate_left
    · intro w hSw
      (try dsimp only at hSw)
      go_simp
      all_goals with_reducible rfl
    try simp only [Act.put, List.setIfInBounds_toArray, List.set_cons_zero, List.set_cons_succ, List.getElem_toArray, List.getElem_cons_zero, List.getElem_cons_succ]
    refine wpAnyH_ready (rs := [4]) (by kernel_rfl) (by simp) ?_
    refine AllReadyH.cons rfl (fun K hK => ?_) AllReadyH.nil
    go_simp
    (go_at_call 19; refine (put_impl E 3 2 20 e _ (by have := HV.out.1.2.2; have := HV.out.2; simp only [D.Vp] at *; omega) (by omega) (by omega) (fun i hi => ⟨⟨_, (G3.by_ (3 + i) (by omega)).1⟩, (G3.by_ (3 + i) (by omega)).2⟩)).mono ?_; rintro r V4 ⟨⟨u3, rfl⟩, hW3⟩; have F4 := G3.wr hW3; clear hW3 G3)
    refine hK.out _ _ (F4.p.c4) (fun hHeld => ?_)
    clear hK K
    try simp only [Act.put, List.setIfInBounds_toArray, List.set_cons_zero, List.set_cons_succ, List.getElem_toArray, List.getElem_cons_zero, List.getElem_cons_succ]
    refine wpAnyH_done (by kernel_rfl) ?_ _
    clear hHeld
    go_wp2_with fail
    refine wp_region_held_drew (S := (fun w' => w'.cell? ⟨P, 5, none⟩ = some (.int .i64 f))) (by kernel_rfl) (F4.p.c5) (fun hHeld => ?_)
    have G4 := F4.drew
    clear F4
    generalize V4.drew = U4 at *
    refine wpAnyH_take (i := 0) (v := ?_) rfl (by kernel_rfl) (by kernel_rfl) (by kernel_rfl) (fun _ _ _ h => h) (Or.inl ⟨by rfl, ?_⟩) (by assumption) ?_
    rotate_left
    · intro w hSw
      (try dsimp only at hSw)
      go_simp
      all_goals with_reducible rfl
    try simp only [Act.put, List.setIfInBounds_toArray, List.set_cons_zero, List.set_cons_succ, List.getElem_toArray, List.getElem_cons_zero]
    refine wpAnyH_take (i := 1) (v := ?_) rfl (by kernel_rfl) (by kernel_rfl) (by kernel_rfl) (fun _ _ _ h => h) (Or.inl ⟨by rfl, ?_⟩) (by assumption) ?_
    rotate_left
    · intro w hSw
      (try dsimp only at hSw)
      go_simp
      all_goals with_reducible rfl
    try simp only [Act.put, List.setIfInBounds_toArray, List.set_cons_zero, List.set_cons_succ, List.getElem_toArray, List.getElem_cons_zero, List.getElem_cons_succ]
    refine wpAnyH_take (i := 2) (v := ?_) rfl (by kernel_rfl) (by kernel_rfl) (by kernel_rfl) (fun _ _ _ h => h) (Or.inl ⟨by rfl, ?_⟩) (by assumption) ?_
    rotate_left
    · intro w hSw
      (try dsimp only at hSw)
      go_simp
      all_goals with_reducible rfl
    try simp only [Act.put, List.setIfInBounds_toArray, List.set_cons_zero, List.set_cons_succ, List.getElem_toArray, List.getElem_cons_zero, List.getElem_cons_succ]
    refine wpAnyH_take (i := 3) (v := ?_) rfl (by kernel_rfl) (by kernel_rfl) (by kernel_rfl) (fun _ _ _ h => h) (Or.inl ⟨by rfl, ?_⟩) (by assumption) ?_
    rotate_left
    · intro w hSw
      (try dsimp only at hSw)
      go_simp
      all_goals with_reducible rfl
    try simp only [Act.put, List.setIfInBounds_toArray, List.set_cons_zero, List.set_cons_succ, List.getElem_toArray, List.getElem_cons_zero, List.getElem_cons_succ]
    refine wpAnyH_ready (rs := [4]) (by kernel_rfl) (by simp) ?_
    refine AllReadyH.cons rfl (fun K hK => ?_) AllReadyH.nil
    go_simp
    (go_at_call 19; refine (put_impl E 5 6 18 f _ (by have := HV.out.1.2.2; have := HV.out.2; simp only [D.Vp] at *; omega) (by omega) (by omega) (fun i hi => ⟨⟨_, (G4.by_ (5 + i) (by omega)).1⟩, (G4.by_ (5 + i) (by omega)).2⟩)).mono ?_; rintro r V5 ⟨⟨u4, rfl⟩, hW4⟩; have F5 := G4.wr hW4; clear hW4 G4)
    refine hK.out _ _ (F5.p.c5) (fun hHeld => ?_)
    clear hK K
    try simp only [Act.put, List.setIfInBounds_toArray, List.set_cons_zero, List.set_cons_succ, List.getElem_toArray, List.getElem_cons_zero, List.getElem_cons_succ]
    refine wpAnyH_done (by kernel_rfl) ?_ _
    clear hHeld
    go_wp2_with fail
    refine wp_region_held_drew (S := (fun w' => w'.cell? ⟨P, 6, none⟩ = some (.int .i64 g))) (by kernel_rfl) (F5.p.c6) (fun hHeld => ?_)
    have G5 := F5.drew
    clear F5
    generalize V5.drew = U5 at *
    refine wpAnyH_take (i := 0) (v := ?_) rfl (by kernel_rfl) (by kernel_rfl) (by kernel_rfl) (fun _ _ _ h => h) (Or.inl ⟨by rfl, ?_⟩) (by assumption) ?_
    rotate_left
    · intro w hSw
      (try dsimp only at hSw)
      go_simp
      all_goals with_reducible rfl
    try simp only [Act.put, List.setIfInBounds_toArray, List.set_cons_zero, List.set_cons_succ, List.getElem_toArray, List.getElem_cons_zero]
    refine wpAnyH_take (i := 1) (v := ?_) rfl (by kernel_rfl) (by kernel_rfl) (by kernel_rfl) (fun _ _ _ h => h) (Or.inl ⟨by rfl, ?_⟩) (by assumption) ?_
    rotate_left
    · intro w hSw
      (try dsimp only at hSw)
      go_simp
      all_goals with_reducible rfl
    try simp only [Act.put, List.setIfInBounds_toArray, List.set_cons_zero, List.set_cons_succ, List.getElem_toArray, List.getElem_cons_zero, List.getElem_cons_succ]
    refine wpAnyH_take (i := 2) (v := ?_) rfl (by kernel_rfl) (by kernel_rfl) (by kernel_rfl) (fun _ _ _ h => h) (Or.inl ⟨by rfl, ?_⟩) (by assumption) ?_
    rotate_left
    · intro w hSw
      (try dsimp only at hSw)
      go_simp
      all_goals with_reducible rfl
    try simp only [Act.put, List.setIfInBounds_toArray, List.set_cons_zero, List.set_cons_succ, List.getElem_toArray, List.getElem_cons_zero, List.getElem_cons_succ]
    refine wpAnyH_take (i := 3) (v := ?_) rfl (by kernel_rfl) (by kernel_rfl) (by kernel_rfl) (fun _ _ _ h => h) (Or.inl ⟨by rfl, ?_⟩) (by assumption) ?_
    rotate_left
    · intro w hSw
      (try dsimp only at hSw)
      go_simp
      all_goals with_reducible rfl
    try simp only [Act.put, List.setIfInBounds_toArray, List.set_cons_zero, List.set_cons_succ, List.getElem_toArray, List.getElem_cons_zero, List.getElem_cons_succ]
    refine wpAnyH_ready (rs := [4]) (by kernel_rfl) (by simp) ?_
    refine AllReadyH.cons rfl (fun K hK => ?_) AllReadyH.nil
    go_simp
    (go_at_call 19; refine (put_impl E 11 6 12 g _ (by have := HV.out.1.2.2; have := HV.out.2; simp only [D.Vp] at *; omega) (by omega) (by omega) (fun i hi => ⟨⟨_, (G5.by_ (11 + i) (by omega)).1⟩, (G5.by_ (11 + i) (by omega)).2⟩)).mono ?_; rintro r V6 ⟨⟨u5, rfl⟩, hW5⟩; have F6 := G5.wr hW5; clear hW5 G5)
    refine hK.out _ _ (F6.p.c6) (fun hHeld => ?_)
    clear hK K
    try simp only [Act.put, List.setIfInBounds_toArray, List.set_cons_zero, List.set_cons_succ, List.getElem_toArray, List.getElem_cons_zero, List.getElem_cons_succ]
    refine wpAnyH_done (by kernel_rfl) ?_ _
    clear hHeld
    go_wp2_with fail
    refine wp_region_held_drew (S := (fun w' => w'.cell? ⟨P, 7, none⟩ = some (.int .i64 h))) (by kernel_rfl) (F6.p.c7) (fun hHeld => ?_)
    have G6 := F6.drew
    clear F6
    generalize V6.drew = U6 at *
    refine wpAnyH_take (i := 0) (v := ?_) rfl (by kernel_rfl) (by kernel_rfl) (by kernel_rfl) (fun _ _ _ h => h) (Or.inl ⟨by rfl, ?_⟩) (by assumption) ?_
    rotate_left
    · intro w hSw
      (try dsimp only at hSw)
      go_simp
      all_goals with_reducible rfl
    try simp only [Act.put, List.setIfInBounds_toArray, List.set_cons_zero, List.set_cons_succ, List.getElem_toArray, List.getElem_cons_zero]
    refine wpAnyH_take (i := 1) (v := ?_) rfl (by kernel_rfl) (by kernel_rfl) (by kernel_rfl) (fun _ _ _ h => h) (Or.inl ⟨by rfl, ?_⟩) (by assumption) ?_
    rotate_left
    · intro w hSw
      (try dsimp only at hSw)
      go_simp
      all_goals with_reducible rfl
    try simp only [Act.put, List.setIfInBounds_toArray, List.set_cons_zero, List.set_cons_succ, List.getElem_toArray, List.getElem_cons_zero, List.getElem_cons_succ]
    refine wpAnyH_take (i := 2) (v := ?_) rfl (by kernel_rfl) (by kernel_rfl) (by kernel_rfl) (fun _ _ _ h => h) (Or.inl ⟨by rfl, ?_⟩) (by assumption) ?_
    rotate_left
    · intro w hSw
      (try dsimp only at hSw)
      go_simp
      all_goals with_reducible rfl
    try simp only [Act.put, List.setIfInBounds_toArray, List.set_cons_zero, List.set_cons_succ, List.getElem_toArray, List.getElem_cons_zero, List.getElem_cons_succ]
    refine wpAnyH_take (i := 3) (v := ?_) rfl (by kernel_rfl) (by kernel_rfl) (by kernel_rfl) (fun _ _ _ h => h) (Or.inl ⟨by rfl, ?_⟩) (by assumption) ?_
    rotate_left
    · intro w hSw
      (try dsimp only at hSw)
      go_simp
      all_goals with_reducible rfl
    try simp only [Act.put, List.setIfInBounds_toArray, List.set_cons_zero, List.set_cons_succ, List.getElem_toArray, List.getElem_cons_zero, List.getElem_cons_succ]
    refine wpAnyH_ready (rs := [4]) (by kernel_rfl) (by simp) ?_
    refine AllReadyH.cons rfl (fun K hK => ?_) AllReadyH.nil
    go_simp
    (go_at_call 19; refine (put_impl E 17 6 6 h _ (by have := HV.out.1.2.2; have := HV.out.2; simp only [D.Vp] at *; omega) (by omega) (by omega) (fun i hi => ⟨⟨_, (G6.by_ (17 + i) (by omega)).1⟩, (G6.by_ (17 + i) (by omega)).2⟩)).mono ?_; rintro r V7 ⟨⟨u6, rfl⟩, hW6⟩; have F7 := G6.wr hW6; clear hW6 G6)
    refine hK.out _ _ (F7.p.c7) (fun hHeld => ?_)
    clear hK K
    try simp only [Act.put, List.setIfInBounds_toArray, List.set_cons_zero, List.set_cons_succ, List.getElem_toArray, List.getElem_cons_zero, List.getElem_cons_succ]
    refine wpAnyH_done (by kernel_rfl) ?_ _
    clear hHeld
    have hfin := F7.bel
    have hby := F7.by_
    have hlo := F7.lo
    clear F7
    go_wp2
    go_ret
    refine ⟨hfin, .inr ⟨by trivial, E, hlo, rfl, fun i hi => ?_, fun i hi => (hby i hi).2⟩⟩
    rw [(hby i hi).1]
    have hz := D.zz_fb (a := a) (b := b) (c := c) (d := d) (e := e) (f := f) (g := g) (h := h) (by have := HV.out.1.2.2.1; omega) (by have := HV.out.1.2.2.2.1; omega) i hi
    rw [← hz]
    rfl
end Go.Proofs.Ytegkmdinnkbkiaa
