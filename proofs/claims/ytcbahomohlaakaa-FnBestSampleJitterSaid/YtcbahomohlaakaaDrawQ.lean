/-
  The generators of samples: some list of samples of moderate numbers, and nothing that was there has changed. Condition: the code has at most 1048576 bytes.
-/
import Derived.Test.YtcbahomohlaakaaRow
import Derived.Test.YtcbahomohlaakaaSample
import Derived.Deep.RegionHeld3
import Derived.Deep.RegionWith
namespace Go.Proofs.Ytcbahomohlaakaa
open Go.RowKit
set_option linter.unusedVariables false
theorem sample_info : (Try.prog.info? 26).map (fun i => (i.zero, i.size, i.bytes)) = some (some (.agg #[.int .i64 0, .int .i64 0, .int .i64 0]), 3, 24) := by kernel_rfl
def v3 (l : List Q.Sm) : List Value := l.flatMap (fun p => [.int .i64 p.1, .int .i64 p.2.1, .int .i64 p.2.2])
theorem v3_cons (p : Q.Sm) (l : List Q.Sm) : v3 (p :: l) = .int .i64 p.1 :: .int .i64 p.2.1 :: .int .i64 p.2.2 :: v3 l := rfl
theorem v3_snoc (l : List Q.Sm) (x y z : Int) : v3 l ++ [.int .i64 x, .int .i64 y, .int .i64 z] = v3 (l ++ [(x, y, z)]) := by simp [v3]
theorem v3_get : ∀ (l : List Q.Sm) (i : Nat), i < l.length → (v3 l)[i * 3]? = some (.int .i64 (Q.of l i)) ∧ (v3 l)[i * 3 + 1]? = some (.int .i64 (Q.de l i)) ∧ (v3 l)[i * 3 + 2]? = some (.int .i64 (Q.tm l i))
  | [], i, h => absurd h (by simp)
  | p :: l, 0, h => ⟨rfl, rfl, rfl⟩
  | p :: l, i + 1, h => by
    have := v3_get l i (by simpa using h)
    rw [v3_cons, show (i + 1) * 3 = i * 3 + 1 + 1 + 1 from by omega]
    exact this
theorem v3_set : ∀ (l : List Q.Sm) (j : Nat) (x y z : Int), (((v3 l).set (j * 3) (.int .i64 x)).set (j * 3 + 1) (.int .i64 y)).set (j * 3 + 2) (.int .i64 z) = v3 (l.set j (x, y, z))
  | [], j, x, y, z => by simp [v3]
  | p :: l, 0, x, y, z => rfl
  | p :: l, j + 1, x, y, z => by
    have := v3_set l j x y z
    rw [v3_cons, show (j + 1) * 3 = j * 3 + 1 + 1 + 1 from by omega]
    show _ :: _ :: _ :: (((v3 l).set (j * 3) (.int .i64 x)).set (j * 3 + 1) (.int .i64 y)).set (j * 3 + 2) (.int .i64 z) = _
    rw [this]
    rfl
def Small3 (l : List Q.Sm) : Prop := ∀ i, i < l.length → (-2000000 ≤ Q.of l i ∧ Q.of l i ≤ 2000000) ∧ (-2000000 ≤ Q.de l i ∧ Q.de l i ≤ 2000000) ∧ (-4000000000 ≤ Q.tm l i ∧ Q.tm l i ≤ 4000000000)
theorem Small3.nil : Small3 [] := fun i hi => absurd hi (by simp)
theorem q_snoc_lt (l : List Q.Sm) (p : Q.Sm) (i : Nat) (h : i < l.length) : Q.of (l ++ [p]) i = Q.of l i ∧ Q.de (l ++ [p]) i = Q.de l i ∧ Q.tm (l ++ [p]) i = Q.tm l i := by
  unfold Q.of Q.de Q.tm
  rw [List.getD_eq_getElem?_getD, List.getD_eq_getElem?_getD, List.getElem?_append_left h]; exact ⟨rfl, rfl, rfl⟩
theorem q_snoc_eq (l : List Q.Sm) (x y z : Int) : Q.of (l ++ [(x, y, z)]) l.length = x ∧ Q.de (l ++ [(x, y, z)]) l.length = y ∧ Q.tm (l ++ [(x, y, z)]) l.length = z := by
  unfold Q.of Q.de Q.tm
  rw [List.getD_eq_getElem?_getD, List.getElem?_append_right (Nat.le_refl _)]; simp
theorem Small3.snoc {l : List Q.Sm} {x y z : Int} (h : Small3 l) (hx : -2000000 ≤ x ∧ x ≤ 2000000) (hy : -2000000 ≤ y ∧ y ≤ 2000000) (hz : -4000000000 ≤ z ∧ z ≤ 4000000000) : Small3 (l ++ [(x, y, z)]) := fun i hi => by
  simp at hi
  rcases Nat.lt_or_ge i l.length with a | a
  · rw [(q_snoc_lt l _ i a).1, (q_snoc_lt l _ i a).2.1, (q_snoc_lt l _ i a).2.2]; exact h i a
  · obtain rfl : i = l.length := by omega
    rw [(q_snoc_eq l x y z).1, (q_snoc_eq l x y z).2.1, (q_snoc_eq l x y z).2.2]; exact ⟨hx, hy, hz⟩
theorem Rq.sms {B r m base : Nat} {w0 w : World} {v : Value} {l : List Q.Sm} (h : Rq 26 3 B w0 w r m base v l.length (v3 l)) (hk : l.length ≤ 1000) : ∃ a c, v = .slice a l.length c ∧ Sms w.heap.size w a l.length l ∧ l.length ≤ c ∧ c ≤ maxLen ∧ (0 < l.length → ∀ x, a = some x → r < x.block) := by
  rcases h.own.2 with ⟨hv, hn⟩ | ⟨g, cap, cur, hv, hb, hgg, hle, hcap, hcs, htk⟩
  · exact ⟨none, 0, by rw [hv, hn], by rw [hn]; exact ⟨hn, by omega, .inl rfl⟩, by omega, by unfold maxLen; omega, fun h => by omega⟩
  · refine ⟨some ⟨g, 0, none⟩, cap, hv, ⟨rfl, by omega, .inr ⟨g, 0, rfl, (Array.getElem?_eq_some_iff.1 hgg).1, fun i hi => ?_⟩⟩, hle, hcap, fun _ x hx => by injection hx with hx; subst hx; have := h.lo; show r < g; omega⟩
    have hc := h.own.cells (g := g) (by rw [hv]; rfl)
    have h0 := hc (i * 3) _ (v3_get l i hi).1
    have h1 := hc (i * 3 + 1) _ (v3_get l i hi).2.1
    have h2 := hc (i * 3 + 2) _ (v3_get l i hi).2.2
    have ad : ∀ j, (Addr.add ⟨g, 0, none⟩ j) = ⟨g, 0 + j, none⟩ := fun j => by unfold Addr.add; split <;> simp_all
    rw [ad] at h0 h1 h2
    exact ⟨h0, h1, h2⟩
theorem someOffset_any (B r m : Nat) (w : World) (h : Rdr B w r m) (hm : m ≤ 1000) : Calls Try.prog 53 #[.pointer (some ⟨r, 0, none⟩)] w (Num B w r (m + 2) (-1000000) 1000000) := by
  go_enter Try.func53, Try.ntmps53
  go_wp2_with fail
  refine (pick_any B r _ _ _ h (by omega)).mono ?_
  rintro e w1 ⟨k1, rfl, a1, b1, st1⟩
  have c1 : k1 ≤ 250 := by omega
  clear b1
  go_wp2_with fail
  refine (one_any B r _ _ _ _ (-1000000) 1000000 _ (st1.rdr.alloc _ _) (by omega) (by omega) (by omega) (by have := st1.rdr.top; omega) ?_).mono ?_
  · exact made_cells _ _ _ _ _ _ rfl (by simp [Ints] <;> omega)
  rintro e w2 ⟨z2, rfl, x2, y2, bl2, rd2, fr2⟩
  have T := Lib.hid (And.intro ((st1.bel.alloc st1.rdr.le _).trans bl2) (And.intro rd2 ((st1.far.alloc _).trans fr2)))
  clear bl2 rd2 fr2 st1
  go_wp2
  go_ret
  exact ⟨z2, rfl, x2, y2, T.out⟩
theorem anyOffset_any (B r m : Nat) (w : World) (h : Rdr B w r m) (hm : m ≤ 900) : Calls Try.prog 44 #[.pointer (some ⟨r, 0, none⟩)] w (Num B w r (m + 3) (-1000001) 1000001) := by
  go_enter Try.func44, Try.ntmps44
  go_wp2_with fail
  refine (pick_any B r _ _ _ h (by omega)).mono ?_
  rintro e w1 ⟨k1, rfl, a1, b1, st1⟩
  clear b1
  by_cases h0 : k1 = 0
  · subst h0
    go_wp2_with fail
    refine (one_any B r _ _ _ _ (-1000001) 1000001 _ (st1.rdr.alloc _ _) (by omega) (by omega) (by omega) (by have := st1.rdr.top; omega) ?_).mono ?_
    · exact made_cells _ _ _ _ _ _ rfl (by simp [Ints])
    rintro e w2 ⟨z2, rfl, x2, y2, bl2, rd2, fr2⟩
    have T := Lib.hid (And.intro ((st1.bel.alloc st1.rdr.le _).trans bl2) (And.intro (rd2.mono (show _ ≤ m + 3 by omega)) ((st1.far.alloc _).trans fr2)))
    clear bl2 rd2 fr2 st1
    go_wp2
    go_ret
    exact ⟨z2, rfl, x2, y2, T.out⟩
  · have h0' : (k1 == 0) = false := by simpa using h0
    clear h0
    go_wp2_with fail
    refine (someOffset_any B r _ _ st1.rdr (by omega)).mono ?_
    rintro e w2 ⟨z2, rfl, x2, y2, bl2, rd2, fr2⟩
    have T := Lib.hid (And.intro (st1.bel.trans bl2) (And.intro (rd2.mono (show _ ≤ m + 3 by omega)) (st1.far.trans fr2)))
    clear bl2 rd2 fr2 st1
    go_wp2
    go_ret
    exact ⟨z2, rfl, by omega, by omega, T.out⟩
/-- Some list of samples that the call owns. -/
def SomeS (B : Nat) (w : World) (r m : Nat) (e : Ending) (w' : World) : Prop := ∃ v l, e = .returned v ∧ 1 ≤ l.length ∧ l.length ≤ 8 ∧ Small3 l ∧ Rq 26 3 B w w' r m w.heap.size v l.length (v3 l)
set_option maxHeartbeats 2000000 in
theorem someSamples_any (B r m : Nat) (at_ : Int) (w : World) (h : Rdr B w r m) (hm : m ≤ 900) (ha : -10 ≤ at_ ∧ at_ ≤ 3786500000) : Calls Try.prog 50 #[.pointer (some ⟨r, 0, none⟩), .int .i64 at_] w (SomeS B w r (m + 40)) := by
  obtain ⟨i0, hi0, hz0, hz1, hz2⟩ := info_parts sample_info
  have hI := Lib.hid hi0
  have hZ0 := Lib.hid hz0
  have hZ1 := Lib.hid hz1
  have hZ2 := Lib.hid hz2
  clear hi0 hz0 hz1 hz2
  go_enter Try.func50, Try.ntmps50
  have R0 : Rq 26 3 B w (w.alloc (.cells #[] 26)) r m w.heap.size (.slice (some ⟨w.heap.size, 0, none⟩) 0 0) 0 [] :=
    ⟨h.alloc _ _, (Far.refl _ _).alloc _, (Below.refl _ _).alloc h.le _, World.ownsRow_made w #[] 0 (Nat.le_refl _) (by unfold maxLen; omega) rfl, h.top, by simp⟩
  have hr0 := h.top
  have HR0 := Lib.hid R0
  clear R0
  go_wp2_with fail
  refine (one_any B r _ _ _ _ 1 8 _ (HR0.out.rdr.alloc _ _) (by omega) (by omega) (by omega) (by have := HR0.out.rdr.top; omega) ?_).mono ?_
  · have := made_cells (w.alloc (.cells #[] 26)) #[.int .i64 3, .int .i64 4, .int .i64 5, .int .i64 8, .int .i64 2, .int .i64 1] 3 6 1 8 rfl (by simp [Ints])
    simpa using this
  rintro e w2 ⟨z2, rfl, x2, y2, bl2, rd2, fr2⟩
  have R2 := (HR0.out.alloc _ _).next rd2 bl2 fr2
  clear bl2 rd2 fr2 HR0
  go_wp2_with fail
  go_loopw [1, 5, 6] (fun t o n wr => ∃ (v : Value) (l : List Q.Sm) (x z : Int), t = .int .i64 x ∧ o = v ∧ n = .int .i64 z ∧ 0 ≤ z ∧ 1 ≤ z + l.length ∧ z + l.length ≤ 8 ∧ (-10 ≤ x ∧ x ≤ 3786500000 + 200 * (l.length : Int)) ∧ Small3 l ∧ Rq 26 3 B w wr r (m + 2 + 4 * l.length) w.heap.size v l.length (v3 l)) (fun _ _ n _ => (intOf n).toNat)
  case atStart => exact ⟨_, [], at_, z2, rfl, rfl, rfl, by omega, by simpa using x2, by simpa using y2, by simpa using ha, Small3.nil, R2.mono (by simp)⟩
  case round =>
    obtain ⟨v, l, x, z, rfl, rfl, rfl, z0, zl, z1, hx, hsm, R⟩ := hrel
    clear R2
    by_cases hz : 0 < z
    · have hl : l.length ≤ 7 := by omega
      go_wp2_with fail
      refine (someOffset_any B r _ _ R.rdr (by omega)).mono ?_
      rintro e w3 ⟨z3, rfl, x3, y3, bl3, rd3, fr3⟩
      have R3 := R.next rd3 bl3 fr3
      clear R bl3 fr3
      go_wp2_with fail
      refine (one_any B r _ _ _ _ 0 1000000 _ (rd3.alloc _ _) (by omega) (by omega) (by omega) (by have := rd3.top; omega) ?_).mono ?_
      · exact made_cells _ _ _ _ _ _ rfl (by simp [Ints])
      rintro e w5 ⟨z5, rfl, x5, y5, bl5, rd5, fr5⟩
      have R5 := (R3.alloc _ _).next rd5 bl5 fr5
      clear R3 bl5 rd5 fr5 rd3
      go_wp2_with (at_builtin; refine wpList_append_own _ rfl _ _ 23 rfl w.heap.size 26 i0 (.agg #[.int .i64 0, .int .i64 0, .int .i64 0]) 3 24 Try.underlying23 hI.out hZ0.out hZ1.out hZ2.out rfl (by decide) _ _ _ rfl (R5.own.alloc _) ⟨w5.heap.size, 0, none⟩ 1 1 [.int .i64 z3, .int .i64 z5, .int .i64 x] rfl rfl (World.news_of_block (heap_alloc_new w5 _)) (by intro u hu; simp at hu; rcases hu with rfl | rfl | rfl <;> rfl) (by unfold maxLen; omega) (by omega) (by have := R5.hi; simp; omega) ?_)
      intro v6 w6 own6 hg6 _
      rw [v3_snoc] at own6
      have R6 := (R5.alloc #[.int .i64 z3, .int .i64 z5, .int .i64 x] 26).grown own6 hg6 (by have := R5.size; omega)
      have hll := Lib.hid (show (l ++ [(z3, z5, x)]).length = l.length + 1 by simp)
      have HS := Lib.hid (hsm.snoc (x := z3) (y := z5) (z := x) (by omega) (by omega) (by omega))
      rw [← hll.out] at R6
      clear own6 hg6 R5
      go_wp2_with fail
      refine (pick_any B r _ _ _ R6.rdr (by omega)).mono ?_
      rintro e w7 ⟨k7, rfl, a7, b7, st7⟩
      have R7 := Lib.hid ((R6.step st7).mono (show _ ≤ m + 2 + 4 * (l ++ [(z3, z5, x)]).length by rw [hll.out]; omega))
      have c7 : k7 ≤ 100 := by omega
      clear R6 st7 b7
      go_wp2
      go_roundw
      case rel => exact ⟨_, l ++ [(z3, z5, x)], _, z - 1, rfl, rfl, rfl, by omega, by have := hll.out; omega, by have := hll.out; omega, by have := hll.out; omega, HS.out, R7.out⟩
      case measure => simp [intOf]; omega
    · have R9 := Lib.hid (R.mono (show m + 2 + 4 * l.length ≤ m + 40 by omega))
      clear R
      go_wp2
      go_ret
      exact ⟨_, l, rfl, by omega, by omega, hsm, R9.out⟩
theorem q_set (l : List Q.Sm) (x y z : Int) (j i : Nat) (h : i < l.length) : Q.of (l.set j (x, y, z)) i = (if j = i then x else Q.of l i) ∧ Q.de (l.set j (x, y, z)) i = (if j = i then y else Q.de l i) ∧ Q.tm (l.set j (x, y, z)) i = (if j = i then z else Q.tm l i) := by
  unfold Q.of Q.de Q.tm
  rw [List.getD_eq_getElem?_getD, List.getElem?_set]
  by_cases a : j = i
  · subst a; simp [h]
  · rw [if_neg a, if_neg a, if_neg a, if_neg a, ← List.getD_eq_getElem?_getD]; exact ⟨rfl, rfl, rfl⟩
theorem Small3.set {l : List Q.Sm} {x y z : Int} (h : Small3 l) (hx : -2000000 ≤ x ∧ x ≤ 2000000) (hy : -2000000 ≤ y ∧ y ≤ 2000000) (hz : -4000000000 ≤ z ∧ z ≤ 4000000000) (j : Nat) : Small3 (l.set j (x, y, z)) := fun i hi => by
  simp at hi
  rw [(q_set l x y z j i hi).1, (q_set l x y z j i hi).2.1, (q_set l x y z j i hi).2.2]
  have := h i hi
  split
  · exact ⟨hx, hy, hz⟩
  · exact this
def SomeL (B : Nat) (w : World) (r m : Nat) (e : Ending) (w' : World) : Prop := ∃ a c l, e = .returned (.slice a l.length c) ∧ (1 ≤ l.length ∧ l.length ≤ 9) ∧ l.length ≤ c ∧ c ≤ maxLen ∧ Sms w'.heap.size w' a l.length l ∧ Small3 l ∧ Rdr B w' r m ∧ Below B w w' ∧ Far w r w' ∧ (∀ x, a = some x → r < x.block)
set_option maxHeartbeats 4000000 in
theorem anySamples_any (B r m : Nat) (w : World) (h : Rdr B w r m) (hm : m ≤ 800) : Calls Try.prog 34 #[.pointer (some ⟨r, 0, none⟩)] w (SomeL B w r (m + 60)) := by
  obtain ⟨i0, hi0, hz0, hz1, hz2⟩ := info_parts sample_info
  have hI := Lib.hid hi0
  have hZ0 := Lib.hid hz0
  have hZ1 := Lib.hid hz1
  have hZ2 := Lib.hid hz2
  clear hi0 hz0 hz1 hz2
  go_enter Try.func34, Try.ntmps34
  go_wp2_with fail
  refine (pick_any B r _ _ _ h (by omega)).mono ?_
  rintro e w1 ⟨k1, rfl, a1, b1, st1⟩
  have c1 : k1 ≤ 100 := by omega
  have hfar := st1.far
  have hbel := st1.bel
  have hw1 : w.heap.size ≤ w1.heap.size := st1.far.size
  clear b1
  go_wp2_with fail
  refine (someSamples_any B r _ (1000 * k1) _ st1.rdr (by omega) (by omega)).mono ?_
  rintro e w2 ⟨v, l, rfl, hl1, hl8, hsm, R0⟩
  have R9 : Rq 26 3 B w w2 r (m + 1 + 40) w1.heap.size v l.length (v3 l) := ⟨R0.rdr, hfar.trans R0.far, hbel.trans R0.bel, R0.own, R0.lo, R0.hi⟩
  clear R0 st1 hfar hbel
  obtain ⟨g, cap, hv, hg0, hg1⟩ := R9.own.form (by omega)
  subst hv
  generalize w1.heap.size = base at R9 hw1 hg0
  have hp : (0 : Int) < (l.length : Int) := by omega
  go_wp2_with fail
  refine (pick_any B r _ _ _ R9.rdr (by omega)).mono ?_
  rintro e w3 ⟨k3, rfl, a3, b3, st3⟩
  have R3 := R9.step st3
  clear b3 R9
  by_cases h0 : k3 = 0
  · subst h0
    go_wp2_with fail
    refine (pick_any B r _ _ _ st3.rdr (by omega)).mono ?_
    rintro e w4 ⟨k4, rfl, a4, b4, st4⟩
    have R4 := R3.step st4
    obtain ⟨j, rfl⟩ := Int.eq_ofNat_of_zero_le a4
    have hj : j < l.length := by omega
    clear b4 R3 st3
    go_wp2_with fail
    refine (one_any B r _ _ _ _ (-1) 1000001 _ (st4.rdr.alloc _ _) (by omega) (by omega) (by omega) (by have := st4.rdr.top; omega) ?_).mono ?_
    · exact made_cells _ _ _ _ _ _ rfl (by simp [Ints])
    rintro e w5 ⟨z5, rfl, x5, y5, bl5, rd5, fr5⟩
    have R5 := (R4.alloc _ _).next rd5 bl5 fr5
    clear R4 st4 bl5 fr5
    go_wp2_with fail
    refine (one_any B r _ _ _ _ (-1) 1000001 _ (rd5.alloc _ _) (by omega) (by omega) (by omega) (by have := rd5.top; omega) ?_).mono ?_
    · exact made_cells _ _ _ _ _ _ rfl (by simp [Ints])
    rintro e w6 ⟨z6, rfl, x6, y6, bl6, rd6, fr6⟩
    have R6 := (R5.alloc _ _).next rd6 bl6 fr6
    clear R5 rd5 bl6 fr6
    go_wp2_with fail
    refine (one_any B r _ _ _ _ (-1) 1000001 _ (rd6.alloc _ _) (by omega) (by omega) (by omega) (by have := rd6.top; omega) ?_).mono ?_
    · exact made_cells _ _ _ _ _ _ rfl (by simp [Ints])
    rintro e w7 ⟨z7, rfl, x7, y7, bl7, rd7, fr7⟩
    have R7 := (R6.alloc _ _).next rd7 bl7 fr7
    clear R6 rd6 bl7 fr7
    have hg := v3_get l j hj
    have q0 := R7.own.cellAt (j * 3) (by omega)
    have q1 := R7.own.cellAt (j * 3 + 1) (by omega)
    have q2 := R7.own.cellAt (j * 3 + 2) (by omega)
    rw [hg.1] at q0
    rw [hg.2.1] at q1
    rw [hg.2.2] at q2
    have f0 := R7.own.frozenAt (j * 3)
    have f1 := R7.own.frozenAt (j * 3 + 1)
    have f2 := R7.own.frozenAt (j * 3 + 2)
    have s0 := R7.own.stored (j * 3) (.int .i64 z5)
    have R8 := R7.grown s0.1 s0.2 hw1
    have s1 := R8.own.stored (j * 3 + 1) (.int .i64 z6)
    have R10 := R8.grown s1.1 s1.2 hw1
    have s2 := R10.own.stored (j * 3 + 2) (.int .i64 z7)
    have R11 := R10.grown s2.1 s2.2 hw1
    rw [v3_set] at R11
    have hll : (l.set j (z5, z6, z7)).length = l.length := by simp
    rw [← hll] at R11
    obtain ⟨a, c, hv, hS, hc1', hc2, hc3⟩ := R11.sms (by omega)
    have HF := Lib.hid (And.intro (show 1 ≤ (l.set j (z5, z6, z7)).length ∧ (l.set j (z5, z6, z7)).length ≤ 9 by omega) (And.intro hc1' (And.intro hc2 (And.intro hS (And.intro (hsm.set (x := z5) (y := z6) (z := z7) (by omega) (by omega) (by omega) j) (And.intro (R11.mono (show _ ≤ m + 60 by omega)).rdr (And.intro R11.bel (And.intro R11.far (hc3 (by omega))))))))))
    have HV := Lib.hid hv
    clear R7 R8 R10 R11 s0 s1 s2 hS hc3 hsm hv hll hg
    go_wp2
    go_ret
    exact ⟨a, c, l.set j (z5, z6, z7), by rw [← HV.out]; simp, HF.out⟩
  · have h0' : (k3 == 0) = false := by simpa using h0
    clear h0
    by_cases h1 : k3 = 1
    · subst h1
      have hsm0 := hsm 0 (by omega)
      have q0 := R3.own.cellAt 0 (by omega)
      have q1 := R3.own.cellAt 1 (by omega)
      have q2 := R3.own.cellAt 2 (by omega)
      have hg := v3_get l 0 (by omega)
      rw [show (0 : Nat) = 0 * 3 from rfl, hg.1] at q0
      rw [show (1 : Nat) = 0 * 3 + 1 from rfl, hg.2.1] at q1
      rw [show (2 : Nat) = 0 * 3 + 2 from rfl, hg.2.2] at q2
      simp only [Nat.zero_mul, Nat.zero_add] at q0 q1 q2
      clear hg st3
      go_wp2_with (at_builtin; refine wpList_append_own _ rfl _ _ 23 rfl base 26 i0 (.agg #[.int .i64 0, .int .i64 0, .int .i64 0]) 3 24 Try.underlying23 hI.out hZ0.out hZ1.out hZ2.out rfl (by decide) _ _ _ rfl (R3.own.alloc _) ⟨w3.heap.size, 0, none⟩ 1 1 [.int .i64 (Q.of l 0), .int .i64 (Q.de l 0), .int .i64 (Q.tm l 0)] rfl rfl (World.news_of_block (heap_alloc_new w3 _)) (by intro u hu; simp at hu; rcases hu with rfl | rfl | rfl <;> rfl) (by unfold maxLen; omega) (by omega) (by have := R3.hi; simp; omega) ?_)
      intro v6 w6 own6 hg6 _
      rw [v3_snoc] at own6
      have R6 := (R3.alloc #[.int .i64 (Q.of l 0), .int .i64 (Q.de l 0), .int .i64 (Q.tm l 0)] 26).grown own6 hg6 hw1
      have hll : (l ++ [(Q.of l 0, Q.de l 0, Q.tm l 0)]).length = l.length + 1 := by simp
      have HS := hsm.snoc (x := Q.of l 0) (y := Q.de l 0) (z := Q.tm l 0) hsm0.1 hsm0.2.1 hsm0.2.2
      rw [← hll] at R6
      obtain ⟨a, c, hv, hS, hc1', hc2, hc3⟩ := R6.sms (by omega)
      have HF := Lib.hid (And.intro (show 1 ≤ (l ++ [(Q.of l 0, Q.de l 0, Q.tm l 0)]).length ∧ (l ++ [(Q.of l 0, Q.de l 0, Q.tm l 0)]).length ≤ 9 by omega) (And.intro hc1' (And.intro hc2 (And.intro hS (And.intro HS (And.intro (R6.mono (show _ ≤ m + 60 by omega)).rdr (And.intro R6.bel (And.intro R6.far (hc3 (by omega))))))))))
      subst hv
      clear own6 hg6 R3 R6 hS hc3 hsm HS
      go_wp2
      go_ret
      exact ⟨a, c, _, rfl, HF.out⟩
    · have h1' : (k3 == 1) = false := by simpa using h1
      clear h1
      obtain ⟨a, c, hv, hS, hc1', hc2, hc3⟩ := R3.sms (by omega)
      have HF := Lib.hid (And.intro (show 1 ≤ l.length ∧ l.length ≤ 9 by omega) (And.intro hc1' (And.intro hc2 (And.intro hS (And.intro hsm (And.intro (R3.mono (show _ ≤ m + 60 by omega)).rdr (And.intro R3.bel (And.intro R3.far (hc3 (by omega))))))))))
      have HV := Lib.hid hv
      clear R3 hS hc3 hsm hv st3
      go_wp2
      go_ret
      exact ⟨a, c, l, by rw [← HV.out]; rfl, HF.out⟩
/-- A list of samples out of a code. -/
def SmOnly (w : World) (e : Ending) (w' : World) : Prop := ∃ a c l, e = .returned (.slice a l.length c) ∧ (1 ≤ l.length ∧ l.length ≤ 9) ∧ l.length ≤ c ∧ c ≤ maxLen ∧ Sms w'.heap.size w' a l.length l ∧ Small3 l ∧ Below w.heap.size w w' ∧ (∀ x, a = some x → w.heap.size < x.block)
set_option maxHeartbeats 1000000 in
theorem DrawBestSample_any (w : World) (a : Option Addr) (len cap : Nat) (h : Code w a len) (hcap : len ≤ cap) : Calls Try.prog 12 #[.slice a len cap] w (SmOnly w) := by
  go_enter Try.func12, Try.ntmps12
  go_wp2_with fail
  refine (newReader_any w a len cap h hcap).mono ?_
  rintro e w1 ⟨rfl, bl1, rd1⟩
  go_wp2_with fail
  refine (anySamples_any _ _ _ _ rd1 (by omega)).mono ?_
  rintro e w2 ⟨a2, c2, l, rfl, hl, hc, hm, hS, sm, rd, bl, fr, hr⟩
  have T := Lib.hid (And.intro hl (And.intro hc (And.intro hm (And.intro hS (And.intro sm (And.intro (bl1.trans bl) hr))))))
  clear hS sm rd bl fr hr bl1
  go_wp2
  go_ret
  exact ⟨a2, c2, l, rfl, T.out⟩
set_option maxHeartbeats 1000000 in
theorem DrawJitterOf_any (w : World) (a : Option Addr) (len cap : Nat) (h : Code w a len) (hcap : len ≤ cap) : Calls Try.prog 16 #[.slice a len cap] w (SmOnly w) := by
  go_enter Try.func16, Try.ntmps16
  go_wp2_with fail
  refine (newReader_any w a len cap h hcap).mono ?_
  rintro e w1 ⟨rfl, bl1, rd1⟩
  go_wp2_with fail
  refine (anySamples_any _ _ _ _ rd1 (by omega)).mono ?_
  rintro e w2 ⟨a2, c2, l, rfl, hl, hc, hm, hS, sm, rd, bl, fr, hr⟩
  have T := Lib.hid (And.intro hl (And.intro hc (And.intro hm (And.intro hS (And.intro sm (And.intro (bl1.trans bl) hr))))))
  clear hS sm rd bl fr hr bl1
  go_wp2
  go_ret
  exact ⟨a2, c2, l, rfl, T.out⟩
end Go.Proofs.Ytcbahomohlaakaa
