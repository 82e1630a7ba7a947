/-
  The generator of runs of polls (chapter 13): some arguments, and nothing that was there has changed. Condition: the code has at most 1048576 bytes.
-/
import Derived.Test.YthbfjmlkcgcgaaaDoorDrawPl
namespace Go.Proofs.YthbfjmlkcgcgaaaDoor
open Go.RowKit
set_option linter.unusedVariables false
set_option maxRecDepth 100000
theorem Rw.here {B r m base : Nat} {w0 w : World} {v : Value} {l : List Int} (h : Rw B w0 w r m base v l) : Rw B w w r m base v l := { h with far := Far.refl _ _, bel := Below.refl _ _ }
theorem cells_far {w w' : World} {L r n : Nat} {lo hi : Int} (h : ∀ i, i < n → ∃ z : Int, lo ≤ z ∧ z ≤ hi ∧ w.cell? ⟨L, i, none⟩ = some (.int .i64 z)) (f : Far w r w') (hL : L < w.heap.size) (hr : L ≠ r) :
    ∀ i, i < n → ∃ z : Int, lo ≤ z ∧ z ≤ hi ∧ w'.cell? ⟨L, i, none⟩ = some (.int .i64 z) := fun i hi' => by
  obtain ⟨z, a, b, c⟩ := h i hi'
  exact ⟨z, a, b, (World.cell?_of_block (w := w) (a := ⟨L, i, none⟩) (f.block L hL hr)).trans c⟩
theorem Lst.past {w w' : World} {r n : Nat} {a : Option Addr} {l : List Int} (h : Lst w.heap.size w a n l) (hx : 0 < n → ∀ x, a = some x → r < x.block) (f : Far w r w') : Lst w'.heap.size w' a n l :=
  ⟨h.1, h.2.1, by
    rcases h.2.2 with q | ⟨b, off, e, hb, hc⟩
    · exact .inl q
    · by_cases h0 : n = 0
      · exact .inl h0
      · have hr : r < b := hx (by omega) _ e
        exact .inr ⟨b, off, e, Nat.lt_of_lt_of_le hb f.size, fun i hi => (World.cell?_of_block (w := w) (a := ⟨b, off + i, none⟩) (f.block b hb (by omega))).trans (hc i hi)⟩⟩
theorem Lst.off1 {w : World} {B E i r n : Nat} {a : Option Addr} {l : List Int} {v : Value} (h : Lst B w a n l) (hx : 0 < n → ∀ x, a = some x → r < x.block) (hE : E ≤ r) : Lst B (w.setCell ⟨E, i, none⟩ v) a n l :=
  ⟨h.1, h.2.1, by
    rcases h.2.2 with q | ⟨b, off, e, hb, hc⟩
    · exact .inl q
    · by_cases h0 : n = 0
      · exact .inl h0
      · have hr : r < b := hx (by omega) _ e
        exact .inr ⟨b, off, e, hb, fun i hi => (World.cell?_setCell_other _ _ _ _ (fun q => by injection q with q; omega)).trans (hc i hi)⟩⟩
def FromRp (w : World) (e : Ending) (w' : World) : Prop := ∃ (p c j : Int) (a : Option Addr) (n cp : Nat) (l : List Int), e = .returned (.tuple #[.agg #[.int .i64 p, .int .i64 c], .slice a n cp, .int .i64 j]) ∧ Lst w'.heap.size w' a n l ∧ n ≤ 32 ∧ n ≤ cp ∧ cp ≤ maxLen ∧ Small l ∧ (-1 ≤ j ∧ j ≤ 1250) ∧ Below w.heap.size w w'
set_option maxHeartbeats 8000000 in
theorem DrawRunPolls_any (w : World) (a : Option Addr) (len cap : Nat) (h : Code w a len) (hcap : len ≤ cap) : Calls Tryd.prog 16 #[.slice a len cap] w (FromRp w) := by
  obtain ⟨i0, hi0, hz0, hz1, hz2⟩ := info_parts int_info
  have hI := Lib.hid hi0
  have hZ0 := Lib.hid hz0
  have hZ1 := Lib.hid hz1
  have hZ2 := Lib.hid hz2
  clear hi0 hz0 hz1 hz2
  have Z := (Below.refl w.heap.size w).alloc (Nat.le_refl _) (.cells #[.int .i64 0, .int .i64 0] 24)
  have zE : BoxN (w.alloc (.cells #[.int .i64 0, .int .i64 0] 24)) (w.heap.size + 1) w.heap.size [0, 0] := BoxN.mk (by omega) (by simp) (fun i hi => by
    rcases (show i = 0 ∨ i = 1 by simp at hi; omega) with rfl | rfl <;> exact ⟨by simp, by simp⟩)
  have h1 := h.laterP Z
  go_enter Tryd.func16, Tryd.ntmps16
  go_wp2_with fail
  refine (newReader_any _ a len cap h1 hcap).mono ?_
  rintro e w1 ⟨rfl, bl1, rd1⟩
  rw [World.size_alloc] at bl1 rd1
  rw [World.size_alloc]
  have b1 := Z.trans (bl1.mono (Nat.le_succ _))
  have e1 : BoxN w1 (w.heap.size + 1) w.heap.size [0, 0] := BoxN.mk (by omega) (Nat.lt_of_lt_of_le (by simp) bl1.size) (fun i hi => ⟨(bl1.cell (p := ⟨w.heap.size, i, none⟩) (Nat.lt_succ_self _)).trans (zE.at_ i hi).1, (bl1.frozen (p := ⟨w.heap.size, i, none⟩) (Nat.lt_succ_self _)).trans (zE.at_ i hi).2⟩)
  have R1 := RK.mk0 rd1
  generalize hr : w.heap.size + 1 = r at *
  clear bl1 zE Z h1
  go_wp2_with fail
  refine (anyPoll_any _ _ _ _ rd1 (by omega)).mono ?_
  rintro e w2 ⟨p, c, rfl, R⟩
  have P0 : PG r w w1 (w2.alloc (.cells #[.int .i64 p, .int .i64 c] 24)) r (0 + 5) w.heap.size w2.heap.size [0, 0] [p, c] :=
    ⟨R.alloc _ _, b1, (e1.far R.far).far ((Far.refl _ _).alloc _), BoxN.new [p, c] _ R.rdr.top, Nat.le_refl _, R.far.size, by have := R.rdr.top; omega, by omega⟩
  have hEr : w.heap.size ≤ r := by omega
  clear R e1 R1 rd1 b1
  go_wp2_with fail
  have hWs : (w2.alloc (.cells #[.int .i64 p, .int .i64 c] 24)).heap.size = w2.heap.size + 1 := World.size_alloc _ _
  generalize w2.alloc (.cells #[.int .i64 p, .int .i64 c] 24) = W at P0 hWs ⊢
  generalize w2.heap.size = D at P0 hWs ⊢
  have R0 : Rw r W (W.alloc (.cells #[] 3)) r (0 + 5) W.heap.size (.slice (some ⟨W.heap.size, 0, none⟩) 0 0) [] :=
    ⟨P0.R.rdr.alloc _ _, (Far.refl _ _).alloc _, (Below.refl _ _).alloc P0.R.rdr.le _, World.ownsRow_made W #[] 0 (Nat.le_refl _) (by unfold maxLen; omega) rfl, P0.R.rdr.top, by simp, Small.nil⟩
  have hc7 := made_cells (W.alloc (.cells #[] 3)) #[.int .i64 5, .int .i64 8, .int .i64 12, .int .i64 3, .int .i64 0, .int .i64 30, .int .i64 31] 3 7 0 31 rfl (by simp [Ints])
  rw [World.size_alloc] at hc7
  have hrW := P0.R.rdr.top
  rw [hWs] at R0 hc7 hrW
  generalize hbase : D + 1 = base at R0 hc7 hrW hWs ⊢
  refine (one_any _ r _ _ _ _ 0 31 _ (R0.alloc _ _).rdr (by omega) (by omega) (by omega) (by omega) hc7).mono ?_
  clear hc7
  rintro e w3 ⟨z3, rfl, x3, y3, bl3, rd3, fr3⟩
  have R3 := (R0.alloc _ _).next rd3 bl3 fr3
  clear R0 bl3 rd3 fr3
  go_wp2_with fail
  go_loopw [7, 8] (fun o n wr => ∃ (l : List Int) (z : Int), n = .int .i64 z ∧ 0 ≤ z ∧ z + l.length ≤ 31 ∧ (l = [] → o = .slice (some ⟨base, 0, none⟩) 0 0) ∧ Rw r W wr r (0 + 5 + 1 + 2 * l.length) base o l) (fun _ n _ => (intOf n).toNat)
  case atStart => exact ⟨[], z3, rfl, x3, by simpa using y3, fun _ => rfl, R3.mono (by simp)⟩
  case round =>
    obtain ⟨l, z, rfl, z0, z1', hv, R⟩ := hrel
    generalize u7 = v at *
    clear R3
    by_cases hz : 0 < z
    · have hl : l.length ≤ 30 := by omega
      clear hv
      go_wp2_with fail
      refine (offT2_any _ r _ _ R.rdr (by omega)).mono ?_
      rintro e w4 ⟨x4, rfl, lo4, hi4, bl4, rd4, fr4⟩
      have R4 := R.next rd4 bl4 fr4
      clear bl4 rd4 fr4 R
      go_wp2_with (at_builtin; refine wpList_append_own _ rfl _ _ 32 rfl base 3 i0 (.int .i64 0) 1 8 Tryd.underlying32 hI.out hZ0.out hZ1.out hZ2.out rfl (by decide) _ _ _ rfl (R4.own.alloc _) ⟨w4.heap.size, 0, none⟩ 1 1 [.int .i64 x4] rfl rfl (cell_one_new _ _ _) (by intro u hu; simp at hu; subst hu; rfl) (by unfold maxLen; omega) (by omega) (by have := R4.hi; simp; omega) ?_)
      intro v' w5 own5 hg5 _
      rw [vals_snoc] at own5
      have R5 := (R4.alloc #[.int .i64 x4] 3).grown own5 hg5 (R4.sm.snoc (by omega)) (by omega)
      have HLL := Lib.hid (show (l ++ [x4]).length = l.length + 1 by simp)
      clear own5 hg5 R4
      go_wp2
      go_roundw
      case rel => exact ⟨l ++ [x4], z - 1, rfl, by omega, by have := HLL.out; omega, fun hnil => absurd hnil (by simp), R5.mono (by have := HLL.out; omega)⟩
      case measure => simp [intOf]; omega
    · have hl8 : l.length ≤ 31 := by omega
      go_wp2_with fail
      have HZ := Lib.hid hv
      have PQ := P0.next R.rdr R.bel R.far
      have PV := PQ.drew
      have RV : Rw r wr.drew wr.drew r (0 + 5 + 1 + 2 * l.length) base v l := (R.next R.rdr.drew ((Below.refl _ _).drew) ⟨Nat.le_refl _, fun _ _ _ => rfl⟩).here
      clear R PQ P0 hbase hv
      refine wp_region_held_drew (S := (fun w' => w'.cell? ⟨D, 0, none⟩ = some (.int .i64 p) ∧ w'.cell? ⟨D, 1, none⟩ = some (.int .i64 c))) (by kernel_rfl) (⟨(PV.d.at_ 0 (by simp)).1, (PV.d.at_ 1 (by simp)).1⟩) (fun hHeld => ?_)
      generalize wr.drew = V at *
      refine wpAnyH_take (i := 0) (v := ?_) rfl (by kernel_rfl) (by kernel_rfl) (by kernel_rfl) (fun _ _ _ h => h) (Or.inl ⟨by rfl, ?_⟩) (by assumption) ?_
      rotate_left
      · intro w hSw
        (try dsimp only at hSw)
        go_simp
        all_goals with_reducible rfl
      try simp only [Act.put, List.setIfInBounds_toArray, List.set_cons_zero, List.set_cons_succ, List.getElem_toArray, List.getElem_cons_zero]
      refine wpAnyH_take (i := 1) (v := ?_) rfl (by kernel_rfl) (by kernel_rfl) (by kernel_rfl) (fun _ _ _ h => h) (Or.inl ⟨by rfl, ?_⟩) (by assumption) ?_
      rotate_left
      · intro w hSw
        (try dsimp only at hSw)
        go_simp
        all_goals with_reducible rfl
      try simp only [Act.put, List.setIfInBounds_toArray, List.set_cons_zero, List.set_cons_succ, List.getElem_toArray, List.getElem_cons_zero, List.getElem_cons_succ]
      refine wpAnyH_take (i := 2) (v := ?_) rfl (by kernel_rfl) (by kernel_rfl) (by kernel_rfl) (fun _ _ _ h => h) (Or.inl ⟨by rfl, ?_⟩) (by assumption) ?_
      rotate_left
      · intro w hSw
        (try dsimp only at hSw)
        go_simp
        all_goals with_reducible rfl
      try simp only [Act.put, List.setIfInBounds_toArray, List.set_cons_zero, List.set_cons_succ, List.getElem_toArray, List.getElem_cons_zero, List.getElem_cons_succ]
      refine wpAnyH_take (i := 4) (v := ?_) rfl (by kernel_rfl) (by kernel_rfl) (by kernel_rfl) (fun _ _ _ h => h) (Or.inl ⟨by rfl, ?_⟩) (by assumption) ?_
      rotate_left
      · intro w hSw
        (try dsimp only at hSw)
        go_simp
        all_goals with_reducible rfl
      try simp only [Act.put, List.setIfInBounds_toArray, List.set_cons_zero, List.set_cons_succ, List.getElem_toArray, List.getElem_cons_zero, List.getElem_cons_succ]
      refine wpAnyH_ready (rs := [3, 5]) (by kernel_rfl) (by simp) ?_
      refine AllReadyH.cons rfl (fun K hK => ?_) (AllReadyH.cons rfl (fun K hK => ?_) AllReadyH.nil)
      · go_simp
        have T5 : Calls Tryd.prog 35 #[.pointer (some ⟨r, 0, none⟩), v, .int .i64 1000001] V (Tab 32 r V r (0 + 5 + 1 + 2 * 31 + 4)) := by
          rcases Nat.eq_zero_or_pos l.length with h0 | h0
          · obtain rfl : l = [] := List.length_eq_zero_iff.mp h0
            obtain rfl := HZ.out rfl
            exact (spoil_nil r r _ _ _ _ _ _ _ RV (by omega) (by simp <;> omega)).mono (fun e w' T => T.mono (by omega) (by simp <;> omega))
          · exact (spoil_any r r _ _ _ _ _ l _ RV h0 (by omega) (by omega) (by omega)).mono (fun e w' T => T.mono (by omega) (by omega))
        have HT := Lib.hid T5
        clear T5
        (go_at_call 35; refine HT.out.mono ?_; rintro e w5 ⟨a5, n5, c5, l5, rfl, h52, h53, h54, h55, h56, h57, h58, h59, q5⟩)
        have P5 := PV.next h57 h58 h59
        refine hK.out _ _ ⟨(P5.d.at_ 0 (by simp)).1, (P5.d.at_ 1 (by simp)).1⟩ (fun hHeld => ?_)
        clear hK K PV RV HT HZ h57 h58 h59
        try simp only [Act.put, List.setIfInBounds_toArray, List.set_cons_zero, List.set_cons_succ, List.getElem_toArray, List.getElem_cons_zero, List.getElem_cons_succ]
        have PX := P5.alloc #[.int .i64 0, .int .i64 25, .int .i64 100, .int .i64 1250, .int .i64 (-1)] 3
        have L5 := h52.past q5 ((Far.refl w5 r).alloc (.cells #[.int .i64 0, .int .i64 25, .int .i64 100, .int .i64 1250, .int .i64 (-1)] 3))
        have HC := Lib.hid (made_cells w5 #[.int .i64 0, .int .i64 25, .int .i64 100, .int .i64 1250, .int .i64 (-1)] 3 5 (-1) 1250 rfl (by simp [Ints]))
        have hLr : w5.heap.size ≠ r := by have := P5.R.rdr.top; omega
        refine wpAnyH_ready (rs := [5]) (by kernel_rfl) (by simp) ?_
        refine AllReadyH.cons rfl (fun K hK => ?_) AllReadyH.nil
        go_simp
        skip
        refine hK.out _ _ (⟨(PX.d.at_ 0 (by simp)).1, (PX.d.at_ 1 (by simp)).1⟩) (fun hHeld => ?_)
        clear hK K
        try simp only [Act.put, List.setIfInBounds_toArray, List.set_cons_zero, List.set_cons_succ, List.getElem_toArray, List.getElem_cons_zero, List.getElem_cons_succ]
        clear P5 h52
        refine wpAnyH_ready (rs := [6]) (by kernel_rfl) (by simp) ?_
        refine AllReadyH.cons rfl (fun K hK => ?_) AllReadyH.nil
        go_simp
        (go_at_call 26; refine (one_any _ r _ _ _ _ (-1) 1250 _ PX.R.rdr (by omega) (by omega) (by omega) hLr HC.out).mono ?_)
        rintro e V9 ⟨j9, rfl, lo9, hi9, bl9, rd9, fr9⟩
        have PY := PX.next rd9 bl9 fr9
        have LY := L5.past q5 fr9
        refine hK.out _ _ ⟨(PY.d.at_ 0 (by simp)).1, (PY.d.at_ 1 (by simp)).1⟩ (fun hHeld => ?_)
        clear hK K bl9 rd9 fr9 PX L5 HC
        try simp only [Act.put, List.setIfInBounds_toArray, List.set_cons_zero, List.set_cons_succ, List.getElem_toArray, List.getElem_cons_zero, List.getElem_cons_succ]
        have u0 : V9.cell? ⟨w.heap.size, 0, none⟩ = some (.int .i64 0) := (PY.e.at_ 0 (by simp)).1
        have u1 : V9.cell? ⟨w.heap.size, 1, none⟩ = some (.int .i64 0) := (PY.e.at_ 1 (by simp)).1
        have v0 := (PY.e.at_ 0 (by simp)).2
        have v1 := (PY.e.at_ 1 (by simp)).2
        have hDE := PY.hDE
        have d9 := (PY.d.other (i := 0) (v := .int .i64 p) hDE.symm).other (i := 1) (v := .int .i64 c) hDE.symm
        have HN := Lib.hid ((PY.bel.setCell (p := ⟨w.heap.size, 0, none⟩) (Nat.le_refl _) (.int .i64 p)).setCell (p := ⟨w.heap.size, 1, none⟩) (Nat.le_refl _) (.int .i64 c))
        have HY := Lib.hid ((LY.off1 (E := w.heap.size) (i := 0) (v := .int .i64 p) q5 hEr).off1 (E := w.heap.size) (i := 1) (v := .int .i64 c) q5 hEr)
        refine wpAnyH_ready (rs := [7]) (by kernel_rfl) (by simp) ?_
        refine AllReadyH.cons rfl (fun K hK => ?_) AllReadyH.nil
        go_simp
        skip
        refine hK.out _ _ (⟨(d9.at_ 0 (by simp)).1, (d9.at_ 1 (by simp)).1⟩) (fun hHeld => ?_)
        clear hK K
        try simp only [Act.put, List.setIfInBounds_toArray, List.set_cons_zero, List.set_cons_succ, List.getElem_toArray, List.getElem_cons_zero, List.getElem_cons_succ]
        refine wpAnyH_take (i := 8) (v := ?_) rfl (by kernel_rfl) (by kernel_rfl) (by kernel_rfl) (fun _ _ _ h => h) (Or.inl ⟨by rfl, ?_⟩) (by assumption) ?_
        rotate_left
        · intro w hSw
          (try dsimp only at hSw)
          go_simp
          all_goals with_reducible rfl
        try simp only [Act.put, List.setIfInBounds_toArray, List.set_cons_zero, List.set_cons_succ, List.getElem_toArray, List.getElem_cons_zero, List.getElem_cons_succ]
        refine wpAnyH_take (i := 9) (v := ?_) rfl (by kernel_rfl) (by kernel_rfl) (by kernel_rfl) (fun _ _ _ h => h) (Or.inl ⟨by rfl, ?_⟩) (by assumption) ?_
        rotate_left
        · intro w hSw
          (try dsimp only at hSw)
          go_simp
          all_goals with_reducible rfl
        try simp only [Act.put, List.setIfInBounds_toArray, List.set_cons_zero, List.set_cons_succ, List.getElem_toArray, List.getElem_cons_zero, List.getElem_cons_succ]
        refine wpAnyH_done (by kernel_rfl) ?_ _
        clear hHeld d9 PY LY
        go_wp2
        exact bodyPost_ret (v := .tuple #[.agg #[.int .i64 p, .int .i64 c], .slice a5 n5 c5, .int .i64 j9]) (by simp [results, Tryd.results16, go_sem, u0, u1]) rfl ⟨_, _, _, _, _, _, _, rfl, (by simpa using HY.out), h53, h54, h55, h56, ⟨lo9, hi9⟩, HN.out⟩
      · go_simp
        have P4 := PV.alloc #[.int .i64 0, .int .i64 25, .int .i64 100, .int .i64 1250, .int .i64 (-1)] 3
        have R4 := (RV.alloc #[.int .i64 0, .int .i64 25, .int .i64 100, .int .i64 1250, .int .i64 (-1)] 3).here
        have HC4 := Lib.hid (made_cells V #[.int .i64 0, .int .i64 25, .int .i64 100, .int .i64 1250, .int .i64 (-1)] 3 5 (-1) 1250 rfl (by simp [Ints]))
        have hLr : V.heap.size ≠ r := by have := PV.R.rdr.top; omega
        have hLl : V.heap.size < (V.alloc (.cells #[.int .i64 0, .int .i64 25, .int .i64 100, .int .i64 1250, .int .i64 (-1)] 3)).heap.size := by simp
        refine hK.out _ _ ⟨(P4.d.at_ 0 (by simp)).1, (P4.d.at_ 1 (by simp)).1⟩ (fun hHeld => ?_)
        clear hK K PV RV
        try simp only [Act.put, List.setIfInBounds_toArray, List.set_cons_zero, List.set_cons_succ, List.getElem_toArray, List.getElem_cons_zero, List.getElem_cons_succ]
        generalize V.alloc (.cells #[.int .i64 0, .int .i64 25, .int .i64 100, .int .i64 1250, .int .i64 (-1)] 3) = V4 at *
        generalize V.heap.size = LL at *
        refine wpAnyH_ready (rs := [3]) (by kernel_rfl) (by simp) ?_
        refine AllReadyH.cons rfl (fun K hK => ?_) AllReadyH.nil
        go_simp
        have T5 : Calls Tryd.prog 35 #[.pointer (some ⟨r, 0, none⟩), v, .int .i64 1000001] V4 (Tab 32 r V4 r (0 + 5 + 1 + 2 * 31 + 4)) := by
          rcases Nat.eq_zero_or_pos l.length with h0 | h0
          · obtain rfl : l = [] := List.length_eq_zero_iff.mp h0
            obtain rfl := HZ.out rfl
            exact (spoil_nil r r _ _ _ _ _ _ _ R4 (by omega) (by simp <;> omega)).mono (fun e w' T => T.mono (by omega) (by simp <;> omega))
          · exact (spoil_any r r _ _ _ _ _ l _ R4 h0 (by omega) (by omega) (by omega)).mono (fun e w' T => T.mono (by omega) (by omega))
        have HT := Lib.hid T5
        clear T5
        (go_at_call 35; refine HT.out.mono ?_; rintro e w5 ⟨a5, n5, c5, l5, rfl, L5, h53, h54, h55, h56, h57, h58, h59, q5⟩)
        have PX := P4.next h57 h58 h59
        have HC := Lib.hid (cells_far HC4.out h59 hLl hLr)
        refine hK.out _ _ ⟨(PX.d.at_ 0 (by simp)).1, (PX.d.at_ 1 (by simp)).1⟩ (fun hHeld => ?_)
        clear hK K P4 R4 HT HZ HC4 h57 h58 h59
        try simp only [Act.put, List.setIfInBounds_toArray, List.set_cons_zero, List.set_cons_succ, List.getElem_toArray, List.getElem_cons_zero, List.getElem_cons_succ]
        refine wpAnyH_ready (rs := [6]) (by kernel_rfl) (by simp) ?_
        refine AllReadyH.cons rfl (fun K hK => ?_) AllReadyH.nil
        go_simp
        (go_at_call 26; refine (one_any _ r _ _ _ _ (-1) 1250 _ PX.R.rdr (by omega) (by omega) (by omega) hLr HC.out).mono ?_)
        rintro e V9 ⟨j9, rfl, lo9, hi9, bl9, rd9, fr9⟩
        have PY := PX.next rd9 bl9 fr9
        have LY := L5.past q5 fr9
        refine hK.out _ _ ⟨(PY.d.at_ 0 (by simp)).1, (PY.d.at_ 1 (by simp)).1⟩ (fun hHeld => ?_)
        clear hK K bl9 rd9 fr9 PX L5 HC
        try simp only [Act.put, List.setIfInBounds_toArray, List.set_cons_zero, List.set_cons_succ, List.getElem_toArray, List.getElem_cons_zero, List.getElem_cons_succ]
        have u0 : V9.cell? ⟨w.heap.size, 0, none⟩ = some (.int .i64 0) := (PY.e.at_ 0 (by simp)).1
        have u1 : V9.cell? ⟨w.heap.size, 1, none⟩ = some (.int .i64 0) := (PY.e.at_ 1 (by simp)).1
        have v0 := (PY.e.at_ 0 (by simp)).2
        have v1 := (PY.e.at_ 1 (by simp)).2
        have hDE := PY.hDE
        have d9 := (PY.d.other (i := 0) (v := .int .i64 p) hDE.symm).other (i := 1) (v := .int .i64 c) hDE.symm
        have HN := Lib.hid ((PY.bel.setCell (p := ⟨w.heap.size, 0, none⟩) (Nat.le_refl _) (.int .i64 p)).setCell (p := ⟨w.heap.size, 1, none⟩) (Nat.le_refl _) (.int .i64 c))
        have HY := Lib.hid ((LY.off1 (E := w.heap.size) (i := 0) (v := .int .i64 p) q5 hEr).off1 (E := w.heap.size) (i := 1) (v := .int .i64 c) q5 hEr)
        refine wpAnyH_ready (rs := [7]) (by kernel_rfl) (by simp) ?_
        refine AllReadyH.cons rfl (fun K hK => ?_) AllReadyH.nil
        go_simp
        skip
        refine hK.out _ _ (⟨(d9.at_ 0 (by simp)).1, (d9.at_ 1 (by simp)).1⟩) (fun hHeld => ?_)
        clear hK K
        try simp only [Act.put, List.setIfInBounds_toArray, List.set_cons_zero, List.set_cons_succ, List.getElem_toArray, List.getElem_cons_zero, List.getElem_cons_succ]
        refine wpAnyH_take (i := 8) (v := ?_) rfl (by kernel_rfl) (by kernel_rfl) (by kernel_rfl) (fun _ _ _ h => h) (Or.inl ⟨by rfl, ?_⟩) (by assumption) ?_
        rotate_left
        · intro w hSw
          (try dsimp only at hSw)
          go_simp
          all_goals with_reducible rfl
        try simp only [Act.put, List.setIfInBounds_toArray, List.set_cons_zero, List.set_cons_succ, List.getElem_toArray, List.getElem_cons_zero, List.getElem_cons_succ]
        refine wpAnyH_take (i := 9) (v := ?_) rfl (by kernel_rfl) (by kernel_rfl) (by kernel_rfl) (fun _ _ _ h => h) (Or.inl ⟨by rfl, ?_⟩) (by assumption) ?_
        rotate_left
        · intro w hSw
          (try dsimp only at hSw)
          go_simp
          all_goals with_reducible rfl
        try simp only [Act.put, List.setIfInBounds_toArray, List.set_cons_zero, List.set_cons_succ, List.getElem_toArray, List.getElem_cons_zero, List.getElem_cons_succ]
        refine wpAnyH_done (by kernel_rfl) ?_ _
        clear hHeld d9 PY LY
        go_wp2
        exact bodyPost_ret (v := .tuple #[.agg #[.int .i64 p, .int .i64 c], .slice a5 n5 c5, .int .i64 j9]) (by simp [results, Tryd.results16, go_sem, u0, u1]) rfl ⟨_, _, _, _, _, _, _, rfl, (by simpa using HY.out), h53, h54, h55, h56, ⟨lo9, hi9⟩, HN.out⟩
end Go.Proofs.YthbfjmlkcgcgaaaDoor
