/-
  The generators of pulses and labels (chapter 14): some list of numbers, some list of labels, and nothing that was there has changed. Condition: the code has at most 1048576 bytes.
-/
import Derived.Test.YtgbbbmljanlogaaSpoil
import Derived.Test.YtgbbbmljanlogaaRow
import Derived.Test.YtgbbbmljanlogaaOwnL
namespace Go.Proofs.Ytgbbbmljanlogaa
open Go.RowKit
set_option linter.unusedVariables false
set_option maxRecDepth 100000
set_option maxHeartbeats 1000000 in
theorem anyPulses_any (B r m : Nat) (w : World) (h : Rdr B w r m) (hm : m ≤ 500) : Calls Try.prog 28 #[.pointer (some ⟨r, 0, none⟩)] w (Tab 18 B w r (m + 40)) := by
  obtain ⟨i0, hi0, hz0, hz1, hz2⟩ := info_parts int_info
  have hI := Lib.hid hi0
  have hZ0 := Lib.hid hz0
  have hZ1 := Lib.hid hz1
  have hZ2 := Lib.hid hz2
  clear hi0 hz0 hz1 hz2
  go_enter Try.func28, Try.ntmps28
  have R0 : Rw B w (w.alloc (.cells #[] 3)) r m w.heap.size (.slice (some ⟨w.heap.size, 0, none⟩) 0 0) [] :=
    ⟨h.alloc _ _, (Far.refl _ _).alloc _, (Below.refl _ _).alloc h.le _, World.ownsRow_made w #[] 0 (Nat.le_refl _) (by unfold maxLen; omega) rfl, h.top, by simp, Small.nil⟩
  have HR0 := Lib.hid R0
  clear R0
  go_wp2_with fail
  refine (pick_any B r _ _ _ HR0.out.rdr (by omega)).mono ?_
  rintro e w2 ⟨k2, rfl, a2, b2, st2⟩
  have R2 := HR0.out.step st2
  have c2 : k2 ≤ 250 := by omega
  clear b2 st2 HR0
  go_wp2_with fail
  refine (one_any B r _ _ _ _ 0 17 _ (R2.alloc _ _).rdr (by omega) (by omega) (by omega) (by have := R2.rdr.top; omega) ?_).mono ?_
  · exact made_cells _ _ _ _ _ _ rfl (by simp [Ints])
  rintro e w3 ⟨z3, rfl, x3, y3, bl3, rd3, fr3⟩
  have R3 := (R2.alloc _ _).next rd3 bl3 fr3
  clear R2 bl3 rd3 fr3
  go_wp2_with fail
  go_loopw [3, 4, 5] (fun o t n wr => ∃ (v : Value) (l : List Int) (x z : Int), o = v ∧ t = .int .i64 x ∧ n = .int .i64 z ∧ 0 ≤ z ∧ z + l.length ≤ 17 ∧ (0 ≤ x ∧ x ≤ 250000 + 2000000 * (l.length : Int)) ∧ (l = [] → v = .slice (some ⟨w.heap.size, 0, none⟩) 0 0) ∧ Rw B w wr r (m + 2 + l.length) w.heap.size v l) (fun _ _ n _ => (intOf n).toNat)
  case atStart => exact ⟨_, [], _, z3, rfl, rfl, rfl, x3, by simpa using y3, by simp; omega, fun _ => rfl, R3.mono (by simp)⟩
  case round =>
    obtain ⟨v, l, x, z, rfl, rfl, rfl, z0, z1', x0, hv, R⟩ := hrel
    clear R3
    by_cases hz : 0 < z
    · have hl : l.length ≤ 16 := by omega
      clear hv
      go_wp2_with (first | (at_builtin; refine wpList_append_own _ rfl _ _ 23 rfl w.heap.size 3 i0 (.int .i64 0) 1 8 Try.underlying23 hI.out hZ0.out hZ1.out hZ2.out rfl (by decide) _ _ _ rfl (R.own.alloc _) ⟨wr.heap.size, 0, none⟩ 1 1 [.int .i64 x] rfl rfl (cell_one_new _ _ _) (by intro u hu; simp at hu; subst hu; rfl) (by unfold maxLen; omega) (by omega) (by have := R.hi; simp; omega) ?_))
      intro v' w3 own3 hg3 _
      rw [vals_snoc] at own3
      have R3 := (R.alloc #[.int .i64 x] 3).grown own3 hg3 (R.sm.snoc (by omega)) (Nat.le_refl _)
      have HLL := Lib.hid (show (l ++ [x]).length = l.length + 1 by simp)
      clear own3 hg3 R
      go_wp2_with fail
      refine (one_any B r _ _ _ _ 0 2000000 _ (R3.alloc _ _).rdr (by omega) (by omega) (by omega) (by have := R3.rdr.top; omega) ?_).mono ?_
      · exact made_cells _ _ _ _ _ _ rfl (by simp [Ints])
      rintro e w4 ⟨z4, rfl, x4, y4, bl4, rd4, fr4⟩
      have R4 := (R3.alloc _ _).next rd4 bl4 fr4
      clear R3 bl4 rd4 fr4
      go_wp2
      go_roundw
      case rel => exact ⟨_, l ++ [x], _, z - 1, rfl, rfl, rfl, by omega, by have := HLL.out; omega, by have := HLL.out; omega, fun hnil => absurd hnil (by simp), R4.mono (by have := HLL.out; omega)⟩
      case measure => simp [intOf]; omega
    · have hl8 : l.length ≤ 17 := by omega
      have HR := Lib.hid R
      clear R
      go_wp2_with fail
      rcases Nat.eq_zero_or_pos l.length with h0 | h0
      · obtain rfl : l = [] := List.length_eq_zero_iff.mp h0
        obtain rfl := hv rfl
        refine (spoil_nil B r _ _ _ _ _ _ _ HR.out (by omega) (by simp <;> omega)).mono ?_
        rintro e w5 T
        have HT := Lib.hid (T.mono (k' := 18) (m' := m + 40) (by omega) (by simp <;> omega))
        obtain ⟨a5, n5, c5, l5, rfl, _⟩ := HT.out
        clear T
        go_wp2
        go_ret
        exact HT.out
      · refine (spoil_any B r _ _ _ _ _ l _ HR.out h0 (by omega) (by omega) (by omega)).mono ?_
        rintro e w5 T
        have HT := Lib.hid (T.mono (k' := 18) (m' := m + 40) (by omega) (by omega))
        obtain ⟨a5, n5, c5, l5, rfl, _⟩ := HT.out
        clear T
        go_wp2
        go_ret
        exact HT.out
/-- Some list of a generator. -/
def PuOnly (w : World) (e : Ending) (w' : World) : Prop := ∃ a n c l, e = .returned (.slice a n c) ∧ Lst w'.heap.size w' a n l ∧ n ≤ 18 ∧ n ≤ c ∧ c ≤ maxLen ∧ Below w.heap.size w w'
theorem DrawCleanPulses_any (w : World) (a : Option Addr) (len cap : Nat) (h : Code w a len) (hcap : len ≤ cap) : Calls Try.prog 8 #[.slice a len cap] w (PuOnly w) := by
  go_enter Try.func8, Try.ntmps8
  go_wp2_with fail
  refine (newReader_any w a len cap h hcap).mono ?_
  rintro e w1 ⟨rfl, bl1, rd1⟩
  go_wp2_with fail
  refine (anyPulses_any _ _ _ _ rd1 (by omega)).mono ?_
  rintro e w2 ⟨a2, n2, c2, l2, rfl, h2, h3, h4, h5, h6, h7, h8, h9, h10⟩
  have T := Lib.hid (And.intro h2 (And.intro h3 (And.intro h4 (And.intro h5 (bl1.trans h8)))))
  clear h2 h3 h4 h5 h6 h7 h8 h9 h10
  go_wp2
  go_ret
  exact ⟨a2, n2, c2, l2, rfl, T.out⟩
theorem Lst.far {w w' : World} {a : Option Addr} {n r : Nat} {l : List Int} (h : Lst w.heap.size w a n l) (fr : Far w r w') (hr : 0 < n → ∀ x, a = some x → r < x.block) : Lst w'.heap.size w' a n l := by
  refine ⟨h.1, h.2.1, ?_⟩
  rcases Nat.eq_zero_or_pos n with h0 | h0
  · exact .inl h0
  · obtain ⟨b, off, rfl, hb, hc⟩ := h.at_ 0 h0
    have hrb : r < b := hr h0 _ rfl
    exact .inr ⟨b, off, rfl, Nat.lt_of_lt_of_le hb fr.size, fun i hi => (fr.cell _ _ hb (by omega)).trans (hc i hi)⟩
theorem Rq.labs {B r m base : Nat} {w0 w : World} {v : Value} {l : List (Int × Int)} (h : Rq 34 2 B w0 w r m base v l.length (v2 l)) (hk : l.length ≤ 1000) : ∃ a c, v = .slice a l.length c ∧ Sps w.heap.size w a l.length l ∧ l.length ≤ c ∧ c ≤ maxLen := by
  rcases h.own.2 with ⟨hv, hn⟩ | ⟨g, cap, cur, hv, hb, hgg, hle, hcap, hcs, htk⟩
  · exact ⟨none, 0, by rw [hv, hn], by rw [hn]; exact ⟨hn, by omega, .inl rfl⟩, by omega, by unfold maxLen; omega⟩
  · have ho := h.own
    rw [hv] at ho
    have hP : Prs 34 base w (some ⟨g, 0, none⟩) cap l := ho
    exact ⟨some ⟨g, 0, none⟩, cap, hv, prs_sps' hP (by omega), hle, hcap⟩
theorem Rdr.under {B r m base : Nat} {w w' : World} (h : Rdr B w r m) (hb : Below base w w') (hr : r < base) : Rdr B w' r m := by
  obtain ⟨a, b, c, ⟨p, hp, hp2⟩, x, len, cap, hx, hl, hcode⟩ := h
  refine ⟨a, Nat.lt_of_lt_of_le b hb.size, (hb.frozen (p := ⟨r, 1, none⟩) hr).trans c, ⟨p, hp, (hb.cell (p := ⟨r, 1, none⟩) hr).trans hp2⟩, x, len, cap, (hb.cell (p := ⟨r, 0, none⟩) hr).trans hx, hl, ?_⟩
  rcases hcode with h0 | ⟨cb, off, rfl, hcb, hall⟩
  · exact .inl h0
  · refine .inr ⟨cb, off, rfl, hcb, fun i hi => ?_⟩
    obtain ⟨n, h0, h1, h2⟩ := hall i hi
    exact ⟨n, h0, h1, (hb.cell (p := ⟨cb, off + i, none⟩) (by show cb < base; omega)).trans h2⟩
theorem Rq.under {T : TypeId} {K B r m base n n' : Nat} {w0 w w' : World} {v v' : Value} {xs xs' : List Value} (h : Rq T K B w0 w r m base v n xs) (own : w'.ownsRow base T K v' n' xs') (hb : Below base w w') (h0 : w0.heap.size ≤ base) : Rq T K B w0 w' r m base v' n' xs' :=
  ⟨h.rdr.under hb h.lo, ⟨Nat.le_trans h.far.size hb.size, fun b hbb hr => (hb.block b (by omega)).trans (h.far.block b hbb hr)⟩, h.bel.trans (hb.mono (by have := h.rdr.low; have := h.lo; omega)), own, h.lo, Nat.le_trans h.hi hb.size⟩
theorem cell_alU {w : World} (o : Obj) {b j : Nat} {x : Value} (h : w.cell? ⟨b, j, none⟩ = some x) : (w.alloc o).cell? ⟨b, j, none⟩ = some x :=
  (((Below.refl w.heap.size w).alloc (Nat.le_refl _) o).cell (p := ⟨b, j, none⟩) (World.block_lt_of_cell? _ _ h)).trans h
/-- Some labels of a generator. -/
def SomeLb (B : Nat) (w : World) (r m : Nat) (e : Ending) (w' : World) : Prop := ∃ a c l, e = .returned (.slice a l.length c) ∧ l.length ≤ 18 ∧ l.length ≤ c ∧ c ≤ maxLen ∧ Sps w'.heap.size w' a l.length l ∧ Rdr B w' r m ∧ Below B w w' ∧ Far w r w'
set_option maxHeartbeats 4000000 in
theorem someLabels_any (B r m n c : Nat) (a : Option Addr) (ps : List Int) (w : World) (h : Rdr B w r m) (hm : m ≤ 500) (hP : Lst w.heap.size w a n ps) (hn : n ≤ 18) (hr : 0 < n → ∀ x, a = some x → r < x.block) : Calls Try.prog 34 #[.pointer (some ⟨r, 0, none⟩), .slice a n c] w (SomeLb B w r (m + 60)) := by
  have HP := Lib.hid hP
  have HR := Lib.hid hr
  have HN := Lib.hid hn
  have hn1 := hP.2.1
  clear hP hr hn
  go_enter Try.func34, Try.ntmps34
  have R0 : Rq 34 2 B w (w.alloc (.cells #[] 34)) r m w.heap.size (.slice (some ⟨w.heap.size, 0, none⟩) 0 0) 0 [] :=
    ⟨h.alloc _ _, (Far.refl _ _).alloc _, (Below.refl _ _).alloc h.le _, World.ownsRow_made w #[] 0 (Nat.le_refl _) (by unfold maxLen; omega) rfl, h.top, by simp⟩
  have HR0 := Lib.hid R0
  clear R0
  go_wp2_with fail
  refine (pick_any B r _ _ _ HR0.out.rdr (by omega)).mono ?_
  rintro e w2 ⟨k2, rfl, a2, b2, st2⟩
  have R2 := HR0.out.step st2
  have c2 : k2 ≤ 100 := by omega
  clear b2 st2 HR0
  go_wp2_with fail
  go_loopw [5, 6, 7] (fun o t i wr => ∃ (k : Nat) (v : Value) (l : List (Int × Int)) (x : Int), o = v ∧ t = .int .i64 x ∧ i = .int .i64 k ∧ k ≤ n ∧ l.length ≤ k ∧ (0 ≤ x ∧ x ≤ 100000 + 2 * (k : Int)) ∧ Rq 34 2 B w wr r (m + 1 + 3 * k) w.heap.size v l.length (v2 l)) (fun _ _ i _ => n - (intOf i).toNat)
  case atStart => exact ⟨0, _, [], _, rfl, rfl, rfl, Nat.zero_le _, Nat.le_refl _, by simp; omega, R2.mono (by omega)⟩
  case round =>
    obtain ⟨k, v, l, x, rfl, rfl, rfl, hk, hl, hx, R⟩ := hrel
    clear R2
    have hn18 := HN.out
    by_cases hlt : k < n
    · go_wp2_with fail
      refine (pick_any B r _ _ _ R.rdr (by omega)).mono ?_
      rintro e w3 ⟨k3, rfl, a3, b3, st3⟩
      have R3 := R.step st3
      clear b3 st3 R
      by_cases hk3 : 0 < k3
      · obtain ⟨b, off, rfl, hb0, hc⟩ := HP.out.at_ k hlt
        have hrb : r < b := HR.out (by omega) _ rfl
        have ck : w3.cell? ⟨b, off + k, none⟩ = some (.int .i64 (L.g ps k)) := (R3.far.cell _ _ hb0 (by omega)).trans (hc k hlt)
        generalize L.g ps k = y at ck
        obtain ⟨a', c', hv, -⟩ := R3.labs (by omega)
        subst hv
        clear hc
        go_wp2_with fail
        have RV := R3.drew
        have cV : w3.drew.cell? ⟨b, off + k, none⟩ = some (.int .i64 y) := ck
        have hbV : b < w3.drew.heap.size := World.block_lt_of_cell? _ _ cV
        refine wp_region_held_drew (S := (fun w' => w'.cell? ⟨b, off + k, none⟩ = some (.int .i64 y))) (by kernel_rfl) (ck) (fun hHeld => ?_)
        clear R3 ck
        generalize w3.drew = V at *
        refine wpAnyH_take (i := 0) (v := ?_) rfl (by kernel_rfl) (by kernel_rfl) (by kernel_rfl) (fun _ _ _ h => h) (Or.inl ⟨by rfl, ?_⟩) (by assumption) ?_
        rotate_left
        · intro w hSw
          (try dsimp only at hSw)
          go_simp
          all_goals with_reducible rfl
        try simp only [Act.put, List.setIfInBounds_toArray, List.set_cons_zero, List.set_cons_succ, List.getElem_toArray, List.getElem_cons_zero]
        refine wpAnyH_take (i := 1) (v := ?_) rfl (by kernel_rfl) (by kernel_rfl) (by kernel_rfl) (fun _ _ _ h => h) (Or.inl ⟨by rfl, ?_⟩) (by assumption) ?_
        rotate_left
        · intro w hSw
          (try dsimp only at hSw)
          go_simp
          all_goals with_reducible rfl
        try simp only [Act.put, List.setIfInBounds_toArray, List.set_cons_zero, List.set_cons_succ, List.getElem_toArray, List.getElem_cons_zero, List.getElem_cons_succ]
        refine wpAnyH_take (i := 2) (v := ?_) rfl (by kernel_rfl) (by kernel_rfl) (by kernel_rfl) (fun _ _ _ h => h) (Or.inl ⟨by rfl, ?_⟩) (by assumption) ?_
        rotate_left
        · intro w hSw
          (try dsimp only at hSw)
          go_simp
          all_goals with_reducible rfl
        try simp only [Act.put, List.setIfInBounds_toArray, List.set_cons_zero, List.set_cons_succ, List.getElem_toArray, List.getElem_cons_zero, List.getElem_cons_succ]
        refine wpAnyH_take (i := 3) (v := ?_) rfl (by kernel_rfl) (by kernel_rfl) (by kernel_rfl) (fun _ _ _ h => h) (Or.inl ⟨by rfl, ?_⟩) (by assumption) ?_
        rotate_left
        · intro w hSw
          (try dsimp only at hSw)
          go_simp
          all_goals with_reducible rfl
        try simp only [Act.put, List.setIfInBounds_toArray, List.set_cons_zero, List.set_cons_succ, List.getElem_toArray, List.getElem_cons_zero, List.getElem_cons_succ]
        refine wpAnyH_take (i := 4) (v := ?_) rfl (by kernel_rfl) (by kernel_rfl) (by kernel_rfl) (fun _ _ _ h => h) (Or.inl ⟨by rfl, ?_⟩) (by assumption) ?_
        rotate_left
        · intro w hSw
          (try dsimp only at hSw)
          go_simp
          all_goals with_reducible rfl
        try simp only [Act.put, List.setIfInBounds_toArray, List.set_cons_zero, List.set_cons_succ, List.getElem_toArray, List.getElem_cons_zero, List.getElem_cons_succ]
        refine wpAnyH_take (i := 5) (v := ?_) rfl (by kernel_rfl) (by kernel_rfl) (by kernel_rfl) (fun _ _ _ h => h) (Or.inl ⟨by rfl, ?_⟩) (by assumption) ?_
        rotate_left
        · intro w hSw
          (try dsimp only at hSw)
          go_simp
          all_goals with_reducible rfl
        try simp only [Act.put, List.setIfInBounds_toArray, List.set_cons_zero, List.set_cons_succ, List.getElem_toArray, List.getElem_cons_zero, List.getElem_cons_succ]
        refine wpAnyH_take (i := 9) (v := ?_) rfl (by kernel_rfl) (by kernel_rfl) (by kernel_rfl) (fun _ _ _ h => h) (Or.inl ⟨by rfl, ?_⟩) (by assumption) ?_
        rotate_left
        · intro w hSw
          (try dsimp only at hSw)
          go_simp
          all_goals with_reducible rfl
        try simp only [Act.put, List.setIfInBounds_toArray, List.set_cons_zero, List.set_cons_succ, List.getElem_toArray, List.getElem_cons_zero, List.getElem_cons_succ]
        refine wpAnyH_ready (rs := [6]) (by kernel_rfl) (by simp) ?_
        refine AllReadyH.cons rfl (fun K hK => ?_) AllReadyH.nil
        go_simp
        skip
        refine hK.out _ _ (cell_alU _ cV) (fun hHeld => ?_)
        clear hK K
        try simp only [Act.put, List.setIfInBounds_toArray, List.set_cons_zero, List.set_cons_succ, List.getElem_toArray, List.getElem_cons_zero, List.getElem_cons_succ]
        refine wpAnyH_ready (rs := [7]) (by kernel_rfl) (by simp) ?_
        refine AllReadyH.cons rfl (fun K hK => ?_) AllReadyH.nil
        go_simp
        (go_at_call 41; refine (one_any B r _ _ _ _ 0 700001 _ (RV.alloc _ _).rdr (by omega) (by omega) (by omega) (by have := RV.rdr.top; omega) ?_).mono ?_; (focus (exact made_cells _ _ _ _ _ _ rfl (by simp [Ints]))); rintro e w4 ⟨z4, rfl, x4, y4, bl4, rd4, fr4⟩)
        refine hK.out _ _ ((fr4.cell _ _ (by simp; omega) (by omega)).trans (cell_alU _ cV)) (fun hHeld => ?_)
        clear hK K
        try simp only [Act.put, List.setIfInBounds_toArray, List.set_cons_zero, List.set_cons_succ, List.getElem_toArray, List.getElem_cons_zero, List.getElem_cons_succ]
        have c4 := (fr4.cell b (off + k) (by simp; omega) (by omega)).trans (cell_alU _ cV)
        have R4 := (RV.alloc _ _).next rd4 bl4 fr4
        clear RV bl4 rd4 fr4 cV hbV
        refine wpAnyH_take (i := 8) (v := ?_) rfl (by kernel_rfl) (by kernel_rfl) (by kernel_rfl) (fun _ _ _ h => h) (Or.inl ⟨by rfl, ?_⟩) (by assumption) ?_
        rotate_left
        · intro w hSw
          (try dsimp only at hSw)
          go_simp
          all_goals with_reducible rfl
        try simp only [Act.put, List.setIfInBounds_toArray, List.set_cons_zero, List.set_cons_succ, List.getElem_toArray, List.getElem_cons_zero, List.getElem_cons_succ]
        refine wpAnyH_take (i := 10) (v := ?_) rfl (by kernel_rfl) (by kernel_rfl) (by kernel_rfl) (fun _ _ _ h => h) (Or.inl ⟨by rfl, ?_⟩) (by assumption) ?_
        rotate_left
        · intro w hSw
          (try dsimp only at hSw)
          go_simp
          all_goals with_reducible rfl
        try simp only [Act.put, List.setIfInBounds_toArray, List.set_cons_zero, List.set_cons_succ, List.getElem_toArray, List.getElem_cons_zero, List.getElem_cons_succ]
        refine wpAnyH_ready (rs := [11]) (by kernel_rfl) (by simp) ?_
        refine AllReadyH.cons rfl (fun K hK => ?_) AllReadyH.nil
        go_simp
        skip
        refine hK.out _ _ (cell_alU _ c4) (fun hHeld => ?_)
        clear hK K
        try simp only [Act.put, List.setIfInBounds_toArray, List.set_cons_zero, List.set_cons_succ, List.getElem_toArray, List.getElem_cons_zero, List.getElem_cons_succ]
        refine wpAnyH_ready (rs := [12]) (by kernel_rfl) (by simp) ?_
        refine AllReadyH.cons rfl (fun K hK => ?_) AllReadyH.nil
        refine step_l rfl _ _ (by rfl) w.heap.size (by rfl) (by rfl) ((R4.alloc _ _).own) (Sps.new w4 _ x 34) (by omega) (by have := R4.hi; simp; omega) _ rfl ?_
        intro a5 c5 w5 O5 b5 _
        refine hK.out _ _ ((b5.cell (p := ⟨b, off + k, none⟩) hb0).trans (cell_alU _ c4)) (fun hHeld => ?_)
        clear hK K
        try simp only [Act.put, List.setIfInBounds_toArray, List.set_cons_zero, List.set_cons_succ, List.getElem_toArray, List.getElem_cons_zero, List.getElem_cons_succ]
        refine wpAnyH_take (i := 13) (v := ?_) rfl (by kernel_rfl) (by kernel_rfl) (by kernel_rfl) (fun _ _ _ h => h) (Or.inl ⟨by rfl, ?_⟩) (by assumption) ?_
        rotate_left
        · intro w hSw
          (try dsimp only at hSw)
          go_simp
          all_goals with_reducible rfl
        try simp only [Act.put, List.setIfInBounds_toArray, List.set_cons_zero, List.set_cons_succ, List.getElem_toArray, List.getElem_cons_zero, List.getElem_cons_succ]
        refine wpAnyH_done (by kernel_rfl) ?_ _
        have R5 := (R4.alloc _ _).under O5 b5 (Nat.le_refl _)
        have hll : (l ++ [(IntKind.i64.wrap (y + z4), x)]).length = l.length + 1 := by simp
        obtain ⟨X, hX⟩ : ∃ X, l ++ [(IntKind.i64.wrap (y + z4), x)] = X := ⟨_, rfl⟩
        rw [hX] at R5 hll ⊢
        have HLL := Lib.hid hll
        clear R4 O5 b5 hHeld c4 hX hll
        go_wp2_with fail
        refine (one_any B r _ _ _ _ 0 2 _ (R5.alloc _ _).rdr (by omega) (by omega) (by omega) (by have := R5.rdr.top; omega) ?_).mono ?_
        · exact made_cells _ _ _ _ _ _ rfl (by simp [Ints])
        rintro e w6 ⟨z6, rfl, x6, y6, bl6, rd6, fr6⟩
        have R6 := (R5.alloc _ _).next rd6 bl6 fr6
        clear R5 bl6 rd6 fr6
        go_wp2
        go_roundw
        case rel => exact ⟨k + 1, .slice a5 X.length c5, X, _, by rw [HLL.out], rfl, by go_num, by omega, by have := HLL.out; omega, by omega, R6.mono (show _ ≤ m + 1 + 3 * (k + 1) by omega)⟩
        case measure => simp [intOf]; omega
      · go_wp2_with fail
        refine (one_any B r _ _ _ _ 0 2 _ (R3.alloc _ _).rdr (by omega) (by omega) (by omega) (by have := R3.rdr.top; omega) ?_).mono ?_
        · exact made_cells _ _ _ _ _ _ rfl (by simp [Ints])
        rintro e w4 ⟨z4, rfl, x4, y4, bl4, rd4, fr4⟩
        have R4 := (R3.alloc _ _).next rd4 bl4 fr4
        clear R3 bl4 rd4 fr4
        go_wp2
        go_roundw
        case rel => exact ⟨k + 1, _, l, _, rfl, rfl, by go_num, by omega, by omega, by omega, R4.mono (by omega)⟩
        case measure => simp [intOf]; omega
    · obtain ⟨a', c', hv, hS, h1, h2⟩ := R.labs (by omega)
      subst hv
      have T := Lib.hid (show SomeLb B w r (m + 60) (.returned (.slice a' l.length c')) wr from ⟨a', c', l, rfl, by omega, h1, h2, hS, (R.mono (show m + 1 + 3 * k ≤ m + 60 by omega)).rdr, R.bel, R.far⟩)
      clear R hS h1 h2
      go_wp2
      go_ret
      exact T.out
/-- Labels of a generator; pulses and labels. -/
def LbOnly (w : World) (e : Ending) (w' : World) : Prop := ∃ a c l, e = .returned (.slice a l.length c) ∧ l.length ≤ 18 ∧ l.length ≤ c ∧ c ≤ maxLen ∧ Sps w'.heap.size w' a l.length l ∧ Below w.heap.size w w'
def PuLb (w : World) (e : Ending) (w' : World) : Prop := ∃ a n c ps a2 c2 ls, e = .returned (.tuple #[.slice a n c, .slice a2 ls.length c2]) ∧ Lst w'.heap.size w' a n ps ∧ n ≤ 18 ∧ n ≤ c ∧ c ≤ maxLen ∧ ls.length ≤ 18 ∧ ls.length ≤ c2 ∧ c2 ≤ maxLen ∧ Sps w'.heap.size w' a2 ls.length ls ∧ Below w.heap.size w w'
theorem DrawGainOf_any (w : World) (a : Option Addr) (len cap : Nat) (h : Code w a len) (hcap : len ≤ cap) : Calls Try.prog 17 #[.slice a len cap] w (LbOnly w) := by
  go_enter Try.func17, Try.ntmps17
  go_wp2_with fail
  refine (newReader_any w a len cap h hcap).mono ?_
  rintro e w1 ⟨rfl, bl1, rd1⟩
  go_wp2_with fail
  refine (anyPulses_any _ _ _ _ rd1 (by omega)).mono ?_
  rintro e w2 ⟨a2, n2, c2, l2, rfl, h2, h3, h4, h5, h6, h7, h8, h9, h10⟩
  have T := Lib.hid (bl1.trans h8)
  go_wp2_with fail
  refine (someLabels_any _ _ _ _ _ _ l2 _ h7 (by omega) h2 h3 h10).mono ?_
  rintro e w3 ⟨a3, c3, l3, rfl, g1, g2, g3, g4, g5, g6, g7⟩
  have T3 := Lib.hid (And.intro g1 (And.intro g2 (And.intro g3 (And.intro g4 (T.out.trans g6)))))
  clear h2 h3 h4 h5 h6 h7 h8 h9 h10 g1 g2 g3 g4 g5 g6 g7
  go_wp2
  go_ret
  exact ⟨a3, c3, l3, rfl, T3.out⟩
theorem DrawLabelPulses_any (w : World) (a : Option Addr) (len cap : Nat) (h : Code w a len) (hcap : len ≤ cap) : Calls Try.prog 12 #[.slice a len cap] w (PuLb w) := by
  go_enter Try.func12, Try.ntmps12
  go_wp2_with fail
  refine (newReader_any w a len cap h hcap).mono ?_
  rintro e w1 ⟨rfl, bl1, rd1⟩
  go_wp2_with fail
  refine (anyPulses_any _ _ _ _ rd1 (by omega)).mono ?_
  rintro e w2 ⟨a2, n2, c2, l2, rfl, h2, h3, h4, h5, h6, h7, h8, h9, h10⟩
  have T := Lib.hid (bl1.trans h8)
  go_wp2_with fail
  refine (someLabels_any _ _ _ _ _ _ l2 _ h7 (by omega) h2 h3 h10).mono ?_
  rintro e w3 ⟨a3, c3, l3, rfl, g1, g2, g3, g4, g5, g6, g7⟩
  have T3 := Lib.hid (show Lst w3.heap.size w3 a2 n2 l2 ∧ n2 ≤ 18 ∧ n2 ≤ c2 ∧ c2 ≤ maxLen ∧ l3.length ≤ 18 ∧ l3.length ≤ c3 ∧ c3 ≤ maxLen ∧ Sps w3.heap.size w3 a3 l3.length l3 ∧ Below w.heap.size w w3 from ⟨h2.far g7 h10, h3, h4, h5, g1, g2, g3, g4, T.out.trans g6⟩)
  clear h2 h3 h4 h5 h6 h7 h8 h9 h10 g1 g2 g3 g4 g5 g6 g7
  go_wp2
  go_ret2
  exact ⟨a2, n2, c2, l2, a3, c3, l3, rfl, T3.out⟩
end Go.Proofs.Ytgbbbmljanlogaa
