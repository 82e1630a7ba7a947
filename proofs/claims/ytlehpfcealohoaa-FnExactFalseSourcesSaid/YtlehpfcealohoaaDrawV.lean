/-
  The generators of spans: some list of spans of moderate numbers, and nothing that was there has changed. Condition: the code has at most 1048576 bytes.
-/
import Derived.Test.YtlehpfcealohoaaRow
import Derived.Test.YtlehpfcealohoaaSpan
import Derived.Test.YtlehpfcealohoaaV2
import Derived.Deep.RegionHeld3
import Derived.Deep.RegionWith
namespace Go.Proofs.Ytlehpfcealohoaa
open Go.RowKit
set_option linter.unusedVariables false
theorem span_info : (Try.prog.info? 26).map (fun i => (i.zero, i.size, i.bytes)) = some (some (.agg #[.int .i64 0, .int .i64 0]), 2, 16) := by kernel_rfl
theorem Rq.sps {B r m base : Nat} {w0 w : World} {v : Value} {l : List (Int × Int)} (h : Rq 26 2 B w0 w r m base v l.length (v2 l)) (hk : l.length ≤ 1000) : ∃ a c, v = .slice a l.length c ∧ Sps w.heap.size w a l.length l ∧ l.length ≤ c ∧ c ≤ maxLen ∧ (0 < l.length → ∀ x, a = some x → r < x.block) := by
  rcases h.own.2 with ⟨hv, hn⟩ | ⟨g, cap, cur, hv, hb, hgg, hle, hcap, hcs, htk⟩
  · exact ⟨none, 0, by rw [hv, hn], by rw [hn]; exact ⟨hn, by omega, .inl rfl⟩, by omega, by unfold maxLen; omega, fun h => by omega⟩
  · refine ⟨some ⟨g, 0, none⟩, cap, hv, ⟨rfl, by omega, .inr ⟨g, 0, rfl, (Array.getElem?_eq_some_iff.1 hgg).1, fun i hi => ?_⟩⟩, hle, hcap, fun _ x hx => by injection hx with hx; subst hx; have := h.lo; show r < g; omega⟩
    have hc := h.own.cells (g := g) (by rw [hv]; rfl)
    have h0 := hc (i * 2) _ (v2_get l i hi).1
    have h1 := hc (i * 2 + 1) _ (v2_get l i hi).2
    rw [show (Addr.add ⟨g, 0, none⟩ (i * 2)) = ⟨g, 0 + i * 2, none⟩ from by unfold Addr.add; split <;> simp_all] at h0
    rw [show (Addr.add ⟨g, 0, none⟩ (i * 2 + 1)) = ⟨g, 0 + i * 2 + 1, none⟩ from by unfold Addr.add; split <;> (simp_all; try omega)] at h1
    exact ⟨h0, h1⟩
set_option maxHeartbeats 2000000 in
theorem anySpans_any (B r m : Nat) (w : World) (h : Rdr B w r m) (hm : m ≤ 900) : Calls Try.prog 22 #[.pointer (some ⟨r, 0, none⟩)] w fun e w' => ∃ a c l, e = .returned (.slice a l.length c) ∧ l.length ≤ 8 ∧ l.length ≤ c ∧ c ≤ maxLen ∧ Sps w'.heap.size w' a l.length l ∧ Small2 l ∧ Rdr B w' r (m + 60) ∧ Below B w w' ∧ Far w r w' ∧ (0 < l.length → ∀ x, a = some x → r < x.block) := by
  obtain ⟨i0, hi0, hz0, hz1, hz2⟩ := info_parts span_info
  have hI := Lib.hid hi0
  have hZ0 := Lib.hid hz0
  have hZ1 := Lib.hid hz1
  have hZ2 := Lib.hid hz2
  clear hi0 hz0 hz1 hz2
  go_enter Try.func22, Try.ntmps22
  have R0 : Rq 26 2 B w (w.alloc (.cells #[] 26)) r m w.heap.size (.slice (some ⟨w.heap.size, 0, none⟩) 0 0) 0 [] :=
    ⟨h.alloc _ _, (Far.refl _ _).alloc _, (Below.refl _ _).alloc h.le _, World.ownsRow_made w #[] 0 (Nat.le_refl _) (by unfold maxLen; omega) rfl, h.top, by simp⟩
  have HR0 := Lib.hid R0
  clear R0
  go_wp2_with fail
  refine (pick_any B r _ _ _ HR0.out.rdr (by omega)).mono ?_
  rintro e w1 ⟨k1, rfl, a1, b1, st1⟩
  have R1 := HR0.out.step st1
  have c1 : k1 ≤ 40 := by omega
  clear b1 HR0
  go_wp2_with fail
  refine (one_any B r _ _ _ _ 0 8 _ (st1.rdr.alloc _ _) (by omega) (by omega) (by omega) (by have := st1.rdr.top; omega) ?_).mono ?_
  · exact made_cells _ _ _ _ _ _ rfl (by simp [Ints])
  rintro e w2 ⟨z2, rfl, x2, y2, bl2, rd2, fr2⟩
  have R2 := (R1.alloc _ _).next rd2 bl2 fr2
  have HT := Lib.hid st1
  clear R1 bl2 rd2 fr2 st1
  go_wp2_with fail
  have hmid : -200 ≤ 10 * (k1 - 20) ∧ 10 * (k1 - 20) ≤ 200 := by omega
  generalize 10 * (k1 - 20) = q at *
  go_loopw [3, 5] (fun o n wr => ∃ (v : Value) (l : List (Int × Int)) (z : Int), o = v ∧ n = .int .i64 z ∧ 0 ≤ z ∧ z + l.length ≤ 8 ∧ Small2 l ∧ Rq 26 2 B w wr r (m + 2 + 4 * l.length) w.heap.size v l.length (v2 l)) (fun _ n _ => (intOf n).toNat)
  case atStart => exact ⟨_, [], z2, rfl, rfl, x2, by simpa using y2, Small2.nil, R2.mono (by simp)⟩
  case round =>
    obtain ⟨v, l, z, rfl, rfl, z0, z1, hsm, R⟩ := hrel
    clear R2
    by_cases hz : 0 < z
    · have hl : l.length ≤ 7 := by omega
      go_wp2_with fail
      refine (pick_any B r _ _ _ R.rdr (by omega)).mono ?_
      rintro e w3 ⟨k2, rfl, a2, b2, st2⟩
      have R3 := R.step st2
      have c2 : k2 ≤ 30 := by omega
      clear b2 R
      go_wp2_with fail
      refine (pick_any B r _ _ _ st2.rdr (by omega)).mono ?_
      rintro e w4 ⟨k3, rfl, a3, b3, st3⟩
      have R4 := R3.step st3
      clear b3 R3 st2
      by_cases h0 : k3 = 0
      · subst h0
        go_wp2_with fail
        refine (pick_any B r _ _ _ st3.rdr (by omega)).mono ?_
        rintro e w8 ⟨k4, rfl, a4, b4, st4⟩
        have R8 := R4.step st4
        have c4 : k4 ≤ 100 := by omega
        clear b4 R4 st3
        go_wp2_with fail
        refine (one_any B r _ _ _ _ 0 100 _ (st4.rdr.alloc _ _) (by omega) (by omega) (by omega) (by have := st4.rdr.top; omega) ?_).mono ?_
        · exact made_cells _ _ _ _ _ _ rfl (by simp [Ints])
        rintro e w5 ⟨z5, rfl, x5, y5, bl5, rd5, fr5⟩
        have R5 := (R8.alloc _ _).next rd5 bl5 fr5
        clear R8 bl5 rd5 fr5 st4
        go_wp2_with (at_builtin; refine wpList_append_own _ rfl _ _ 23 rfl w.heap.size 26 i0 (.agg #[.int .i64 0, .int .i64 0]) 2 16 Try.underlying23 hI.out hZ0.out hZ1.out hZ2.out rfl (by decide) _ _ _ rfl (R5.own.alloc _) ⟨w5.heap.size, 0, none⟩ 1 1 [.int .i64 (q + 50 + k4), .int .i64 (q + 50 + k4 + z5)] rfl rfl (World.news_of_block (heap_alloc_new w5 _)) (by intro u hu; simp at hu; rcases hu with rfl | rfl <;> rfl) (by unfold maxLen; omega) (by omega) (by have := R5.hi; simp; omega) ?_)
        intro v6 w6 own6 hg6 _
        rw [v2_snoc] at own6
        have R6 := (R5.alloc #[.int .i64 (q + 50 + k4), .int .i64 (q + 50 + k4 + z5)] 26).grown own6 hg6 (by have := R5.size; omega)
        have hll := Lib.hid (show (l ++ [(q + 50 + k4, q + 50 + k4 + z5)]).length = l.length + 1 by simp)
        have HS := Lib.hid (hsm.snoc (x := q + 50 + k4) (y := q + 50 + k4 + z5) (by omega) (by omega))
        rw [← hll.out] at R6
        have R7 := Lib.hid (R6.mono (show _ ≤ m + 2 + 4 * (l ++ [(q + 50 + k4, q + 50 + k4 + z5)]).length by rw [hll.out]; omega))
        clear own6 hg6 R5 R6
        go_wp2
        go_roundw
        case rel => exact ⟨_, l ++ [(q + 50 + k4, q + 50 + k4 + z5)], z - 1, rfl, rfl, by omega, by have := hll.out; omega, HS.out, R7.out⟩
        case measure => simp [intOf]; omega
      · have h0' : (k3 == 0) = false := by simpa using h0
        clear h0
        go_wp2_with fail
        refine (one_any B r _ _ _ _ 0 100 _ (st3.rdr.alloc _ _) (by omega) (by omega) (by omega) (by have := st3.rdr.top; omega) ?_).mono ?_
        · exact made_cells _ _ _ _ _ _ rfl (by simp [Ints])
        rintro e w5 ⟨z5, rfl, x5, y5, bl5, rd5, fr5⟩
        have R5 := (R4.alloc _ _).next rd5 bl5 fr5
        clear R4 bl5 rd5 fr5 st3
        go_wp2_with (at_builtin; refine wpList_append_own _ rfl _ _ 23 rfl w.heap.size 26 i0 (.agg #[.int .i64 0, .int .i64 0]) 2 16 Try.underlying23 hI.out hZ0.out hZ1.out hZ2.out rfl (by decide) _ _ _ rfl (R5.own.alloc _) ⟨w5.heap.size, 0, none⟩ 1 1 [.int .i64 (q - k2), .int .i64 (q - k2 + z5)] rfl rfl (World.news_of_block (heap_alloc_new w5 _)) (by intro u hu; simp at hu; rcases hu with rfl | rfl <;> rfl) (by unfold maxLen; omega) (by omega) (by have := R5.hi; simp; omega) ?_)
        intro v6 w6 own6 hg6 _
        rw [v2_snoc] at own6
        have R6 := (R5.alloc #[.int .i64 (q - k2), .int .i64 (q - k2 + z5)] 26).grown own6 hg6 (by have := R5.size; omega)
        have hll := Lib.hid (show (l ++ [(q - k2, q - k2 + z5)]).length = l.length + 1 by simp)
        have HS := Lib.hid (hsm.snoc (x := q - k2) (y := q - k2 + z5) (by omega) (by omega))
        rw [← hll.out] at R6
        have R7 := Lib.hid (R6.mono (show _ ≤ m + 2 + 4 * (l ++ [(q - k2, q - k2 + z5)]).length by rw [hll.out]; omega))
        clear own6 hg6 R5 R6
        go_wp2
        go_roundw
        case rel => exact ⟨_, l ++ [(q - k2, q - k2 + z5)], z - 1, rfl, rfl, by omega, by have := hll.out; omega, HS.out, R7.out⟩
        case measure => simp [intOf]; omega
    · have hl8 : l.length ≤ 8 := by omega
      have R9 := R.mono (show m + 2 + 4 * l.length ≤ m + 40 by omega)
      have hF : w.heap.size ≤ w.heap.size := Nat.le_refl _
      clear R
      generalize hQ : w.heap.size = base at R9 hF
      have HQ := Lib.hid hQ
      clear hQ
      rcases Nat.eq_zero_or_pos l.length with h0 | h0
      · obtain ⟨a, c, hv, hS, hc1, hc2, hc3⟩ := R9.sps (by omega)
        subst hv
        have hn : ¬ (0 : Int) < (l.length : Int) := by omega
        have HF := Lib.hid (And.intro hl8 (And.intro hc1 (And.intro hc2 (And.intro hS (And.intro hsm (And.intro (R9.mono (show m + 40 ≤ m + 60 by omega)).rdr (And.intro R9.bel (And.intro R9.far hc3))))))))
        clear R9 hS hsm hc3
        go_wp2
        go_ret
        exact ⟨a, c, l, by rw [h0]; rfl, HF.out⟩
      · have hp : (0 : Int) < (l.length : Int) := by omega
        obtain ⟨g, cap, hv, hg0, hg1⟩ := R9.own.form h0
        subst hv
        go_wp2_with fail
        refine (pick_any B r _ _ _ R9.rdr (by omega)).mono ?_
        rintro e w3 ⟨k2, rfl, a2, b2, st2⟩
        have R3 := R9.step st2
        clear b2 R9
        by_cases hk : k2 = 0
        · subst hk
          go_wp2_with fail
          refine (pick_any B r _ _ _ st2.rdr (by omega)).mono ?_
          rintro e w4 ⟨k3, rfl, a3, b3, st3⟩
          have R4 := R3.step st3
          obtain ⟨j, rfl⟩ := Int.eq_ofNat_of_zero_le a3
          have hj : j < l.length := by omega
          clear b3 R3 st2
          go_wp2_with fail
          refine (one_any B r _ _ _ _ (-1000001) 1000001 _ (st3.rdr.alloc _ _) (by omega) (by omega) (by omega) (by have := st3.rdr.top; omega) ?_).mono ?_
          · exact made_cells _ _ _ _ _ _ rfl (by simp [Ints])
          rintro e w5 ⟨z5, rfl, x5, y5, bl5, rd5, fr5⟩
          have R5 := (R4.alloc _ _).next rd5 bl5 fr5
          clear R4 st3 bl5 fr5
          go_wp2_with fail
          refine (one_any B r _ _ _ _ (-1000001) 1000001 _ (rd5.alloc _ _) (by omega) (by omega) (by omega) (by have := rd5.top; omega) ?_).mono ?_
          · exact made_cells _ _ _ _ _ _ rfl (by simp [Ints])
          rintro e w6 ⟨z6, rfl, x6, y6, bl6, rd6, fr6⟩
          have R6 := (R5.alloc _ _).next rd6 bl6 fr6
          clear R5 rd5 bl6 fr6
          have hc0 := R6.own.cellAt (j * 2) (by omega)
          rw [(v2_get l j hj).1] at hc0
          have hc1 := R6.own.cellAt (j * 2 + 1) (by omega)
          rw [(v2_get l j hj).2] at hc1
          have hf0 := R6.own.frozenAt (j * 2)
          have hf1 := R6.own.frozenAt (j * 2 + 1)
          have hs := R6.own.stored (j * 2) (.int .i64 z5)
          have R7 := R6.grown hs.1 hs.2 (by have := HQ.out; omega)
          have hs2 := R7.own.stored (j * 2 + 1) (.int .i64 z6)
          have R8 := R7.grown hs2.1 hs2.2 (by have := HQ.out; omega)
          rw [v2_set] at R8
          have hll : (l.set j (z5, z6)).length = l.length := by simp
          rw [← hll] at R8
          obtain ⟨a, c, hv, hS, hc1', hc2, hc3⟩ := R8.sps (by omega)
          have HF := Lib.hid (And.intro (show (l.set j (z5, z6)).length ≤ 8 by omega) (And.intro hc1' (And.intro hc2 (And.intro hS (And.intro (hsm.set (x := z5) (y := z6) (by omega) (by omega) j) (And.intro (R8.mono (show _ ≤ m + 60 by omega)).rdr (And.intro R8.bel (And.intro R8.far hc3))))))))
          have HV := Lib.hid hv
          clear R6 R7 R8 hs hs2 hS hc3 hsm hv hll
          go_wp2
          go_ret
          exact ⟨a, c, l.set j (z5, z6), by rw [← HV.out]; simp, HF.out⟩
        · have hk' : (k2 == 0) = false := by simpa using hk
          obtain ⟨a, c, hv, hS, hc1, hc2, hc3⟩ := R3.sps (by omega)
          have HF := Lib.hid (And.intro hl8 (And.intro hc1 (And.intro hc2 (And.intro hS (And.intro hsm (And.intro (R3.mono (show _ ≤ m + 60 by omega)).rdr (And.intro R3.bel (And.intro R3.far hc3))))))))
          have HV := Lib.hid hv
          clear R3 hS hsm hc3 hv hk
          go_wp2
          go_ret
          exact ⟨a, c, l, by rw [← HV.out]; rfl, HF.out⟩
theorem Sps.far {w w' : World} {a : Option Addr} {n r : Nat} {l : List (Int × Int)} (h : Sps w.heap.size w a n l) (fr : Far w r w') (hr : 0 < n → ∀ x, a = some x → r < x.block) : Sps w'.heap.size w' a n l := by
  refine ⟨h.1, h.2.1, ?_⟩
  rcases Nat.eq_zero_or_pos n with h0 | h0
  · exact .inl h0
  · obtain ⟨b, off, e, hb, hc⟩ := h.at_ 0 h0
    have hbr : r < b := hr h0 _ e
    exact .inr ⟨b, off, e, Nat.lt_of_lt_of_le hb fr.size, fun i hi => ⟨(fr.cell b (off + i * 2) hb (by omega)).trans (hc i hi).1, (fr.cell b (off + i * 2 + 1) hb (by omega)).trans (hc i hi).2⟩⟩
/-- Some list of spans, made by the call. -/
def SpOnly (w : World) (e : Ending) (w' : World) : Prop := ∃ a c l, e = .returned (.slice a l.length c) ∧ l.length ≤ 8 ∧ l.length ≤ c ∧ c ≤ maxLen ∧ Sps w'.heap.size w' a l.length l ∧ Small2 l ∧ Below w.heap.size w w' ∧ (0 < l.length → ∀ x, a = some x → w.heap.size < x.block)
/-- Some list of spans, and a number. -/
def SpNum (w : World) (e : Ending) (w' : World) : Prop := ∃ a c l t, e = .returned (.tuple #[.slice a l.length c, .int .i64 t]) ∧ l.length ≤ 8 ∧ l.length ≤ c ∧ c ≤ maxLen ∧ Sps w'.heap.size w' a l.length l ∧ Small2 l ∧ Below w.heap.size w w' ∧ (0 < l.length → ∀ x, a = some x → w.heap.size < x.block) ∧ (-3000000 ≤ t ∧ t ≤ 3000000)
theorem DrawAgreedSpan_any (w : World) (a : Option Addr) (len cap : Nat) (h : Code w a len) (hcap : len ≤ cap) : Calls Try.prog 6 #[.slice a len cap] w (SpOnly w) := by
  go_enter Try.func6, Try.ntmps6
  go_wp2_with fail
  refine (newReader_any w a len cap h hcap).mono ?_
  rintro e w1 ⟨rfl, bl1, rd1⟩
  go_wp2_with fail
  refine (anySpans_any _ _ _ _ rd1 (by omega)).mono ?_
  rintro e w2 ⟨a2, c2, l2, rfl, hl, hc, hm, hS, sm, rd, bl, fr, hr⟩
  have T := Lib.hid (And.intro hl (And.intro hc (And.intro hm (And.intro hS (And.intro sm (And.intro (bl1.trans bl) hr))))))
  clear hS bl fr hr sm
  go_wp2
  go_ret
  exact ⟨a2, c2, l2, rfl, T.out⟩
theorem DrawFalseSources_any (w : World) (a : Option Addr) (len cap : Nat) (h : Code w a len) (hcap : len ≤ cap) : Calls Try.prog 9 #[.slice a len cap] w (SpOnly w) := by
  go_enter Try.func9, Try.ntmps9
  go_wp2_with fail
  refine (newReader_any w a len cap h hcap).mono ?_
  rintro e w1 ⟨rfl, bl1, rd1⟩
  go_wp2_with fail
  refine (anySpans_any _ _ _ _ rd1 (by omega)).mono ?_
  rintro e w2 ⟨a2, c2, l2, rfl, hl, hc, hm, hS, sm, rd, bl, fr, hr⟩
  have T := Lib.hid (And.intro hl (And.intro hc (And.intro hm (And.intro hS (And.intro sm (And.intro (bl1.trans bl) hr))))))
  clear hS bl fr hr sm
  go_wp2
  go_ret
  exact ⟨a2, c2, l2, rfl, T.out⟩
theorem tdiv2 (x : Int) (h : -4000000 ≤ x ∧ x ≤ 4000000) : -2000000 ≤ x.tdiv 2 ∧ x.tdiv 2 ≤ 2000000 := by
  rcases Int.le_total 0 x with h0 | h0
  · rw [Int.tdiv_eq_ediv_of_nonneg h0]; omega
  · have e : x.tdiv 2 = -((-x).tdiv 2) := by rw [Int.neg_tdiv, Int.neg_neg]
    rw [e, Int.tdiv_eq_ediv_of_nonneg (by omega)]; omega
end Go.Proofs.Ytlehpfcealohoaa
