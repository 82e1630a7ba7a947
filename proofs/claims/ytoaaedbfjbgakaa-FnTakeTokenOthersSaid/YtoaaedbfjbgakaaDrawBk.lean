/-
  The generators of buckets (chapter 15): some list of buckets, and nothing that was there has changed. Condition: the code has at most 1048576 bytes.
-/
import Derived.Test.YtoaaedbfjbgakaaSpecB
import Derived.Test.YtoaaedbfjbgakaaRow
import Derived.Deep.RegionHeld3
import Derived.Deep.RegionWith
namespace Go.Proofs.Ytoaaedbfjbgakaa
open Go.RowKit
set_option linter.unusedVariables false
set_option maxRecDepth 100000
theorem Rq.bks {B r m base : Nat} {w0 w : World} {v : Value} {l : List Q.Sm} (h : Rq 37 3 B w0 w r m base v l.length (v3 l)) (hk : l.length ≤ 1000) : ∃ a c, v = .slice a l.length c ∧ Sms w.heap.size w a l.length l ∧ l.length ≤ c ∧ c ≤ maxLen ∧ (0 < l.length → ∀ x, a = some x → r < x.block) := by
  rcases h.own.2 with ⟨hv, hn⟩ | ⟨g, cap, cur, hv, hb, hgg, hle, hcap, hcs, htk⟩
  · exact ⟨none, 0, by rw [hv, hn], by rw [hn]; exact ⟨hn, by omega, .inl rfl⟩, by omega, by unfold maxLen; omega, fun h => by omega⟩
  · refine ⟨some ⟨g, 0, none⟩, cap, hv, ⟨rfl, by omega, .inr ⟨g, 0, rfl, (Array.getElem?_eq_some_iff.1 hgg).1, fun i hi => ?_⟩⟩, hle, hcap, fun _ x hx => by injection hx with hx; subst hx; have := h.lo; show r < g; omega⟩
    have hc := h.own.cells (g := g) (by rw [hv]; rfl)
    have h0 := hc (i * 3) _ (v3_get l i hi).1
    have h1 := hc (i * 3 + 1) _ (v3_get l i hi).2.1
    have h2 := hc (i * 3 + 2) _ (v3_get l i hi).2.2
    have ad : ∀ j, (Addr.add ⟨g, 0, none⟩ j) = ⟨g, 0 + j, none⟩ := fun j => by unfold Addr.add; split <;> simp_all
    rw [ad] at h0 h1 h2
    exact ⟨h0, h1, h2⟩
theorem Rdr.under {B r m base : Nat} {w w' : World} (h : Rdr B w r m) (hb : Below base w w') (hr : r < base) : Rdr B w' r m := by
  obtain ⟨a, b, c, ⟨p, hp, hp2⟩, x, len, cap, hx, hl, hcode⟩ := h
  refine ⟨a, Nat.lt_of_lt_of_le b hb.size, (hb.frozen (p := ⟨r, 1, none⟩) hr).trans c, ⟨p, hp, (hb.cell (p := ⟨r, 1, none⟩) hr).trans hp2⟩, x, len, cap, (hb.cell (p := ⟨r, 0, none⟩) hr).trans hx, hl, ?_⟩
  rcases hcode with h0 | ⟨cb, off, rfl, hcb, hall⟩
  · exact .inl h0
  · refine .inr ⟨cb, off, rfl, hcb, fun i hi => ?_⟩
    obtain ⟨n, h0, h1, h2⟩ := hall i hi
    exact ⟨n, h0, h1, (hb.cell (p := ⟨cb, off + i, none⟩) (by show cb < base; omega)).trans h2⟩
theorem Rq.under {T : TypeId} {K B r m base n n' : Nat} {w0 w w' : World} {v v' : Value} {xs xs' : List Value} (h : Rq T K B w0 w r m base v n xs) (own : w'.ownsRow base T K v' n' xs') (hb : Below base w w') (h0 : w0.heap.size ≤ base) : Rq T K B w0 w' r m base v' n' xs' :=
  ⟨h.rdr.under hb h.lo, ⟨Nat.le_trans h.far.size hb.size, fun b hbb hr => (hb.block b (by omega)).trans (h.far.block b hbb hr)⟩, h.bel.trans (hb.mono (by have := h.rdr.low; have := h.lo; omega)), own, h.lo, Nat.le_trans h.hi hb.size⟩
theorem cell_alB {w : World} (o : Obj) {b j : Nat} {x : Value} (h : w.cell? ⟨b, j, none⟩ = some x) : (w.alloc o).cell? ⟨b, j, none⟩ = some x :=
  (((Below.refl w.heap.size w).alloc (Nat.le_refl _) o).cell (p := ⟨b, j, none⟩) (World.block_lt_of_cell? _ _ h)).trans h
theorem toldT3' {w w' : World} {d : List Q.Sm} {u v : Bool} {e : Ending} (h : ToldT w (d, u, v) e w') : ∃ a c, e = .returned (.tuple #[.slice a d.length c, .bool u, .bool v]) ∧ OwQ w.heap.size w' a c d ∧ Below w.heap.size w w' := h
theorem tt_valid {l : List Q.Sm} {c t : Int} {d : List Q.Sm} {u : Bool} (h : B.tt l c t = (d, u, true)) : B.bv d = true := by
  unfold B.tt at h
  split at h
  · rename_i hm
    split at h
    · injection h with h1 h2; rw [← h1]; exact hm.1
    · split at h
      · rename_i hv
        injection h with h1 h2; rw [← h1]; exact hv
      · injection h with h1 h2; injection h2 with h2 h3; cases h3
  · injection h with h1 h2; injection h2 with h2 h3; cases h3
/-- Moderate numbers. -/
def Sml (l : List Q.Sm) : Prop := ∀ i, i < l.length → (-1 ≤ Q.of l i ∧ Q.of l i ≤ 1000001) ∧ (-1 ≤ Q.de l i ∧ Q.de l i ≤ 1000001) ∧ (-1 ≤ Q.tm l i ∧ Q.tm l i ≤ 3786479999)
theorem sml_of {l : List Q.Sm} (h : B.bv l = true) : Sml l := fun i hi => by
  have := B.rng h hi
  unfold B.ok1 at this
  omega
theorem Sml.snoc {l : List Q.Sm} {x y z : Int} (h : Sml l) (hx : -1 ≤ x ∧ x ≤ 1000001) (hy : -1 ≤ y ∧ y ≤ 1000001) (hz : -1 ≤ z ∧ z ≤ 3786479999) : Sml (l ++ [(x, y, z)]) := fun i hi => by
  simp at hi
  rcases Nat.lt_or_ge i l.length with a | a
  · rw [(q_snoc_lt l _ i a).1, (q_snoc_lt l _ i a).2.1, (q_snoc_lt l _ i a).2.2]; exact h i a
  · obtain rfl : i = l.length := by omega
    rw [(q_snoc_eq l x y z).1, (q_snoc_eq l x y z).2.1, (q_snoc_eq l x y z).2.2]; exact ⟨hx, hy, hz⟩
/-- Some buckets that the call owns. -/
def SomeB (k B0 : Nat) (w : World) (r m : Nat) (e : Ending) (w' : World) : Prop := ∃ v l, e = .returned v ∧ l.length ≤ k ∧ B.bv l = true ∧ Rq 37 3 B0 w w' r m w.heap.size v l.length (v3 l)
set_option maxHeartbeats 4000000 in
theorem someBuckets_any (B0 r m : Nat) (w : World) (h : Rdr B0 w r m) (hm : m ≤ 500) : Calls Try.prog 53 #[.pointer (some ⟨r, 0, none⟩)] w (SomeB 8 B0 w r (m + 60)) := by
  go_enter Try.func53, Try.ntmps53
  have R0 : Rq 37 3 B0 w (w.alloc (.cells #[] 37)) r m w.heap.size (.slice (some ⟨w.heap.size, 0, none⟩) 0 0) 0 [] :=
    ⟨h.alloc _ _, (Far.refl _ _).alloc _, (Below.refl _ _).alloc h.le _, World.ownsRow_made w #[] 0 (Nat.le_refl _) (by unfold maxLen; omega) rfl, h.top, by simp⟩
  have HR0 := Lib.hid R0
  clear R0
  go_wp2_with fail
  refine (pick_any B0 r _ _ _ HR0.out.rdr (by omega)).mono ?_
  rintro e w2 ⟨k2, rfl, a2, b2, st2⟩
  have R2 := HR0.out.step st2
  have c2 : k2 ≤ 50 := by omega
  clear b2 st2 HR0
  go_wp2_with fail
  refine (one_any B0 r _ _ _ _ 0 20 _ (R2.alloc _ _).rdr (by omega) (by omega) (by omega) (by have := R2.rdr.top; omega) ?_).mono ?_
  · exact made_cells _ _ _ _ _ _ rfl (by simp [Ints])
  rintro e w3 ⟨z3, rfl, x3, y3, bl3, rd3, fr3⟩
  have R3 := (R2.alloc _ _).next rd3 bl3 fr3
  clear R2 bl3 rd3 fr3
  go_wp2_with fail
  go_loopw [3, 4, 5] (fun o t n wr => ∃ (v : Value) (l : List Q.Sm) (x z : Int), o = v ∧ t = .int .i64 x ∧ n = .int .i64 z ∧ 0 ≤ z ∧ z ≤ 20 ∧ (0 ≤ x ∧ x + 8 * z ≤ 51000) ∧ l.length ≤ 8 ∧ B.bv l = true ∧ Rq 37 3 B0 w wr r (m + 2 + (40 - 2 * z.toNat)) w.heap.size v l.length (v3 l)) (fun _ _ n _ => (intOf n).toNat)
  case atStart => exact ⟨_, [], _, z3, rfl, rfl, rfl, x3, y3, by omega, by simp, by decide, R3.mono (by omega)⟩
  case round =>
    obtain ⟨v, l, x, z, rfl, rfl, rfl, z0, z1, hx, hl, hbv, R⟩ := hrel
    clear R3
    obtain ⟨a, c, hv, hS, -⟩ := R.bks (by omega)
    subst hv
    by_cases hz : 0 < z
    · clear hS
      go_wp2_with fail
      refine (pick_any B0 r _ _ _ R.rdr (by omega)).mono ?_
      rintro e w4 ⟨k4, rfl, a4, b4, st4⟩
      have R4 := R.step st4
      clear b4 st4 R
      obtain ⟨a', c', hv, hS, -⟩ := R4.bks (by omega)
      injection hv with q1 q2 q3
      subst q1 q3
      clear q2
      go_wp2_with fail
      have hdl := (B.tt_len l k4 x).2
      have k1 := TT_spec l.length c a l k4 x w4 hS
      have hvl := fun d u (q : B.tt l k4 x = (d, u, true)) => tt_valid q
      generalize B.tt l k4 x = dd at *
      obtain ⟨d, u, v⟩ := dd
      dsimp only at hdl
      have HVL := Lib.hid (fun q : v = true => hvl d u (by rw [q]))
      clear hvl
      refine k1.mono ?_
      rintro e w5 hz_
      obtain ⟨a5, c5, rfl, O5, b5⟩ := toldT3' hz_
      have R5 := R4.under (O5.more R4.hi) (b5.mono R4.hi) (Nat.le_refl _)
      have R5' : Rq 37 3 B0 w w5 r (m + 2 + (40 - 2 * z.toNat) + 1) w.heap.size (.slice a l.length c) l.length (v3 l) := R4.next R5.rdr (b5.mono (by have := R4.rdr.low; have := R4.lo; have := R4.hi; omega)) ⟨b5.size, fun b hb _ => b5.block b hb⟩
      clear hz_ O5 b5 R4 hS k1
      rcases v with _ | _
      · clear R5
        go_wp2_with fail
        refine (one_any B0 r _ _ _ _ 0 8 _ (R5'.alloc _ _).rdr (by omega) (by omega) (by omega) (by have := R5'.rdr.top; omega) ?_).mono ?_
        · exact made_cells _ _ _ _ _ _ rfl (by simp [Ints])
        rintro e w6 ⟨z6, rfl, x6, y6, bl6, rd6, fr6⟩
        have R6 := (R5'.alloc _ _).next rd6 bl6 fr6
        clear R5' bl6 rd6 fr6
        go_wp2
        go_roundw
        case rel => exact ⟨_, l, _, z - 1, rfl, rfl, rfl, by omega, by omega, by omega, hl, hbv, R6.mono (by omega)⟩
        case measure => simp [intOf]; omega
      · clear R5'
        go_wp2_with fail
        refine (one_any B0 r _ _ _ _ 0 8 _ (R5.alloc _ _).rdr (by omega) (by omega) (by omega) (by have := R5.rdr.top; omega) ?_).mono ?_
        · exact made_cells _ _ _ _ _ _ rfl (by simp [Ints])
        rintro e w6 ⟨z6, rfl, x6, y6, bl6, rd6, fr6⟩
        have R6 := (R5.alloc _ _).next rd6 bl6 fr6
        clear R5 bl6 rd6 fr6
        go_wp2
        go_roundw
        case rel => exact ⟨_, d, _, z - 1, rfl, rfl, rfl, by omega, by omega, by omega, hdl, by first | exact HVL.out trivial | exact HVL.out rfl | simpa using HVL.out, R6.mono (by omega)⟩
        case measure => simp [intOf]; omega
    · have R9 := Lib.hid (R.mono (show m + 2 + (40 - 2 * z.toNat) ≤ m + 60 by omega))
      clear R hS
      go_wp2
      go_ret
      exact ⟨_, l, rfl, hl, hbv, R9.out⟩
/-- Some buckets, as a caller takes them. -/
def AnyB (B : Nat) (w : World) (r m : Nat) (e : Ending) (w' : World) : Prop := ∃ a c l, e = .returned (.slice a l.length c) ∧ l.length ≤ 9 ∧ l.length ≤ c ∧ c ≤ maxLen ∧ Sms w'.heap.size w' a l.length l ∧ Sml l ∧ Rdr B w' r m ∧ Below B w w' ∧ Far w r w' ∧ (0 < l.length → ∀ x, a = some x → r < x.block)
set_option maxHeartbeats 4000000 in
theorem anyBuckets_any (B r m : Nat) (w : World) (h : Rdr B w r m) (hm : m ≤ 500) : Calls Try.prog 38 #[.pointer (some ⟨r, 0, none⟩)] w (AnyB B w r (m + 80)) := by
  obtain ⟨i0, hi0, hz0, hz1, hz2⟩ := info_parts bucket_info
  have hI := Lib.hid hi0
  have hZ0 := Lib.hid hz0
  have hZ1 := Lib.hid hz1
  have hZ2 := Lib.hid hz2
  clear hi0 hz0 hz1 hz2
  go_enter Try.func38, Try.ntmps38
  go_wp2_with fail
  refine (someBuckets_any B r _ _ h (by omega)).mono ?_
  rintro e w2 ⟨v, l, rfl, hl, hbv, R9⟩
  go_wp2_with fail
  refine (pick_any B r _ _ _ R9.rdr (by omega)).mono ?_
  rintro e w3 ⟨k3, rfl, a3, b3, st3⟩
  have R3 := R9.step st3
  clear b3 R9
  by_cases h0 : k3 = 0
  · subst h0
    go_wp2_with fail
    refine (one_any B r _ _ _ _ (-1) 1000001 _ (st3.rdr.alloc _ _) (by omega) (by omega) (by omega) (by have := st3.rdr.top; omega) ?_).mono ?_
    · exact made_cells _ _ _ _ _ _ rfl (by simp [Ints])
    rintro e w5 ⟨z5, rfl, x5, y5, bl5, rd5, fr5⟩
    have R5 := (R3.alloc _ _).next rd5 bl5 fr5
    clear R3 st3 bl5 fr5
    go_wp2_with fail
    refine (one_any B r _ _ _ _ (-1) 1000001 _ (rd5.alloc _ _) (by omega) (by omega) (by omega) (by have := rd5.top; omega) ?_).mono ?_
    · exact made_cells _ _ _ _ _ _ rfl (by simp [Ints])
    rintro e w6 ⟨z6, rfl, x6, y6, bl6, rd6, fr6⟩
    have R6 := (R5.alloc _ _).next rd6 bl6 fr6
    clear R5 rd5 bl6 fr6
    go_wp2_with fail
    refine (one_any B r _ _ _ _ (-1) 1000001 _ (rd6.alloc _ _) (by omega) (by omega) (by omega) (by have := rd6.top; omega) ?_).mono ?_
    · exact made_cells _ _ _ _ _ _ rfl (by simp [Ints])
    rintro e w7 ⟨z7, rfl, x7, y7, bl7, rd7, fr7⟩
    have R7 := (R6.alloc _ _).next rd7 bl7 fr7
    clear R6 rd6 rd7 bl7 fr7
    go_wp2_with (at_builtin; refine wpList_append_own _ rfl _ _ 25 rfl w.heap.size 37 i0 (.agg #[.int .i64 0, .int .i64 0, .int .i64 0]) 3 24 Try.underlying25 hI.out hZ0.out hZ1.out hZ2.out rfl (by decide) _ _ _ rfl (R7.own.alloc _) ⟨w7.heap.size, 0, none⟩ 1 1 [.int .i64 z5, .int .i64 z6, .int .i64 z7] rfl rfl (World.news_of_block (heap_alloc_new w7 _)) (by intro u hu; simp at hu; rcases hu with rfl | rfl | rfl <;> rfl) (by unfold maxLen; omega) (by omega) (by have := R7.hi; simp; omega) ?_)
    intro v8 w8 own8 hg8 _
    rw [v3_snoc] at own8
    have R8 := (R7.alloc #[.int .i64 z5, .int .i64 z6, .int .i64 z7] 37).grown own8 hg8 (Nat.le_refl _)
    have hll : (l ++ [(z5, z6, z7)]).length = l.length + 1 := by simp
    rw [← hll] at R8
    obtain ⟨a, c, hv, hS, hc1', hc2, hc3⟩ := R8.bks (by omega)
    have HF := Lib.hid (And.intro (show (l ++ [(z5, z6, z7)]).length ≤ 9 by omega) (And.intro hc1' (And.intro hc2 (And.intro hS (And.intro ((sml_of hbv).snoc (x := z5) (y := z6) (z := z7) (by omega) (by omega) (by omega)) (And.intro (R8.mono (show _ ≤ m + 80 by omega)).rdr (And.intro R8.bel (And.intro R8.far hc3))))))))
    subst hv
    clear own8 hg8 R7 R8 hS hc3
    go_wp2
    go_ret
    exact ⟨a, c, _, rfl, HF.out⟩
  · have h0' : (k3 == 0) = false := by simpa using h0
    clear h0
    obtain ⟨a, c, hv, hS, hc1', hc2, hc3⟩ := R3.bks (by omega)
    have HF := Lib.hid (And.intro (show l.length ≤ 9 by omega) (And.intro hc1' (And.intro hc2 (And.intro hS (And.intro (sml_of hbv) (And.intro (R3.mono (show _ ≤ m + 80 by omega)).rdr (And.intro R3.bel (And.intro R3.far hc3))))))))
    subst hv
    clear R3 hS hc3 st3
    go_wp2
    go_ret
    exact ⟨a, c, l, rfl, HF.out⟩
/-- Buckets out of a code. -/
def BkOnly (w : World) (e : Ending) (w' : World) : Prop := ∃ a c l, e = .returned (.slice a l.length c) ∧ l.length ≤ 9 ∧ l.length ≤ c ∧ c ≤ maxLen ∧ Sms w'.heap.size w' a l.length l ∧ Below w.heap.size w w' ∧ (0 < l.length → ∀ x, a = some x → w.heap.size < x.block)
def BkCt (w : World) (e : Ending) (w' : World) : Prop := ∃ a c l x t, e = .returned (.tuple #[.slice a l.length c, .int .i64 x, .int .i64 t]) ∧ (-2 ≤ x ∧ x ≤ 1000001) ∧ (-2 ≤ t ∧ t ≤ 3787480001) ∧ l.length ≤ 9 ∧ l.length ≤ c ∧ c ≤ maxLen ∧ Sms w'.heap.size w' a l.length l ∧ Below w.heap.size w w'
def BkT (w : World) (e : Ending) (w' : World) : Prop := ∃ a c l t, e = .returned (.tuple #[.slice a l.length c, .int .i64 t]) ∧ (-10000000000 ≤ t ∧ t ≤ 10000000000) ∧ l.length ≤ 9 ∧ l.length ≤ c ∧ c ≤ maxLen ∧ Sms w'.heap.size w' a l.length l ∧ Below w.heap.size w w'
theorem DrawValidBuckets_any (w : World) (a : Option Addr) (len cap : Nat) (h : Code w a len) (hcap : len ≤ cap) : Calls Try.prog 21 #[.slice a len cap] w (BkOnly w) := by
  go_enter Try.func21, Try.ntmps21
  go_wp2_with fail
  refine (newReader_any w a len cap h hcap).mono ?_
  rintro e w1 ⟨rfl, bl1, rd1⟩
  go_wp2_with fail
  refine (anyBuckets_any _ _ _ _ rd1 (by omega)).mono ?_
  rintro e w2 ⟨a2, c2, l, rfl, hl, hc, hm, hS, sm, rd, bl, fr, hr⟩
  have T := Lib.hid (And.intro hl (And.intro hc (And.intro hm (And.intro hS (And.intro (bl1.trans bl) hr)))))
  clear hl hc hm hS rd bl fr hr bl1
  go_wp2
  go_ret
  exact ⟨a2, c2, l, rfl, T.out⟩
end Go.Proofs.Ytoaaedbfjbgakaa
