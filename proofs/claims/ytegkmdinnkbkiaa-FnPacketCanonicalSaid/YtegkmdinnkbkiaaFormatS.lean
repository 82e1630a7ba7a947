/-
  Packets (chapter 10): the bytes of a packet; the model's function.
-/
import Derived.Test.YtegkmdinnkbkiaaFormat
import Derived.Deep.AppendLies
import Derived.WalkSpells
namespace Go.Proofs.Ytegkmdinnkbkiaa
open Go.RowKit
set_option linter.unusedVariables false
set_option maxRecDepth 100000
theorem u8s_info : (Try.prog.info? 5).map (fun i => (i.zero, i.size, i.bytes)) = some (some (.int .u8 0), 1, 1) := by kernel_rfl
set_option maxHeartbeats 1000000 in
theorem bo_spec (m : Nat) (v : Int) (w : World) (hm : 1 ≤ m ∧ m ≤ 6) (hv : 0 ≤ v ∧ v ≤ 1000000000000000) : Calls Try.prog 21 #[.int .i64 v, .int .i64 m] w fun r w' =>
    r = .returned (.slice (some ⟨w.heap.size, 0, none⟩) m m) ∧ Below w.heap.size w w' ∧ w.heap.size < w'.heap.size ∧ ∀ i, i < m → w'.cell? ⟨w.heap.size, i, none⟩ = some (.int .u8 (D.dg v (m - 1 - i))) := by
  obtain ⟨i0, hi0, hz0, hz1, hz2⟩ := info_parts u8s_info
  obtain ⟨w3, hrun, own3, hg3⟩ := run_make_full (P := Try.prog) w w.heap.size 22 5 i0 (.int .u8 0) 1 Try.underlying22 hi0 hz0 hz1 .i64 .i64 m (by rw [hz2]; omega) (by unfold maxLen; omega) (Nat.le_refl _)
  have hb3 : Below w.heap.size w w3 := (Below.refl _ _).grown hg3 (Nat.le_refl _) (fun k hk => by cases hk)
  rw [show (Value.int IntKind.u8 0).cells = #[.int .u8 0] from rfl, toList_madeCells_one, Nat.mul_one] at own3
  have hcur : ∀ i, i < m → w3.cell? ⟨w.heap.size, 0 + i, none⟩ = some (.int .u8 0) ∧ w3.frozen? ⟨w.heap.size, 0 + i, none⟩ = false := fun i hi => by
    have h1 := own3.cellAt i (by omega)
    rw [List.getElem?_replicate, if_pos hi] at h1
    rw [Nat.zero_add]
    exact ⟨h1, own3.frozenAt i⟩
  have HC := Lib.hid hcur
  have HB := Lib.hid hb3
  clear own3 hg3 hi0 hz0 hz1 hz2 hcur hb3
  generalize hE : w.heap.size = E at *
  go_enter Try.func21, Try.ntmps21
  go_wp2
  go_loopw [0, 6] (fun x y wr => ∃ k : Nat, k ≤ m ∧ x = .int .i64 (D.cut v (m - k)) ∧ y = .int .i64 ((k : Int) - 1) ∧ Wr w3 wr E 0 m k (fun i => D.dg v (m - 1 - i))) (fun _ y _ => (intOf y + 1).toNat)
  case atStart => exact ⟨m, Nat.le_refl _, by rw [Nat.sub_self]; rfl, by go_num, Wr.refl _ _ _ _ _⟩
  case round =>
    obtain ⟨k, hk, rfl, rfl, hW⟩ := hrel
    by_cases hk0 : 0 < k
    · obtain ⟨j, rfl⟩ : ∃ j, k = j + 1 := ⟨k - 1, by omega⟩
      have hj : j < m := by omega
      obtain ⟨hx, hfx⟩ := HC.out j hj
      have hx' := (hW.oth E (0 + j) (by omega)).trans hx
      have hf' := (hW.fro E (0 + j)).trans hfx
      have hcut := D.cut_nn hv.1 (m - (j + 1))
      have hcut2 := D.cut_le hv.1 hv.2 (m - (j + 1))
      have e1 : D.cut v (m - (j + 1)) % 256 = D.dg v (m - 1 - j) := by rw [show m - (j + 1) = m - 1 - j by omega]; rfl
      have e2 : D.dg v (m - 1 - j) % 256 = D.dg v (m - 1 - j) := by have := D.dg_bd v (m - 1 - j); omega
      have HE := Lib.hid (show D.cut v (m - (j + 1)) / 256 = D.cut v (m - j) by rw [show m - j = (m - (j + 1)) + 1 by omega]; rfl)
      have hjn : (j : Int) < (m : Int) := by omega
      have hi : ((j + 1 : Nat) : Int) - 1 = (j : Int) := by omega
      rw [hi]
      rw [Nat.zero_add] at hx' hf'
      have hst := hW.step hj (by rw [Nat.zero_add]; exact hx')
      rw [Nat.zero_add] at hst
      have HS := Lib.hid hst
      clear hW hx hfx hst
      go_wp2
      go_roundw
      case rel => exact ⟨j, by omega, by rw [HE.out], rfl, HS.out⟩
      case measure => simp [intOf] <;> omega
    · obtain rfl : k = 0 := by omega
      have hfin : ∀ i, i < m → wr.cell? ⟨E, i, none⟩ = some (.int .u8 (D.dg v (m - 1 - i))) := fun i hi => by
        have := hW.put i (Nat.zero_le _) hi
        rwa [Nat.zero_add] at this
      have hb := HB.out.trans (hW.bel E (Nat.le_refl _))
      have HF := Lib.hid (And.intro hb (And.intro (World.block_lt_of_cell? _ _ (hfin 0 (by omega))) hfin))
      clear hW hfin hb
      go_wp2
      go_ret
      exact ⟨rfl, HF.out⟩
/-- Bytes that a call has made by appending. -/
structure OwB (w0 w : World) (E : Nat) (v : Value) (xs : List Value) : Prop where
  own : w.ownsRow E 5 1 v xs.length xs
  bel : Below w0.heap.size w0 w
  lo : w0.heap.size ≤ E
  hi : E ≤ w.heap.size
theorem OwB.b {w0 w w' : World} {E : Nat} {v : Value} {l : List Value} (h : OwB w0 w E v l) (hb : Below w.heap.size w w') : OwB w0 w' E v l := by
  refine ⟨?_, h.bel.trans (hb.mono h.bel.size), h.lo, Nat.le_trans h.hi hb.size⟩
  refine ⟨h.own.1, ?_⟩
  rcases h.own.2 with hn | ⟨g, cap, cur, hv, hB, hgg, rest⟩
  · exact .inl hn
  · exact .inr ⟨g, cap, cur, hv, hB, by rw [hb.block g (Array.getElem?_eq_some_iff.1 hgg).1]; exact hgg, rest⟩
theorem OwB.grown {w0 w w' : World} {E n : Nat} {v v' : Value} {l news : List Value} (h : OwB w0 w E v l) (own : w'.ownsRow E 5 1 v' n (l ++ news)) (hg : w.grownBy w' v.ownBlock) : OwB w0 w' E v' (l ++ news) := by
  have hrow : ∀ k, v.ownBlock = some k → E ≤ k := fun k hk => (h.own.lt k hk).1
  have hn : n = (l ++ news).length := by have := own.1; omega
  subst hn
  exact ⟨own, h.bel.grown hg h.bel.size (fun k hk => by have := hrow k hk; have := h.lo; omega), h.lo, Nat.le_trans h.hi hg.size⟩
namespace D
def bs (m : Nat) (v : Int) : List Value := (List.range m).map (fun i => .int .u8 (dg v (m - 1 - i)))
theorem bs_len (m : Nat) (v : Int) : (bs m v).length = m := by simp [bs]
theorem bs_one (m : Nat) (v : Int) : ∀ u ∈ bs m v, u.oneCell' = true := by intro u hu; simp [bs] at hu; obtain ⟨x, _, rfl⟩ := hu; rfl
theorem bs_cells {w : World} {E m : Nat} {v : Int} (h : ∀ i, i < m → w.cell? ⟨E, i, none⟩ = some (.int .u8 (dg v (m - 1 - i)))) : ∀ (j : Nat) (u : Value), (bs m v)[j]? = some u → w.cell? (Addr.add ⟨E, 0, none⟩ j) = some u := fun j u hu => by
  have hj : j < m := by
    have := (List.getElem?_eq_some_iff.1 hu).1
    rwa [bs_len] at this
  unfold bs at hu
  rw [List.getElem?_map, List.getElem?_range hj] at hu
  injection hu with hu
  subst hu
  rw [show (Addr.add ⟨E, 0, none⟩ j) = ⟨E, j, none⟩ from by unfold Addr.add; split <;> simp_all]
  exact h j hj
def xs (a b c d e f g h : Int) : List Value := [.int .u8 (64 * a + 32 + b), .int .u8 c, .int .u8 d] ++ bs 2 e ++ bs 6 f ++ bs 6 g ++ bs 6 h
theorem xs_len (a b c d e f g h : Int) : (xs a b c d e f g h).length = 23 := by simp [xs, bs_len]
theorem xs_get (a b c d e f g h : Int) (i : Nat) (hi : i < 23) : (xs a b c d e f g h)[i]? = some (.int .u8 (fb a b c d e f g h i)) := by
  rcases (by omega : i = 0 ∨ i = 1 ∨ i = 2 ∨ i = 3 ∨ i = 4 ∨ i = 5 ∨ i = 6 ∨ i = 7 ∨ i = 8 ∨ i = 9 ∨ i = 10 ∨ i = 11 ∨ i = 12 ∨ i = 13 ∨ i = 14 ∨ i = 15 ∨ i = 16 ∨ i = 17 ∨ i = 18 ∨ i = 19 ∨ i = 20 ∨ i = 21 ∨ i = 22) with rfl | rfl | rfl | rfl | rfl | rfl | rfl | rfl | rfl | rfl | rfl | rfl | rfl | rfl | rfl | rfl | rfl | rfl | rfl | rfl | rfl | rfl | rfl <;> rfl
end D
theorem C8.grown {w w' : World} {P : Nat} {a b c d e f g h : Int} {row : Option Nat} (k : C8 w P a b c d e f g h) (hg : w.grownBy w' row) (hr : ∀ q, row = some q → P < q) : C8 w' P a b c d e f g h := by
  have hc : ∀ o, w'.cell? ⟨P, o, none⟩ = w.cell? ⟨P, o, none⟩ := fun o => World.cell?_of_block (w := w) (a := ⟨P, o, none⟩) (hg.block P k.lt (fun e => by have := hr P e.symm; omega))
  exact ⟨(hc 0).trans k.c0, (hc 1).trans k.c1, (hc 2).trans k.c2, (hc 3).trans k.c3, (hc 4).trans k.c4, (hc 5).trans k.c5, (hc 6).trans k.c6, (hc 7).trans k.c7, Nat.lt_of_lt_of_le k.lt hg.size⟩
set_option maxHeartbeats 4000000 in
theorem FP_spec (a b c d e f g h : Int) (w : World) : Calls Try.prog 9 #[.agg #[.int .i64 a, .int .i64 b, .int .i64 c, .int .i64 d, .int .i64 e, .int .i64 f, .int .i64 g, .int .i64 h]] w fun r w' =>
    Below w.heap.size w w' ∧ ((D.vp a b c d e f g h = false ∧ r = .returned (.slice none 0 0)) ∨ (D.vp a b c d e f g h = true ∧ ∃ E cp, w.heap.size ≤ E ∧ E < w'.heap.size ∧ 23 ≤ cp ∧ r = .returned (.slice (some ⟨E, 0, none⟩) 23 cp) ∧ ∀ i, i < 23 → w'.cell? ⟨E, i, none⟩ = some (.int .u8 (D.fb a b c d e f g h i)))) := by
  have bA := (Below.refl w.heap.size w).alloc (Nat.le_refl _) (.cells #[.int .i64 a, .int .i64 b, .int .i64 c, .int .i64 d, .int .i64 e, .int .i64 f, .int .i64 g, .int .i64 h] 24)
  have xA := C8.new w a b c d e f g h 24
  have k1 := fun w' => vp_spec a b c d e f g h w'
  rcases hv : D.vp a b c d e f g h with _ | _
  · simp only [hv] at k1
    clear hv
    go_enter Try.func9, Try.ntmps9
    go_wp2_with fail
    refine (k1 _).mono ?_
    rintro r w1 ⟨rfl, b1⟩
    have b2 := bA.trans (b1.mono bA.size)
    clear bA b1 xA k1
    go_wp2
    go_ret
    exact ⟨b2, .inl ⟨by trivial, rfl⟩⟩
  · have hvp := D.vp_of hv
    simp only [hv] at k1
    clear hv
    obtain ⟨i0, hi0, hz0, hz1, hz2⟩ := info_parts u8s_info
    have hI := Lib.hid hi0
    have hZ0 := Lib.hid hz0
    have hZ1 := Lib.hid hz1
    have hZ2 := Lib.hid hz2
    clear hi0 hz0 hz1 hz2
    have hst := And.intro (T.vs_of hvp.2.2.2.2.2.1) (And.intro (T.vs_of hvp.2.2.2.2.2.2.1) (T.vs_of hvp.2.2.2.2.2.2.2))
    have g1 : (64 * a + 32 + b) % 256 = 64 * a + 32 + b := by have := hvp.1; have := hvp.2.1; omega
    have g2 : c % 256 = c := by have := hvp.2.2.1; omega
    have g3 : d % 256 = d := by have := hvp.2.2.2.1; omega
    have e1 : IntKind.i64.wrap (64 * a) = 64 * a := IntWalk.i64_in _ (by have := hvp.1; omega)
    have e2 : IntKind.i64.wrap (64 * a + 32) = 64 * a + 32 := IntWalk.i64_in _ (by have := hvp.1; omega)
    have e3 : IntKind.i64.wrap (64 * a + 32 + b) = 64 * a + 32 + b := IntWalk.i64_in _ (by have := hvp.1; have := hvp.2.1; omega)
    have HV := Lib.hid (And.intro hvp.2.2.2.2.1 hst)
    clear hvp hst
    go_enter Try.func9, Try.ntmps9
    go_wp2_with fail
    refine (k1 _).mono ?_
    rintro r w1 ⟨rfl, b1⟩
    have b2 := bA.trans (b1.mono bA.size)
    have x1 := xA.bw b1
    clear bA b1 xA k1
    have X1 := x1.al (.cells #[.int .u8 (64 * a + 32 + b), .int .u8 c, .int .u8 d] 5)
    have O1 : OwB w (w1.alloc (.cells #[.int .u8 (64 * a + 32 + b), .int .u8 c, .int .u8 d] 5)) w1.heap.size (.slice (some ⟨w1.heap.size, 0, none⟩) 3 3) [.int .u8 (64 * a + 32 + b), .int .u8 c, .int .u8 d] :=
      ⟨⟨rfl, .inr ⟨w1.heap.size, 3, #[.int .u8 (64 * a + 32 + b), .int .u8 c, .int .u8 d], rfl, Nat.le_refl _, heap_alloc_new w1 _, Nat.le_refl _, by unfold maxLen; omega, rfl, rfl⟩⟩, b2.alloc b2.size _, b2.size, by simp⟩
    have p0 := x1.c0
    have p1 := x1.c1
    have p2 := x1.c2
    have p3 := x1.c3
    have p4 := X1.c4
    have hPE := x1.lt
    generalize hP : w.heap.size = P at p0 p1 p2 p3 p4 x1 X1 hPE ⊢
    clear x1
    go_upto_region 4 with (fail)
    clear p0 p1 p2 p3 e1 e2 e3 g1 g2 g3 b2
    generalize w1.alloc (.cells #[.int .u8 (64 * a + 32 + b), .int .u8 c, .int .u8 d] 5) = W1 at *
    generalize w1.heap.size = E at *
    go_wp2_with fail
    refine (bo_spec 2 e _ (by omega) (by have := HV.out.1; omega)).mono ?_
    rintro r w2 ⟨rfl, b2, l2, c2⟩
    have X2 := X1.bw b2
    have O2 := O1.b b2
    clear X1 O1 p4 b2
    go_wp2_with (at_builtin; refine wpList_append_own _ rfl _ _ 22 rfl E 5 i0 (.int .u8 0) 1 1 Try.underlying22 hI.out hZ0.out hZ1.out hZ2.out rfl (by decide) _ _ _ rfl O2.own ⟨W1.heap.size, 0, none⟩ 2 2 (D.bs 2 e) rfl (D.bs_len _ _) (D.bs_cells c2) (D.bs_one _ _) (by simp [maxLen]) (by simp) O2.hi ?_)
    intro v2 W2 own2 hg2 _
    have X2 := X2.grown hg2 (fun q hq => Nat.lt_of_lt_of_le hPE (O2.own.lt q hq).1)
    have O2 := O2.grown own2 hg2
    clear own2 hg2 c2 l2
    have p5 := X2.c5
    go_wp2_with fail
    refine (bo_spec 6 f _ (by omega) (by have := HV.out.2.1; omega)).mono ?_
    rintro r w3 ⟨rfl, b3, l3, c3⟩
    have X3 := X2.bw b3
    have O3 := O2.b b3
    clear X2 O2 p5 b3
    go_wp2_with (at_builtin; refine wpList_append_own _ rfl _ _ 22 rfl E 5 i0 (.int .u8 0) 1 1 Try.underlying22 hI.out hZ0.out hZ1.out hZ2.out rfl (by decide) _ _ _ rfl O3.own ⟨W2.heap.size, 0, none⟩ 6 6 (D.bs 6 f) rfl (D.bs_len _ _) (D.bs_cells c3) (D.bs_one _ _) (by simp [maxLen]) (by simp) O3.hi ?_)
    intro v3 W3 own3 hg3 _
    have X3 := X3.grown hg3 (fun q hq => Nat.lt_of_lt_of_le hPE (O3.own.lt q hq).1)
    have O3 := O3.grown own3 hg3
    clear own3 hg3 c3 l3
    have p6 := X3.c6
    go_wp2_with fail
    refine (bo_spec 6 g _ (by omega) (by have := HV.out.2.2.1; omega)).mono ?_
    rintro r w4 ⟨rfl, b4, l4, c4⟩
    have X4 := X3.bw b4
    have O4 := O3.b b4
    clear X3 O3 p6 b4
    go_wp2_with (at_builtin; refine wpList_append_own _ rfl _ _ 22 rfl E 5 i0 (.int .u8 0) 1 1 Try.underlying22 hI.out hZ0.out hZ1.out hZ2.out rfl (by decide) _ _ _ rfl O4.own ⟨W3.heap.size, 0, none⟩ 6 6 (D.bs 6 g) rfl (D.bs_len _ _) (D.bs_cells c4) (D.bs_one _ _) (by simp [maxLen]) (by simp) O4.hi ?_)
    intro v4 W4 own4 hg4 _
    have X4 := X4.grown hg4 (fun q hq => Nat.lt_of_lt_of_le hPE (O4.own.lt q hq).1)
    have O4 := O4.grown own4 hg4
    clear own4 hg4 c4 l4
    have p7 := X4.c7
    go_wp2_with fail
    refine (bo_spec 6 h _ (by omega) (by have := HV.out.2.2.2; omega)).mono ?_
    rintro r w5 ⟨rfl, b5, l5, c5⟩
    have X5 := X4.bw b5
    have O5 := O4.b b5
    clear X4 O4 p7 b5
    go_wp2_with (at_builtin; refine wpList_append_own _ rfl _ _ 22 rfl E 5 i0 (.int .u8 0) 1 1 Try.underlying22 hI.out hZ0.out hZ1.out hZ2.out rfl (by decide) _ _ _ rfl O5.own ⟨W4.heap.size, 0, none⟩ 6 6 (D.bs 6 h) rfl (D.bs_len _ _) (D.bs_cells c5) (D.bs_one _ _) (by simp [maxLen]) (by simp) O5.hi ?_)
    intro v5 W5 own5 hg5 _
    have X5 := X5.grown hg5 (fun q hq => Nat.lt_of_lt_of_le hPE (O5.own.lt q hq).1)
    have O5 := O5.grown own5 hg5
    clear own5 hg5 c5 l5
    have p7 := X5.c7
    have O5 : OwB w W5 E v5 (D.xs a b c d e f g h) := O5
    have hown := O5.own
    rw [D.xs_len] at hown
    obtain ⟨q, cq, rfl, hq0, hq1⟩ := hown.form (by omega)
    have hcq : 23 ≤ cq := by
      rcases hown.2 with ⟨hv, _⟩ | ⟨g', cap', cur', hv, _, _, hle, _⟩
      · cases hv
      · injection hv with _ _ hv; omega
    have hcells : ∀ i, i < 23 → W5.cell? ⟨q, i, none⟩ = some (.int .u8 (D.fb a b c d e f g h i)) := fun i hi => by
      have := hown.cells (g := q) rfl i _ (D.xs_get a b c d e f g h i hi)
      rwa [show (Addr.add ⟨q, 0, none⟩ i) = ⟨q, i, none⟩ from by unfold Addr.add; split <;> simp_all] at this
    have hfin := O5.bel
    have hlo := O5.lo
    have HF := Lib.hid (And.intro hfin (And.intro (Nat.le_trans hlo hq0) (And.intro hq1 (And.intro hcq hcells))))
    clear O5 X5 hown hfin hlo hq0 hq1 hcq hcells p7
    go_wp2
    go_ret
    obtain ⟨f1, f2, f3, f4, f5⟩ := HF.out
    exact ⟨f1, .inr ⟨by trivial, q, cq, f2, f3, f4, rfl, f5⟩⟩
theorem equalBytes_same (B B' n c c' : Nat) (a a' : Option Addr) (f : Nat → Int) (w : World) (h : Bts B w a n f) (h' : Bts B' w a' n f) (hn : n ≤ 1048576) : Calls Try.prog 8 #[.slice a n c, .slice a' n c'] w fun e w' => e = .returned (.bool true) ∧ Same w w' := by
  go_enter Try.func8, Try.ntmps8
  go_wp2
  go_loopw [5] (fun i wr => ∃ k : Nat, k ≤ n ∧ i = .int .i64 k ∧ Same w wr) (fun i _ => n - (intOf i).toNat)
  case atStart => exact ⟨0, Nat.zero_le _, rfl, Same.refl _⟩
  case round =>
    obtain ⟨k, hk, rfl, hs⟩ := hrel
    by_cases hlt : k < n
    · obtain ⟨b, off, rfl, hbb, hc⟩ := (h.same hs).at_ k hlt
      obtain ⟨b', off', rfl, hbb', hc'⟩ := (h'.same hs).at_ k hlt
      have ck := hc k hlt
      have ck' := hc' k hlt
      clear hc hc'
      go_wp2
      go_quiet (fail)
      go_wp2
      go_roundw
      case rel => exact ⟨k + 1, by omega, by go_num, hs.drewN _⟩
      case measure => simp [intOf]; omega
    · go_wp2
      go_ret
      exact ⟨rfl, hs⟩
theorem eqByteS_same (B B' n c c' : Nat) (a a' : Option Addr) (f : Nat → Int) (w : World) (h : Bts B w a n f) (h' : Bts B' w a' n f) (hn : n ≤ 1048576) : Calls Try.prog 16 #[.slice a n c, .slice a' n c'] w fun e w' => e = .returned (.bool true) ∧ Same w w' := by
  go_enter Try.func16, Try.ntmps16
  go_wp2
  go_loopw [5] (fun i wr => ∃ k : Nat, k ≤ n ∧ i = .int .i64 k ∧ Same w wr) (fun i _ => n - (intOf i).toNat)
  case atStart => exact ⟨0, Nat.zero_le _, rfl, Same.refl _⟩
  case round =>
    obtain ⟨k, hk, rfl, hs⟩ := hrel
    by_cases hlt : k < n
    · obtain ⟨b, off, rfl, hbb, hc⟩ := (h.same hs).at_ k hlt
      obtain ⟨b', off', rfl, hbb', hc'⟩ := (h'.same hs).at_ k hlt
      have ck := hc k hlt
      have ck' := hc' k hlt
      clear hc hc'
      go_wp2
      go_quiet (fail)
      go_wp2
      go_roundw
      case rel => exact ⟨k + 1, by omega, by go_num, hs.drewN _⟩
      case measure => simp [intOf]; omega
    · go_wp2
      go_ret
      exact ⟨rfl, hs⟩
end Go.Proofs.Ytegkmdinnkbkiaa
