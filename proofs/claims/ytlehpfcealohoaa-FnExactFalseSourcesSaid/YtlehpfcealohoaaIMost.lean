/-
  The sweep over the ends of spans, and what the program says is agreed on.
-/
import Derived.Test.YtlehpfcealohoaaISort
import Derived.Test.YtlehpfcealohoaaISpan
import Derived.IntWalk
import Derived.Deep.RegionHeld3
namespace Go.Proofs.Ytlehpfcealohoaa
open Go.RowKit
set_option linter.unusedVariables false
/-- The cells of the sweep: its result and its first span, made at H and behind it; the ends at g. -/
structure Mv (w wr : World) (g : Nat) (E : List (Int × Int)) (a b : Int) : Prop where
  c0 : wr.cell? ⟨w.heap.size, 0, none⟩ = some (.int .i64 0)
  c1 : wr.cell? ⟨w.heap.size, 1, none⟩ = some (.int .i64 0)
  f0 : wr.frozen? ⟨w.heap.size, 0, none⟩ = false
  f1 : wr.frozen? ⟨w.heap.size, 1, none⟩ = false
  d0 : wr.cell? ⟨w.heap.size + 1, 0, none⟩ = some (.int .i64 a)
  d1 : wr.cell? ⟨w.heap.size + 1, 1, none⟩ = some (.int .i64 b)
  g0 : wr.frozen? ⟨w.heap.size + 1, 0, none⟩ = false
  g1 : wr.frozen? ⟨w.heap.size + 1, 1, none⟩ = false
  ec : ∀ i, i < E.length → wr.cell? ⟨g, i * 2, none⟩ = some (.int .i64 (V.lo E i)) ∧ wr.cell? ⟨g, i * 2 + 1, none⟩ = some (.int .i64 (V.hi E i))
  hg : w.heap.size + 2 ≤ g
  hz : g < wr.heap.size
  bel : Below w.heap.size w wr
theorem Mv.keep {w wr w' : World} {g : Nat} {E : List (Int × Int)} {a b : Int} (h : Mv w wr g E a b) (q : Below wr.heap.size wr w') : Mv w w' g E a b := by
  have z := h.hz
  have hg := h.hg
  have C : ∀ b o, b < wr.heap.size → w'.cell? ⟨b, o, none⟩ = wr.cell? ⟨b, o, none⟩ := fun b o hb => q.cell (p := ⟨b, o, none⟩) hb
  have F : ∀ b o, b < wr.heap.size → w'.frozen? ⟨b, o, none⟩ = wr.frozen? ⟨b, o, none⟩ := fun b o hb => q.frozen (p := ⟨b, o, none⟩) hb
  exact ⟨(C _ _ (by omega)).trans h.c0, (C _ _ (by omega)).trans h.c1, (F _ _ (by omega)).trans h.f0, (F _ _ (by omega)).trans h.f1, (C _ _ (by omega)).trans h.d0, (C _ _ (by omega)).trans h.d1, (F _ _ (by omega)).trans h.g0, (F _ _ (by omega)).trans h.g1, fun i hi => ⟨(C _ _ z).trans (h.ec i hi).1, (C _ _ z).trans (h.ec i hi).2⟩, hg, Nat.lt_of_lt_of_le z q.size, h.bel.trans (q.mono h.bel.size)⟩
theorem Mv.set {w wr : World} {g : Nat} {E : List (Int × Int)} {a b : Int} (h : Mv w wr g E a b) (x y : Int) : Mv w ((wr.setCell ⟨w.heap.size + 1, 0, none⟩ (.int .i64 x)).setCell ⟨w.heap.size + 1, 1, none⟩ (.int .i64 y)) g E x y := by
  have hg := h.hg
  have C : ∀ b o, b ≠ w.heap.size + 1 → ((wr.setCell ⟨w.heap.size + 1, 0, none⟩ (.int .i64 x)).setCell ⟨w.heap.size + 1, 1, none⟩ (.int .i64 y)).cell? ⟨b, o, none⟩ = wr.cell? ⟨b, o, none⟩ := fun b o hb => by
    rw [World.cell?_setCell_other _ _ _ _ (by intro e; injection e with e1; exact hb e1.symm), World.cell?_setCell_other _ _ _ _ (by intro e; injection e with e1; exact hb e1.symm)]
  refine ⟨(C _ _ (by omega)).trans h.c0, (C _ _ (by omega)).trans h.c1, by rw [World.frozen?_setCell, World.frozen?_setCell]; exact h.f0, by rw [World.frozen?_setCell, World.frozen?_setCell]; exact h.f1, ?_, ?_, by rw [World.frozen?_setCell, World.frozen?_setCell]; exact h.g0, by rw [World.frozen?_setCell, World.frozen?_setCell]; exact h.g1, fun i hi => ⟨(C _ _ (by omega)).trans (h.ec i hi).1, (C _ _ (by omega)).trans (h.ec i hi).2⟩, hg, by simpa using h.hz, (h.bel.setCell (by simp) _).setCell (by simp) _⟩
  · rw [World.cell?_setCell_other _ _ _ _ (by simp)]; exact World.cell?_setCell_same _ _ _ h.d0
  · exact World.cell?_setCell_same _ _ _ (u := .int .i64 b) (by rw [World.cell?_setCell_other _ _ _ _ (by simp)]; exact h.d1)
set_option maxHeartbeats 2000000 in
theorem mv_impl (n c : Nat) (a : Option Addr) (l : List (Int × Int)) (w : World) (h : Sps w.heap.size w a n l) (hv : V.vs l = true) : Calls Try.prog 25 #[.slice a n c] w fun e w' => e = .returned (.tuple #[.agg #[.int .i64 (V.low l), .int .i64 (V.high l)], .int .i64 (V.most l)]) ∧ Below w.heap.size w w' := by
  have HEE := Lib.hid (V.ends_E l)
  have HOK := Lib.hid (V.vs_of hv).2
  have hl7 := (V.vs_of hv).1
  have hEl : (V.E l).length = 2 * l.length := (V.ends_E l).len
  have hE14 : (V.E l).length ≤ 14 := by omega
  clear hl7 hEl
  have q2 : Below w.heap.size w ((w.alloc (Obj.cells #[.int .i64 0, .int .i64 0] 26)).alloc (Obj.cells #[.int .i64 0, .int .i64 0] 26)) := ((Below.refl _ _).alloc (Nat.le_refl _) _).alloc (by simp) _
  have HS2 := Lib.hid ((h.below q2).more q2.size)
  have HQ2 := Lib.hid q2
  clear h q2
  go_enter Try.func25, Try.ntmps25
  go_wp2_with (go_at_call 36; refine (se_impl _ _ _ l _ HS2.out hv).mono ?_; rintro e w1 ⟨g, c', rfl, hg, hS1, b1⟩)
  have M0 : Mv w w1 g (V.E l) 0 0 := by
    obtain ⟨b, off, hb0, hb1, hc⟩ := hS1.at_ 0 (by have := (HEE.out).len; have := (V.vs_of hv).1; omega)
    injection hb0 with hb0
    injection hb0 with hb0 hb2
    subst hb0
    subst hb2
    have z : ((w.alloc (Obj.cells #[.int .i64 0, .int .i64 0] 26)).alloc (Obj.cells #[.int .i64 0, .int .i64 0] 26)).heap.size = w.heap.size + 2 := by rw [World.size_alloc, World.size_alloc]
    exact ⟨(b1.cell (p := ⟨w.heap.size, 0, none⟩) (by rw [z]; show w.heap.size < _; omega)).trans (by simp), (b1.cell (p := ⟨w.heap.size, 1, none⟩) (by rw [z]; show w.heap.size < _; omega)).trans (by simp), (b1.frozen (p := ⟨w.heap.size, 0, none⟩) (by rw [z]; show w.heap.size < _; omega)).trans (by simp), (b1.frozen (p := ⟨w.heap.size, 1, none⟩) (by rw [z]; show w.heap.size < _; omega)).trans (by simp), (b1.cell (p := ⟨w.heap.size + 1, 0, none⟩) (by rw [z]; show w.heap.size + 1 < _; omega)).trans (by simp [go_sem]), (b1.cell (p := ⟨w.heap.size + 1, 1, none⟩) (by rw [z]; show w.heap.size + 1 < _; omega)).trans (by simp [go_sem]), (b1.frozen (p := ⟨w.heap.size + 1, 0, none⟩) (by rw [z]; show w.heap.size + 1 < _; omega)).trans (by simp [go_sem]), (b1.frozen (p := ⟨w.heap.size + 1, 1, none⟩) (by rw [z]; show w.heap.size + 1 < _; omega)).trans (by simp [go_sem]), fun i hi => by have := hc i hi; rw [Nat.zero_add] at this; exact this, by rw [z] at hg; exact hg, hb1, HQ2.out.trans (b1.mono (by rw [z]; omega))⟩
  have HM0 := Lib.hid M0
  clear M0 hS1 b1 hg
  go_wp2
  go_loopw [5, 6, 14] (fun x m i wr => ∃ (k : Nat) (mm p q : Int), k ≤ (V.E l).length ∧ i = .int .i64 k ∧ x = .int .i64 (V.S (V.E l) k) ∧ m = .int .i64 mm ∧ V.Swept (V.E l) k mm p q ∧ Mv w wr g (V.E l) p q) (fun _ _ i _ => (V.E l).length - (intOf i).toNat)
  case atStart => exact ⟨0, 0, 0, 0, Nat.zero_le _, rfl, rfl, rfl, V.swept_0 _, HM0.out⟩
  case round =>
    obtain ⟨k, mm, p, q, hk, rfl, rfl, rfl, hsw, M⟩ := hrel
    clear HM0 HS2 HQ2
    by_cases hlt : k < (V.E l).length
    · have e0 := (M.ec k hlt).1
      have e1 := (M.ec k hlt).2
      have hbd := HEE.out.bd HOK.out k hlt
      have hsb := HEE.out.sum_bd HOK.out k (by omega)
      have h1 : -1 ≤ V.hi (V.E l) k ∧ V.hi (V.E l) k ≤ 1 := by omega
      have hlo := hbd.1
      have d0 := M.d0
      have d1 := M.d1
      have g0 := M.g0
      have g1 := M.g1
      have hz := M.hz
      have hgg := M.hg
      clear hbd
      by_cases hn : mm < V.S (V.E l) k + V.hi (V.E l) k
      · have hmore := HEE.out.more HOK.out hlt (by have := hsw.nn; omega)
        have e2 := (M.ec (k + 1) hmore).1
        have hlo2 := (HEE.out.bd HOK.out (k + 1) hmore).1
        have HX := Lib.hid (And.intro (hsw.new hn) (((M.set (V.lo (V.E l) k) (V.lo (V.E l) (k + 1) - 1)).keep ((Below.refl _ _).alloc (Nat.le_refl _) (Obj.cells #[.int .i64 (V.lo (V.E l) k), .int .i64 (V.hi (V.E l) k)] 62))).keep (Below.refl _ _).drew))
        have hm2 : (k : Int) + 1 < ((V.E l).length : Int) := by omega
        clear M hsw
        go_wp2
        have hb1 : w.heap.size + 1 < wr.heap.size := by omega
        have w1' : IntKind.i64.wrap ((k : Int) + 1) = (k : Int) + 1 := IntWalk.i64_in _ (by omega)
        have w2' : IntKind.i64.wrap (V.lo (V.E l) (k + 1) - 1) = V.lo (V.E l) (k + 1) - 1 := IntWalk.i64_in _ (by omega)
        have w3' : (0 : Int) ≤ (k : Int) + 1 := by omega
        have w4' : ((k : Int) + 1).toNat = k + 1 := by omega
        have ne1 : (⟨w.heap.size + 1, 0, none⟩ : Addr) ≠ ⟨g, (k + 1) * 2, none⟩ := by intro e; injection e with e1; omega
        have ne2 : (⟨w.heap.size + 1, 1, none⟩ : Addr) ≠ ⟨g, (k + 1) * 2, none⟩ := by intro e; injection e with e1; omega
        have kp : (((wr.setCell ⟨w.heap.size + 1, 0, none⟩ (.int .i64 (V.lo (V.E l) k))).setCell ⟨w.heap.size + 1, 1, none⟩ (.int .i64 (V.lo (V.E l) (k + 1) - 1))).alloc (Obj.cells #[.int .i64 (V.lo (V.E l) k), .int .i64 (V.hi (V.E l) k)] 62)).drew.cell? ⟨wr.heap.size, 0, none⟩ = some (.int .i64 (V.lo (V.E l) k)) ∧ (((wr.setCell ⟨w.heap.size + 1, 0, none⟩ (.int .i64 (V.lo (V.E l) k))).setCell ⟨w.heap.size + 1, 1, none⟩ (.int .i64 (V.lo (V.E l) (k + 1) - 1))).alloc (Obj.cells #[.int .i64 (V.lo (V.E l) k), .int .i64 (V.hi (V.E l) k)] 62)).drew.cell? ⟨g, (k + 1) * 2, none⟩ = some (.int .i64 (V.lo (V.E l) (k + 1))) := by
          refine ⟨(World.cell?_alloc_at _ _ _ _ (by simp)).trans rfl, (World.cell?_alloc_past _ _ _ (by simpa using hz)).trans ?_⟩
          rw [World.cell?_setCell_other _ _ _ _ ne2, World.cell?_setCell_other _ _ _ _ ne1]
          exact e2
        have KP := Lib.hid kp
        clear kp ne1 ne2
        go_region_held3 (fun w' => w'.cell? ⟨wr.heap.size, 0, none⟩ = some (.int .i64 (V.lo (V.E l) k)) ∧ w'.cell? ⟨g, (k + 1) * 2, none⟩ = some (.int .i64 (V.lo (V.E l) (k + 1)))) (first | exact KP.out | go_keep) (fail)
        clear w1' w2' w3' w4'
        all_goals go_wp2
        go_roundw
        case rel => exact ⟨k + 1, _, _, _, by omega, by go_num, rfl, rfl, HX.out.1, HX.out.2⟩
        case measure => simp [intOf]; omega
      · have HX := Lib.hid (And.intro (hsw.old hn) (M.keep ((Below.refl _ _).alloc (Nat.le_refl _) (Obj.cells #[.int .i64 (V.lo (V.E l) k), .int .i64 (V.hi (V.E l) k)] 62))))
        clear M hsw
        go_wp2
        go_roundw
        case rel => exact ⟨k + 1, mm, p, q, by omega, by go_num, rfl, rfl, HX.out.1, HX.out.2⟩
        case measure => simp [intOf]; omega
    · obtain rfl : k = (V.E l).length := by omega
      obtain ⟨rfl, rfl, rfl⟩ := hsw.done hv HEE.out
      have c0 := M.c0
      have c1 := M.c1
      have f0 := M.f0
      have f1 := M.f1
      have d0 := M.d0
      have d1 := M.d1
      have HX := Lib.hid M.bel
      clear hsw M
      go_wp2
      exact bodyPost_ret (v := .tuple #[.agg #[.int .i64 (V.low l), .int .i64 (V.high l)], .int .i64 (V.most l)]) (by simp [results, Try.results25, go_sem, c0, c1]) rfl ⟨rfl, (HX.out.setCell (Nat.le_refl _) _).setCell (Nat.le_refl _) _⟩
end Go.Proofs.Ytlehpfcealohoaa
