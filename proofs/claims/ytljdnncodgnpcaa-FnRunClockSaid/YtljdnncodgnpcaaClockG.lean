/-
  Clocks (chapter 7): the model's clock that is set.
-/
import Derived.Test.YtljdnncodgnpcaaClockC
import Derived.StillTailTactics
namespace Go.Proofs.Ytljdnncodgnpcaa
open Go.RowKit
set_option linter.unusedVariables false
set_option maxRecDepth 100000
theorem three_belowK {w w1 : World} {x y z : Value} {u v q : Value} {t t' : TypeId} (b : Below ((w.alloc (Obj.cells #[x, y, z] t')).alloc (Obj.cells #[u, v, q] t)).heap.size ((w.alloc (Obj.cells #[x, y, z] t')).alloc (Obj.cells #[u, v, q] t)) w1) : (w1.cell? ⟨w.heap.size + 1, 0, none⟩ = some u ∧ w1.cell? ⟨w.heap.size + 1, 1, none⟩ = some v ∧ w1.cell? ⟨w.heap.size + 1, 2, none⟩ = some q) ∧ (w1.frozen? ⟨w.heap.size + 1, 0, none⟩ = false ∧ w1.frozen? ⟨w.heap.size + 1, 1, none⟩ = false ∧ w1.frozen? ⟨w.heap.size + 1, 2, none⟩ = false) := by
  have L : ∀ o, (⟨w.heap.size + 1, o, none⟩ : Addr).block < ((w.alloc (Obj.cells #[x, y, z] t')).alloc (Obj.cells #[u, v, q] t)).heap.size := fun o => by simp
  have N : ∀ o, ((w.alloc (Obj.cells #[x, y, z] t')).alloc (Obj.cells #[u, v, q] t)).cell? ⟨w.heap.size + 1, o, none⟩ = #[u, v, q][o]? := fun o => by
    have := World.cell?_alloc_new (w.alloc (Obj.cells #[x, y, z] t')) #[u, v, q] t o
    rw [World.size_alloc] at this
    exact this
  exact ⟨⟨(b.cell (L 0)).trans (N 0), (b.cell (L 1)).trans (N 1), (b.cell (L 2)).trans (N 2)⟩, (b.frozen (L 0)).trans (by simp), (b.frozen (L 1)).trans (by simp), (b.frozen (L 2)).trans (by simp)⟩
theorem sizeK_spec (x : Int) (hx : -1000000000 ≤ x ∧ x ≤ 1000000000) (w : World) : Calls Try.prog 61 #[.int .i64 x] w fun e w' => e = .returned (.int .i64 (K.abs x)) ∧ w = w' := by
  rcases Int.lt_or_le x 0 with h | h
  · rw [show K.abs x = -x from if_pos h]
    go_enter Try.func61, Try.ntmps61
    go_wp2
    go_ret
    exact ⟨rfl, rfl⟩
  · rw [show K.abs x = x from if_neg (by omega)]
    have h2 : ¬ x < 0 := by omega
    go_enter Try.func61, Try.ntmps61
    go_wp2
    go_ret
    exact ⟨rfl, rfl⟩
set_option maxHeartbeats 4000000 in
theorem SC_spec (o r a t x : Int) (w : World) : Calls Try.prog 52 #[.agg #[.int .i64 o, .int .i64 r, .int .i64 a], .int .i64 t, .int .i64 x] w fun e w' =>
    e = .returned (.tuple #[.agg #[.int .i64 (K.so o r a t x), .int .i64 (K.sr o r a t x), .int .i64 (K.st o r a t x)], .bool (K.sok o r a t x)]) ∧ Below w.heap.size w w' := by
  have k1 := fun w' => OA_spec o r a t w'
  have k5 := fun w' => inR_spec x (-1000000) 1000000 w'
  have bA : Below w.heap.size w ((w.alloc (Obj.cells #[.int .i64 o, .int .i64 r, .int .i64 a] 24)).alloc (Obj.cells #[.int .i64 0, .int .i64 0, .int .i64 0] 24)) := ((Below.refl _ _).alloc (Nat.le_refl _) _).alloc (by simp) _
  have xA := (C3.new w o r a 24).al (Obj.cells #[.int .i64 0, .int .i64 0, .int .i64 0] 24)
  rcases ht : K.told o r a t with _ | _
  · have hk : K.sok o r a t x = false := K.sok_no (fun h => by rw [ht] at h; cases h.1)
    obtain ⟨y0, y1, y2⟩ := K.s_no hk
    rw [y0, y1, y2, hk]
    simp only [ht] at k1
    clear ht hk y0 y1 y2 k5
    go_enter Try.func52, Try.ntmps52
    go_wp2_with fail
    refine (k1 _).mono ?_
    rintro e w1 ⟨rfl, b1⟩
    obtain ⟨⟨c0, c1, c2⟩, f0, f1, f2⟩ := three_belowK b1
    have hfin := bA.trans (b1.mono bA.size)
    clear b1 bA xA k1
    go_wp2
    exact bodyPost_ret (v := .tuple #[.agg #[.int .i64 0, .int .i64 0, .int .i64 0], .bool false]) (by simp [results, Try.results52, go_sem, c0, c1, c2]) rfl ⟨rfl, ((hfin.setCell (Nat.le_succ _) _).setCell (Nat.le_succ _) _).setCell (Nat.le_succ _) _⟩
  · have hto := K.off_told ht
    have hvc := K.vc_of (K.told_of ht).1
    have HT := Lib.hid ht
    rw [K.oa_yes ht] at k1
    simp only [ht] at k1
    clear ht
    rcases inR_cases x (-1000000) 1000000 with ⟨x0, x1⟩ | ⟨x0, x1⟩
    · have hk : K.sok o r a t x = true := K.sok_yes ⟨HT.out, x1⟩
      obtain ⟨y0, y1, y2⟩ := K.s_yes hk
      rw [y0, y1, y2, hk]
      simp only [x0] at k5
      have K5 := Lib.hid k5
      have K6 := Lib.hid (fun w' => sizeK_spec x (by omega) w')
      clear x0 k5 hk y0 y1 y2
      go_enter Try.func52, Try.ntmps52
      go_wp2_with fail
      refine (k1 _).mono ?_
      rintro e w1 ⟨rfl, b1⟩
      obtain ⟨⟨c0, c1, c2⟩, f0, f1, f2⟩ := three_belowK b1
      have x1' := xA.b b1
      have d1 := x1'.c1
      have hfin := bA.trans (b1.mono bA.size)
      clear b1 bA xA k1 x1'
      by_cases h : 128000 < K.abs x
      · have K7 := Lib.hid (fun w' => lim_spec (K.off o r a t - x) 1000000 (by omega) w')
        have hc : K.co (K.off o r a t) x = K.lim (K.off o r a t - x) 1000000 := if_pos h
        have hcr : K.cr r x = r := if_pos h
        have HC := Lib.hid (And.intro hc hcr)
        have e1 : IntKind.i64.wrap (K.off o r a t - x) = K.off o r a t - x := IntWalk.i64_in _ (by omega)
        clear hc hcr
        go_wp2_with (first | (go_at_call 66; refine (K5.out _).mono ?_; rintro e w' ⟨rfl, rfl⟩) | (go_at_call 61; refine (K6.out _).mono ?_; rintro e w' ⟨rfl, rfl⟩))
        refine wp_region_still_tail 8 (by kernel_rfl) (by kernel_rfl) ?_
        simp only [List.take_succ_cons, List.take_zero, List.drop_succ_cons, List.drop_zero]
        change wpStill _ _ w1.drew (fun a' => wpList _ _ _ _ a' w1.drew) _ _
        have hfin' := hfin.drew
        replace c0 : w1.drew.cell? ⟨w.heap.size + 1, 0, none⟩ = some (.int .i64 0) := c0
        replace c1 : w1.drew.cell? ⟨w.heap.size + 1, 1, none⟩ = some (.int .i64 0) := c1
        replace c2 : w1.drew.cell? ⟨w.heap.size + 1, 2, none⟩ = some (.int .i64 0) := c2
        replace f0 : w1.drew.frozen? ⟨w.heap.size + 1, 0, none⟩ = false := f0
        replace f1 : w1.drew.frozen? ⟨w.heap.size + 1, 1, none⟩ = false := f1
        replace f2 : w1.drew.frozen? ⟨w.heap.size + 1, 2, none⟩ = false := f2
        replace d1 : w1.drew.cell? ⟨w.heap.size, 1, none⟩ = some (.int .i64 r) := d1
        clear hfin
        generalize w1.drew = w2 at *
        repeat still_step
        still_call ((K7.out _).mono (fun _ _ h => ⟨h.1, h.2.symm⟩))
        repeat still_step
        try refine wpStill_nil ?_
        go_wp2
        exact bodyPost_ret (v := .tuple #[.agg #[.int .i64 (K.lim (K.off o r a t - x) 1000000), .int .i64 r, .int .i64 t], .bool true]) (by simp [results, Try.results52, go_sem, c0, c1, c2]) rfl ⟨by rw [HC.out.1, HC.out.2], ((hfin'.setCell (Nat.le_succ _) _).setCell (Nat.le_succ _) _).setCell (Nat.le_succ _) _⟩
      · have hc : K.co (K.off o r a t) x = K.lim (K.off o r a t - x / 4) 1000000 := if_neg h
        have hcr : K.cr r x = K.lim (r - x * 1000 / 4096) 500000 := if_neg h
        have h2 : decide (128000 < K.abs x) = false := decide_eq_false h
        have K2 := Lib.hid (fun w' => fdiv_spec x 4 (by omega) (by omega) w')
        have K3 := Lib.hid (fun w' => lim_spec (K.off o r a t - x / 4) 1000000 (by omega) w')
        have K4 := Lib.hid (fun w' => fdiv_spec (x * 1000) 4096 (by omega) (by omega) w')
        have K7 := Lib.hid (fun w' => lim_spec (r - x * 1000 / 4096) 500000 (by omega) w')
        have e1 : IntKind.i64.wrap (K.off o r a t - x / 4) = K.off o r a t - x / 4 := IntWalk.i64_in _ (by omega)
        have e2 : IntKind.i64.wrap (x * 1000) = x * 1000 := IntWalk.i64_in _ (by omega)
        have e3 : IntKind.i64.wrap (r - x * 1000 / 4096) = r - x * 1000 / 4096 := IntWalk.i64_in _ (by omega)
        have HC := Lib.hid (And.intro hc hcr)
        clear hc hcr h
        go_wp2_with (first | (go_at_call 66; refine (K5.out _).mono ?_; rintro e w' ⟨rfl, rfl⟩) | (go_at_call 61; refine (K6.out _).mono ?_; rintro e w' ⟨rfl, rfl⟩))
        go_quiet ((first | (go_at_call 71; exact qsL K4.out) | (go_at_call 70; exact qsL K7.out)))
        go_wp2_with (first | (go_at_call 71; refine (K2.out _).mono ?_; rintro e w' ⟨rfl, rfl⟩) | (go_at_call 70; refine (K3.out _).mono ?_; rintro e w' ⟨rfl, rfl⟩))
        exact bodyPost_ret (v := .tuple #[.agg #[.int .i64 (K.lim (K.off o r a t - x / 4) 1000000), .int .i64 (K.lim (r - x * 1000 / 4096) 500000), .int .i64 t], .bool true]) (by simp [results, Try.results52, go_sem, c0, c1, c2]) rfl ⟨by rw [HC.out.1, HC.out.2], (((below_drewN hfin _).setCell (Nat.le_succ _) _).setCell (Nat.le_succ _) _).setCell (Nat.le_succ _) _⟩
    · have hk : K.sok o r a t x = false := K.sok_no (fun h => x1 h.2)
      obtain ⟨y0, y1, y2⟩ := K.s_no hk
      rw [y0, y1, y2, hk]
      simp only [x0] at k5
      have K5 := Lib.hid k5
      clear x0 k5 hk y0 y1 y2 x1
      go_enter Try.func52, Try.ntmps52
      go_wp2_with fail
      refine (k1 _).mono ?_
      rintro e w1 ⟨rfl, b1⟩
      obtain ⟨⟨c0, c1, c2⟩, f0, f1, f2⟩ := three_belowK b1
      have hfin := bA.trans (b1.mono bA.size)
      clear b1 bA xA k1
      go_wp2_with (go_at_call 66; refine (K5.out _).mono ?_; rintro e w' ⟨rfl, rfl⟩)
      exact bodyPost_ret (v := .tuple #[.agg #[.int .i64 0, .int .i64 0, .int .i64 0], .bool false]) (by simp [results, Try.results52, go_sem, c0, c1, c2]) rfl ⟨rfl, ((hfin.setCell (Nat.le_succ _) _).setCell (Nat.le_succ _) _).setCell (Nat.le_succ _) _⟩
end Go.Proofs.Ytljdnncodgnpcaa
