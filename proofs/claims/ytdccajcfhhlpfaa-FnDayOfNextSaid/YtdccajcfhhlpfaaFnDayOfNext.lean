/-
  PROVED: FnDayOfNext: for every input the law returns true, and the input reads as it did. No condition.
  The frame is as the kit prints it (proof-skeleton.mjs); the walk is mine.
-/
import Derived.Test.YtdccajcfhhlpfaaRows
import Derived.Test.YtdccajcfhhlpfaaCalN
import Derived.Test.YtdccajcfhhlpfaaCalX
import Derived.Test.YtdccajcfhhlpfaaDrawD
import Derived.WalkKit
import Derived.Deep.Cut
import Derived.ProofKit
import Derived.OpenShut
import Derived.ShutString
import Derived.ChangeOld
import Derived.Below
namespace Go.Proofs.Ytdccajcfhhlpfaa.fnDayOfNext
open Go.ChangeShapes Go.WideShapes Go.ChangeAt Go.RowKit
open Go.ChangeMaps (open_string shut_string)
set_option linter.unusedVariables false

theorem own : ownKnob Try.prog.godebug = none := by kernel_rfl
theorem laidOut : laidOutB Try.prog = true := by kernel_rfl

/-- WHAT THE WALK IS TOLD OF A SLICE OF INTEGERS THAT CAME IN: it is nil; or it leads to a row of 'cap' cells, the numbers 'zs' (the first 'len' are its elements, the rest its spare room), each fitting its kind. -/
def IsRow (k : IntKind) (w : World) (a : Option Addr) (len cap : Nat) (zs : List Int) : Prop :=
  (a = none ∧ len = 0 ∧ cap = 0 ∧ zs = []) ∨
  ∃ x, a = some x ∧ len ≤ cap ∧ cap ≤ maxLen ∧ zs.length = cap ∧ (∀ i, i < zs.length → w.cell? (x.add i) = some (.int k (zs.getD i 0))) ∧ ∀ n ∈ zs, (Lit.int k n).wf = true

/-! ### STEP 1: THE WALK: the Go text returns true, AND WRITES NOTHING THAT WAS THERE: 'Below w.heap.size w w'' (Derived/Below.lean: '.refl', '.alloc', '.drew', '.setCell' at a new block, '.trans'). Open each 'IsRow' by 'rcases' AHEAD of 'go_enter'; part every test ahead of the walk. -/
theorem cells3 (w : World) (b : Nat) (a0 a1 a2 x y z : Value) (h0 : w.cell? ⟨b, 0, none⟩ = some a0) (h1 : w.cell? ⟨b, 1, none⟩ = some a1) (h2 : w.cell? ⟨b, 2, none⟩ = some a2) :
    (((w.setCell ⟨b, 0, none⟩ x).setCell ⟨b, 1, none⟩ y).setCell ⟨b, 2, none⟩ z).cell? ⟨b, 0, none⟩ = some x ∧ (((w.setCell ⟨b, 0, none⟩ x).setCell ⟨b, 1, none⟩ y).setCell ⟨b, 2, none⟩ z).cell? ⟨b, 1, none⟩ = some y
    ∧ (((w.setCell ⟨b, 0, none⟩ x).setCell ⟨b, 1, none⟩ y).setCell ⟨b, 2, none⟩ z).cell? ⟨b, 2, none⟩ = some z ∧ (∀ k o, k ≠ b → (((w.setCell ⟨b, 0, none⟩ x).setCell ⟨b, 1, none⟩ y).setCell ⟨b, 2, none⟩ z).cell? ⟨k, o, none⟩ = w.cell? ⟨k, o, none⟩) := by
  have n01 : (⟨b, 0, none⟩ : Addr) ≠ ⟨b, 1, none⟩ := by simp
  have n02 : (⟨b, 0, none⟩ : Addr) ≠ ⟨b, 2, none⟩ := by simp
  have n12 : (⟨b, 1, none⟩ : Addr) ≠ ⟨b, 2, none⟩ := by simp
  refine ⟨?_, ?_, ?_, fun k o hk => ?_⟩
  · rw [World.cell?_setCell_other _ _ _ _ n02.symm, World.cell?_setCell_other _ _ _ _ n01.symm]; exact World.cell?_setCell_same _ _ _ h0
  · rw [World.cell?_setCell_other _ _ _ _ n12.symm]; exact World.cell?_setCell_same _ _ _ ((World.cell?_setCell_other _ _ _ _ n01).trans h1)
  · exact World.cell?_setCell_same _ _ _ ((World.cell?_setCell_other _ _ _ _ n12).trans ((World.cell?_setCell_other _ _ _ _ n02).trans h2))
  · have e : ∀ i, (⟨b, i, none⟩ : Addr) ≠ ⟨k, o, none⟩ := fun i h => hk (by injection h with h1; exact h1.symm)
    rw [World.cell?_setCell_other _ _ _ _ (e 2), World.cell?_setCell_other _ _ _ _ (e 1), World.cell?_setCell_other _ _ _ _ (e 0)]
set_option maxHeartbeats 8000000 in
theorem walk (a0 : Option Addr) (len0 cap0 : Nat) (z0 : List Int) (w : World) (w0 : IsRow .u8 w a0 len0 cap0 z0) :
    Calls Try.prog 7 #[.slice a0 len0 cap0] w fun e w' => e = .returned (.bool true) ∧ Below w.heap.size w w' := by
  by_cases hl : 1048576 < len0
  · have hl' : (1048576 : Int) < (len0 : Int) := by omega
    clear w0 hl
    go_enter Try.func7, Try.ntmps7
    go_wp2
    go_ret
    exact ⟨rfl, Below.refl _ _⟩
  have hl' : ¬ (1048576 : Int) < (len0 : Int) := by omega
  obtain ⟨hc, hcap⟩ := code_of w0 (by omega)
  clear w0 hl
  go_enter Try.func7, Try.ntmps7
  go_wp2_with fail
  refine (DrawDayOf_any w a0 len0 cap0 hc hcap).mono ?_
  rintro e w1 ⟨y, m, d, rfl, hy, hm, hd, bl⟩
  clear hc hcap
  have bW := bl.alloc bl.size (.cells #[.int .i64 y, .int .i64 m, .int .i64 d] 30)
  have sW := bW.size
  have x0 := World.cell?_alloc_new w1 #[.int .i64 y, .int .i64 m, .int .i64 d] 30 0
  have x1 := World.cell?_alloc_new w1 #[.int .i64 y, .int .i64 m, .int .i64 d] 30 1
  have x2 := World.cell?_alloc_new w1 #[.int .i64 y, .int .i64 m, .int .i64 d] 30 2
  have hD : w1.heap.size < (w1.alloc (.cells #[.int .i64 y, .int .i64 m, .int .i64 d] 30)).heap.size := by simp
  clear bl
  go_wp2_with fail
  generalize w1.alloc (.cells #[.int .i64 y, .int .i64 m, .int .i64 d] 30) = W at bW sW x0 x1 x2 hD ⊢
  generalize w1.heap.size = D at x0 x1 x2 hD ⊢
  refine (dayOf_impl _ _ _ _).mono ?_
  rintro e w2 ⟨rfl, hb⟩
  have c0 : w2.cell? ⟨D, 0, none⟩ = some (.int .i64 y) := (hb.cell (p := ⟨D, 0, none⟩) hD).trans x0
  have c1 : w2.cell? ⟨D, 1, none⟩ = some (.int .i64 m) := (hb.cell (p := ⟨D, 1, none⟩) hD).trans x1
  have c2 : w2.cell? ⟨D, 2, none⟩ = some (.int .i64 d) := (hb.cell (p := ⟨D, 2, none⟩) hD).trans x2
  have b2 : Below w.heap.size w w2 := bW.trans (hb.mono sW)
  have hD2 : D < w2.heap.size := Nat.lt_of_lt_of_le hD hb.size
  have s2 := b2.size
  clear hb x0 x1 x2 bW sW hD
  go_wp2_with fail
  refine (dayOf_spec _ _ _ _).mono ?_
  rintro e w3 ⟨rfl, hb⟩
  have d0 : w3.cell? ⟨D, 0, none⟩ = some (.int .i64 y) := (hb.cell (p := ⟨D, 0, none⟩) hD2).trans c0
  have d1 : w3.cell? ⟨D, 1, none⟩ = some (.int .i64 m) := (hb.cell (p := ⟨D, 1, none⟩) hD2).trans c1
  have d2 : w3.cell? ⟨D, 2, none⟩ = some (.int .i64 d) := (hb.cell (p := ⟨D, 2, none⟩) hD2).trans c2
  have b3 : Below w.heap.size w w3 := b2.trans (hb.mono s2)
  have hD3 : D < w3.heap.size := Nat.lt_of_lt_of_le hD2 hb.size
  have s3 := b3.size
  clear hb c0 c1 c2 b2 s2 hD2
  cases hv : M.vld y m d
  · have e0 : M.dayOf y m d = -1 := by unfold M.dayOf; rw [hv]; rfl
    have f1 : M.dayOf y m d < 0 := by omega
    clear e0
    go_wp2_with fail
    refine (dayOf_spec _ _ _ _).mono ?_
    rintro e w4 ⟨rfl, hb⟩
    have b4 : Below w.heap.size w w4 := b3.trans (hb.mono s3)
    clear hb
    go_wp2
    go_ret
    exact ⟨ret_bool (by simp), b4⟩
  · have e0 : M.dayOf y m d = M.num y m d := by unfold M.dayOf; rw [hv]; rfl
    have nb := M.num_bd y m d hv
    have hv' := hv
    simp only [M.vld, decide_eq_true_eq] at hv'
    obtain ⟨v1, v2, v3, v4⟩ := hv'
    have hdm := M.dim_bd y m
    have f1 : 0 ≤ M.dayOf y m d ∧ M.dayOf y m d ≤ 43829 := by omega
    by_cases hM : M.dayOf y m d = 43829
    · have f2 : (M.dayOf y m d == 43829) = true := by rw [beq_iff_eq]; omega
      clear e0 nb v1 v2 v3 v4 hM hdm
      go_wp2_with fail
      refine (dayOf_spec _ _ _ _).mono ?_
      rintro e w4 ⟨rfl, hb⟩
      have b4 : Below w.heap.size w w4 := b3.trans (hb.mono s3)
      clear hb
      go_wp2
      go_ret
      exact ⟨ret_bool (by simp), b4⟩
    have f2 : (M.dayOf y m d == 43829) = false := by rw [beq_eq_false_iff_ne]; omega
    have emd : M.mdays y m = M.dim y m := by unfold M.mdays; rw [if_pos ⟨v1, v2⟩]
    by_cases hl : d = M.dim y m
    · by_cases h12 : m = 12
      · have hd31 : d = 31 := by rw [hl, h12]; rfl
        have hs := M.dby_succ y
        have hc : M.cum y 12 + M.dim y 12 = 365 + M.lp y := by
          have a1 := M.cum_succ y 12 (by omega)
          have a2 : M.cum y (12 + 1) = 365 + M.lp y := M.cum_last y
          omega
        have hnum : M.num y m d = M.dby (y + 1) - 1 := by rw [hl, h12]; unfold M.num; omega
        have hy2 : y + 1 ≤ 2099 := by
          rcases Int.lt_or_le y 2099 with h | h
          · omega
          · have ey : y = 2099 := by omega
            subst ey
            have : M.dby (2099 + 1) = 43830 := by decide
            omega
        have e1 : M.dayOf (y + 1) 1 1 = M.num (y + 1) 1 1 := by unfold M.dayOf; rw [if_pos (M.vld_mk ⟨by omega, by omega⟩ ⟨by omega, by omega⟩ ⟨by omega, by have := M.dim_bd (y + 1) 1; omega⟩)]
        have hc1 := M.cum_one (y + 1)
        have hn1 : M.num (y + 1) 1 1 = M.dby (y + 1) := by unfold M.num; omega
        have f5 : (M.dayOf (y + 1) 1 1 == M.dayOf y m d + 1) = true := by rw [beq_iff_eq]; omega
        clear hs hc hc1 hnum hn1 e1 hM nb v2 v3 v4 hdm e0 hl
        subst h12
        subst hd31
        have emd' : M.mdays y 12 = 31 := emd
        clear emd
        go_wp2_with fail
        have e0 := World.cell?_alloc_new w3 #[.int .i64 y, .int .i64 12, .int .i64 32] 30 0
        have e1 := World.cell?_alloc_new w3 #[.int .i64 y, .int .i64 12, .int .i64 32] 30 1
        have e2 := World.cell?_alloc_new w3 #[.int .i64 y, .int .i64 12, .int .i64 32] 30 2
        have g0 := World.frozen?_alloc_new w3 #[.int .i64 y, .int .i64 12, .int .i64 32] 30 0
        have g1 := World.frozen?_alloc_new w3 #[.int .i64 y, .int .i64 12, .int .i64 32] 30 1
        have g2 := World.frozen?_alloc_new w3 #[.int .i64 y, .int .i64 12, .int .i64 32] 30 2
        have k0 := (World.cell?_alloc_lt w3 (.cells #[.int .i64 y, .int .i64 12, .int .i64 32] 30) ⟨D, 0, none⟩ hD3).trans d0
        have k1 := (World.cell?_alloc_lt w3 (.cells #[.int .i64 y, .int .i64 12, .int .i64 32] 30) ⟨D, 1, none⟩ hD3).trans d1
        have k2 := (World.cell?_alloc_lt w3 (.cells #[.int .i64 y, .int .i64 12, .int .i64 32] 30) ⟨D, 2, none⟩ hD3).trans d2
        have b5 := b3.alloc s3 (.cells #[.int .i64 y, .int .i64 12, .int .i64 32] 30)
        have s5 := b5.size
        have hDE : D ≠ w3.heap.size := by omega
        have hED : w3.heap.size ≠ D := by omega
        generalize w3.alloc (.cells #[.int .i64 y, .int .i64 12, .int .i64 32] 30) = V at e0 e1 e2 g0 g1 g2 k0 k1 k2 b5 s5 ⊢
        generalize w3.heap.size = E at e0 e1 e2 g0 g1 g2 hDE hED s3 ⊢
        have e0' : V.cell? ⟨E, 0, none⟩ = some (.int .i64 y) := e0
        have e1' : V.cell? ⟨E, 1, none⟩ = some (.int .i64 12) := e1
        have e2' : V.cell? ⟨E, 2, none⟩ = some (.int .i64 32) := e2
        clear e0 e1 e2 d0 d1 d2 b3 hD3
        go_quiet ((go_at_call 18; exact qs (mdays_impl _ _)))
        have q0 : (V.drewN nq).cell? ⟨E, 0, none⟩ = some (.int .i64 y) := e0'
        have q1 : (V.drewN nq).cell? ⟨E, 1, none⟩ = some (.int .i64 12) := e1'
        have q2 : (V.drewN nq).cell? ⟨E, 2, none⟩ = some (.int .i64 32) := e2'
        have p0 : (V.drewN nq).frozen? ⟨E, 0, none⟩ = false := g0
        have p1 : (V.drewN nq).frozen? ⟨E, 1, none⟩ = false := g1
        have p2 : (V.drewN nq).frozen? ⟨E, 2, none⟩ = false := g2
        have r0 : (V.drewN nq).cell? ⟨D, 0, none⟩ = some (.int .i64 y) := k0
        have r1 : (V.drewN nq).cell? ⟨D, 1, none⟩ = some (.int .i64 12) := k1
        have r2 : (V.drewN nq).cell? ⟨D, 2, none⟩ = some (.int .i64 31) := k2
        have b6 : Below w.heap.size w (V.drewN nq) := below_drewN b5 nq
        have s6 := b6.size
        clear e0' e1' e2' g0 g1 g2 k0 k1 k2 b5 s5
        generalize V.drewN nq = V2 at q0 q1 q2 p0 p1 p2 r0 r1 r2 b6 s6 ⊢
        go_upto_if 53 with (fail)
        have stu := cells3 V2 E _ _ _ (.int .i64 y) (.int .i64 13) (.int .i64 1) q0 q1 q2
        obtain ⟨u0, u1, u2, faru⟩ := stu
        have uf0 : (((V2.setCell ⟨E, 0, none⟩ (.int .i64 y)).setCell ⟨E, 1, none⟩ (.int .i64 13)).setCell ⟨E, 2, none⟩ (.int .i64 1)).frozen? ⟨E, 0, none⟩ = false := by simpa using p0
        have uf1 : (((V2.setCell ⟨E, 0, none⟩ (.int .i64 y)).setCell ⟨E, 1, none⟩ (.int .i64 13)).setCell ⟨E, 2, none⟩ (.int .i64 1)).frozen? ⟨E, 1, none⟩ = false := by simpa using p1
        have uf2 : (((V2.setCell ⟨E, 0, none⟩ (.int .i64 y)).setCell ⟨E, 1, none⟩ (.int .i64 13)).setCell ⟨E, 2, none⟩ (.int .i64 1)).frozen? ⟨E, 2, none⟩ = false := by simpa using p2
        have b7 : Below w.heap.size w (((V2.setCell ⟨E, 0, none⟩ (.int .i64 y)).setCell ⟨E, 1, none⟩ (.int .i64 13)).setCell ⟨E, 2, none⟩ (.int .i64 1)) := ((b6.setCell (p := ⟨E, 0, none⟩) s3 _).setCell (p := ⟨E, 1, none⟩) s3 _).setCell (p := ⟨E, 2, none⟩) s3 _
        have x0 := (faru D 0 hDE).trans r0
        clear q0 q1 q2 p0 p1 p2 r0 r1 r2 faru
        generalize ((V2.setCell ⟨E, 0, none⟩ (.int .i64 y)).setCell ⟨E, 1, none⟩ (.int .i64 13)).setCell ⟨E, 2, none⟩ (.int .i64 1) = V3 at u0 u1 u2 uf0 uf1 uf2 b7 x0 ⊢
        go_upto_region 12 with (fail)
        have stv := cells3 V3 E _ _ _ (.int .i64 (y + 1)) (.int .i64 1) (.int .i64 1) u0 u1 u2
        obtain ⟨v0, v1, v2, farv⟩ := stv
        have vf0 : (((V3.setCell ⟨E, 0, none⟩ (.int .i64 (y + 1))).setCell ⟨E, 1, none⟩ (.int .i64 1)).setCell ⟨E, 2, none⟩ (.int .i64 1)).frozen? ⟨E, 0, none⟩ = false := by simpa using uf0
        have vf1 : (((V3.setCell ⟨E, 0, none⟩ (.int .i64 (y + 1))).setCell ⟨E, 1, none⟩ (.int .i64 1)).setCell ⟨E, 2, none⟩ (.int .i64 1)).frozen? ⟨E, 1, none⟩ = false := by simpa using uf1
        have vf2 : (((V3.setCell ⟨E, 0, none⟩ (.int .i64 (y + 1))).setCell ⟨E, 1, none⟩ (.int .i64 1)).setCell ⟨E, 2, none⟩ (.int .i64 1)).frozen? ⟨E, 2, none⟩ = false := by simpa using uf2
        have b8 : Below w.heap.size w (((V3.setCell ⟨E, 0, none⟩ (.int .i64 (y + 1))).setCell ⟨E, 1, none⟩ (.int .i64 1)).setCell ⟨E, 2, none⟩ (.int .i64 1)) := ((b7.setCell (p := ⟨E, 0, none⟩) s3 _).setCell (p := ⟨E, 1, none⟩) s3 _).setCell (p := ⟨E, 2, none⟩) s3 _
        clear u0 u1 u2 uf0 uf1 uf2 farv x0
        generalize ((V3.setCell ⟨E, 0, none⟩ (.int .i64 (y + 1))).setCell ⟨E, 1, none⟩ (.int .i64 1)).setCell ⟨E, 2, none⟩ (.int .i64 1) = V4 at v0 v1 v2 vf0 vf1 vf2 b8 ⊢
        go_wp2_with fail
        refine (dayOf_impl _ _ _ _).mono ?_
        rintro e w4 ⟨rfl, hb⟩
        go_wp2
        go_ret
        exact ⟨rfl, b8.trans (hb.mono b8.size)⟩
      · have f4 : (m == 12) = false := by rw [beq_eq_false_iff_ne]; omega
        have hc := M.cum_succ y m v2
        have e1 : M.dayOf y (m + 1) 1 = M.num y (m + 1) 1 := by unfold M.dayOf; rw [if_pos (M.vld_mk v1 ⟨by omega, by omega⟩ ⟨by omega, by have := M.dim_bd y (m + 1); omega⟩)]
        have hn1 : M.num y (m + 1) 1 = M.num y m d + 1 := by unfold M.num; omega
        have f5 : (M.dayOf y (m + 1) 1 == M.dayOf y m d + 1) = true := by rw [beq_iff_eq]; omega
        clear e0 e1 nb v3 v4 hc hM h12 hn1
        subst hl
        go_wp2_with fail
        have e0 := World.cell?_alloc_new w3 #[.int .i64 y, .int .i64 m, .int .i64 (M.dim y m + 1)] 30 0
        have e1 := World.cell?_alloc_new w3 #[.int .i64 y, .int .i64 m, .int .i64 (M.dim y m + 1)] 30 1
        have e2 := World.cell?_alloc_new w3 #[.int .i64 y, .int .i64 m, .int .i64 (M.dim y m + 1)] 30 2
        have g0 := World.frozen?_alloc_new w3 #[.int .i64 y, .int .i64 m, .int .i64 (M.dim y m + 1)] 30 0
        have g1 := World.frozen?_alloc_new w3 #[.int .i64 y, .int .i64 m, .int .i64 (M.dim y m + 1)] 30 1
        have g2 := World.frozen?_alloc_new w3 #[.int .i64 y, .int .i64 m, .int .i64 (M.dim y m + 1)] 30 2
        have k0 := (World.cell?_alloc_lt w3 (.cells #[.int .i64 y, .int .i64 m, .int .i64 (M.dim y m + 1)] 30) ⟨D, 0, none⟩ hD3).trans d0
        have k1 := (World.cell?_alloc_lt w3 (.cells #[.int .i64 y, .int .i64 m, .int .i64 (M.dim y m + 1)] 30) ⟨D, 1, none⟩ hD3).trans d1
        have k2 := (World.cell?_alloc_lt w3 (.cells #[.int .i64 y, .int .i64 m, .int .i64 (M.dim y m + 1)] 30) ⟨D, 2, none⟩ hD3).trans d2
        have b5 := b3.alloc s3 (.cells #[.int .i64 y, .int .i64 m, .int .i64 (M.dim y m + 1)] 30)
        have s5 := b5.size
        have hDE : D ≠ w3.heap.size := by omega
        have hED : w3.heap.size ≠ D := by omega
        generalize w3.alloc (.cells #[.int .i64 y, .int .i64 m, .int .i64 (M.dim y m + 1)] 30) = V at e0 e1 e2 g0 g1 g2 k0 k1 k2 b5 s5 ⊢
        generalize w3.heap.size = E at e0 e1 e2 g0 g1 g2 hDE hED s3 ⊢
        have e0' : V.cell? ⟨E, 0, none⟩ = some (.int .i64 y) := e0
        have e1' : V.cell? ⟨E, 1, none⟩ = some (.int .i64 m) := e1
        have e2' : V.cell? ⟨E, 2, none⟩ = some (.int .i64 (M.dim y m + 1)) := e2
        clear e0 e1 e2 d0 d1 d2 b3 hD3
        go_quiet ((go_at_call 18; exact qs (mdays_impl _ _)))
        have q0 : (V.drewN nq).cell? ⟨E, 0, none⟩ = some (.int .i64 y) := e0'
        have q1 : (V.drewN nq).cell? ⟨E, 1, none⟩ = some (.int .i64 m) := e1'
        have q2 : (V.drewN nq).cell? ⟨E, 2, none⟩ = some (.int .i64 (M.dim y m + 1)) := e2'
        have p0 : (V.drewN nq).frozen? ⟨E, 0, none⟩ = false := g0
        have p1 : (V.drewN nq).frozen? ⟨E, 1, none⟩ = false := g1
        have p2 : (V.drewN nq).frozen? ⟨E, 2, none⟩ = false := g2
        have r0 : (V.drewN nq).cell? ⟨D, 0, none⟩ = some (.int .i64 y) := k0
        have r1 : (V.drewN nq).cell? ⟨D, 1, none⟩ = some (.int .i64 m) := k1
        have r2 : (V.drewN nq).cell? ⟨D, 2, none⟩ = some (.int .i64 (M.dim y m)) := k2
        have b6 : Below w.heap.size w (V.drewN nq) := below_drewN b5 nq
        have s6 := b6.size
        clear e0' e1' e2' g0 g1 g2 k0 k1 k2 b5 s5
        generalize V.drewN nq = V2 at q0 q1 q2 p0 p1 p2 r0 r1 r2 b6 s6 ⊢
        go_upto_if 53 with (fail)
        have stu := cells3 V2 E _ _ _ (.int .i64 y) (.int .i64 (m + 1)) (.int .i64 1) q0 q1 q2
        obtain ⟨u0, u1, u2, faru⟩ := stu
        have uf0 : (((V2.setCell ⟨E, 0, none⟩ (.int .i64 y)).setCell ⟨E, 1, none⟩ (.int .i64 (m + 1))).setCell ⟨E, 2, none⟩ (.int .i64 1)).frozen? ⟨E, 0, none⟩ = false := by simpa using p0
        have uf1 : (((V2.setCell ⟨E, 0, none⟩ (.int .i64 y)).setCell ⟨E, 1, none⟩ (.int .i64 (m + 1))).setCell ⟨E, 2, none⟩ (.int .i64 1)).frozen? ⟨E, 1, none⟩ = false := by simpa using p1
        have uf2 : (((V2.setCell ⟨E, 0, none⟩ (.int .i64 y)).setCell ⟨E, 1, none⟩ (.int .i64 (m + 1))).setCell ⟨E, 2, none⟩ (.int .i64 1)).frozen? ⟨E, 2, none⟩ = false := by simpa using p2
        have b7 : Below w.heap.size w (((V2.setCell ⟨E, 0, none⟩ (.int .i64 y)).setCell ⟨E, 1, none⟩ (.int .i64 (m + 1))).setCell ⟨E, 2, none⟩ (.int .i64 1)) := ((b6.setCell (p := ⟨E, 0, none⟩) s3 _).setCell (p := ⟨E, 1, none⟩) s3 _).setCell (p := ⟨E, 2, none⟩) s3 _
        clear q0 q1 q2 p0 p1 p2 r0 r1 r2 faru
        generalize ((V2.setCell ⟨E, 0, none⟩ (.int .i64 y)).setCell ⟨E, 1, none⟩ (.int .i64 (m + 1))).setCell ⟨E, 2, none⟩ (.int .i64 1) = V3 at u0 u1 u2 uf0 uf1 uf2 b7 ⊢
        go_wp2_with fail
        refine (dayOf_impl _ _ _ _).mono ?_
        rintro e w4 ⟨rfl, hb⟩
        go_wp2
        go_ret
        exact ⟨rfl, b7.trans (hb.mono b7.size)⟩
    · have f3 : (d == M.mdays y m) = false := by rw [beq_eq_false_iff_ne]; omega
      have e1 : M.dayOf y m (d + 1) = M.num y m (d + 1) := by unfold M.dayOf; rw [if_pos (M.vld_mk v1 v2 ⟨by omega, by omega⟩)]
      have hn1 : M.num y m (d + 1) = M.num y m d + 1 := by unfold M.num; omega
      have f5 : (M.dayOf y m (d + 1) == M.dayOf y m d + 1) = true := by rw [beq_iff_eq]; omega
      clear e0 e1 nb v2 v4 emd hM hl hdm hn1
      go_wp2_with fail
      have e0 := World.cell?_alloc_new w3 #[.int .i64 y, .int .i64 m, .int .i64 (d + 1)] 30 0
      have e1 := World.cell?_alloc_new w3 #[.int .i64 y, .int .i64 m, .int .i64 (d + 1)] 30 1
      have e2 := World.cell?_alloc_new w3 #[.int .i64 y, .int .i64 m, .int .i64 (d + 1)] 30 2
      have g0 := World.frozen?_alloc_new w3 #[.int .i64 y, .int .i64 m, .int .i64 (d + 1)] 30 0
      have g1 := World.frozen?_alloc_new w3 #[.int .i64 y, .int .i64 m, .int .i64 (d + 1)] 30 1
      have g2 := World.frozen?_alloc_new w3 #[.int .i64 y, .int .i64 m, .int .i64 (d + 1)] 30 2
      have k0 := (World.cell?_alloc_lt w3 (.cells #[.int .i64 y, .int .i64 m, .int .i64 (d + 1)] 30) ⟨D, 0, none⟩ hD3).trans d0
      have k1 := (World.cell?_alloc_lt w3 (.cells #[.int .i64 y, .int .i64 m, .int .i64 (d + 1)] 30) ⟨D, 1, none⟩ hD3).trans d1
      have k2 := (World.cell?_alloc_lt w3 (.cells #[.int .i64 y, .int .i64 m, .int .i64 (d + 1)] 30) ⟨D, 2, none⟩ hD3).trans d2
      have b5 := b3.alloc s3 (.cells #[.int .i64 y, .int .i64 m, .int .i64 (d + 1)] 30)
      have s5 := b5.size
      have hDE : D ≠ w3.heap.size := by omega
      have hED : w3.heap.size ≠ D := by omega
      generalize w3.alloc (.cells #[.int .i64 y, .int .i64 m, .int .i64 (d + 1)] 30) = V at e0 e1 e2 g0 g1 g2 k0 k1 k2 b5 s5 ⊢
      generalize w3.heap.size = E at e0 e1 e2 g0 g1 g2 hDE hED s3 ⊢
      have e0' : V.cell? ⟨E, 0, none⟩ = some (.int .i64 y) := e0
      have e1' : V.cell? ⟨E, 1, none⟩ = some (.int .i64 m) := e1
      have e2' : V.cell? ⟨E, 2, none⟩ = some (.int .i64 (d + 1)) := e2
      clear e0 e1 e2 d0 d1 d2 b3 hD3
      go_quiet ((go_at_call 18; exact qs (mdays_impl _ _)))
      have q0 : (V.drewN nq).cell? ⟨E, 0, none⟩ = some (.int .i64 y) := e0'
      have q1 : (V.drewN nq).cell? ⟨E, 1, none⟩ = some (.int .i64 m) := e1'
      have q2 : (V.drewN nq).cell? ⟨E, 2, none⟩ = some (.int .i64 (d + 1)) := e2'
      have p0 : (V.drewN nq).frozen? ⟨E, 0, none⟩ = false := g0
      have p1 : (V.drewN nq).frozen? ⟨E, 1, none⟩ = false := g1
      have p2 : (V.drewN nq).frozen? ⟨E, 2, none⟩ = false := g2
      have r0 : (V.drewN nq).cell? ⟨D, 0, none⟩ = some (.int .i64 y) := k0
      have r1 : (V.drewN nq).cell? ⟨D, 1, none⟩ = some (.int .i64 m) := k1
      have r2 : (V.drewN nq).cell? ⟨D, 2, none⟩ = some (.int .i64 d) := k2
      have b6 : Below w.heap.size w (V.drewN nq) := below_drewN b5 nq
      have s6 := b6.size
      clear e0' e1' e2' g0 g1 g2 k0 k1 k2 b5 s5
      generalize V.drewN nq = V2 at q0 q1 q2 p0 p1 p2 r0 r1 r2 b6 s6 ⊢
      go_wp2_with fail
      refine (dayOf_impl _ _ _ _).mono ?_
      rintro e w4 ⟨rfl, hb⟩
      go_wp2
      go_ret
      refine ⟨rfl, Below.trans ?_ (hb.mono ?_)⟩
      · repeat (first | exact b6 | apply below_drewN | apply Below.drew | refine Below.setCell ?_ s3 _)
      · first | exact s6 | (simp; exact s6)

/-! ### THE ROW's STEP: WRITTEN OUT: LEAVE IT -/
set_option maxRecDepth 100000 in
theorem lifted (os : Os) (started : os.Started) (H : Type) (enc : TypeId × Value → H) :
    ReturnsInHanded {} Try.checked os 7 .any (Rows.fnDayOfNextSpec.pre6 enc Try.prog Try.f7 Rows.fnDayOfNextRow.domain false) (Rows.fnDayOfNextSpec.post enc Try.prog Try.f7 false true false false) := by
  refine returnsInHanded_of_change (C := Try.checked) own started (by kernel_rfl) Try.func7
    (ChangeSpec.witness6 (enc := enc) (C := Try.checked) false ⟨#[], #[.slice none 0 0], []⟩ 8 (by kernel_rfl) (by kernel_rfl) (by kernel_rfl) (by kernel_rfl)) ?_
  intro W base args ds gs before hval0 hW hcnd _
  have hval : ∀ (j : Nat) t v, Try.f7.params[j]? = some t → args[j]? = some v → Value.okWide Try.prog W .any base t v := hval0
  have hW' := hW
  obtain ⟨p, q, hA0, hV, rfl, hfz, hnd⟩ := hW
  have hA : DataW.TrodAll enc Try.prog W 0 (fun _ => true) true Try.f7.params.toList args.toList ds p := hA0
  rw [Try.params7] at hA hval
  obtain ⟨v0, vs0, d0, ds0, p0, q0, hargs, rfl, rfl, h0, r0⟩ := trodAll_cons hA
  obtain ⟨rfl, rfl, rfl⟩ := trodAll_nil r0
  obtain rfl : args = #[v0] := by cases args; simp_all
  obtain ⟨rfl, rfl⟩ := trodVars_none hV
  obtain ⟨a0, len0, cap0, rfl⟩ := okWide_slice Try.underlying22 (hval 0 22 v0 rfl rfl)
  have k0 := h0
  have lt0 : ∀ x ∈ p0, x.block < W.heap.size := by obtain ⟨m, hm⟩ := k0; exact DataW.trod_lt m _ _ _ hm
  obtain ⟨z0, w0⟩ : ∃ zs, IsRow .u8 W a0 len0 cap0 zs := by
    obtain ⟨fuel, hf⟩ := h0
    rcases open_ints Try.underlying22 Try.underlying5 (by kernel_rfl) hf with ⟨hcs, _⟩ | ⟨x, l, c, zs, hcs, _, hl, hm, hz, _, hcell, hwz⟩
    · simp [Value.cells] at hcs
      obtain ⟨rfl, rfl, rfl⟩ := hcs
      exact ⟨[], .inl ⟨rfl, rfl, rfl, rfl⟩⟩
    · simp [Value.cells] at hcs
      obtain ⟨rfl, rfl, rfl⟩ := hcs
      exact ⟨zs, .inr ⟨_, rfl, hl, hm, by simpa using hz, hcell, hwz⟩⟩
  clear hA0 hval0
  refine (walk a0 len0 cap0 z0 W w0).mono fun e W' ⟨he, bel⟩ => ?_
  subst he
  exact ⟨_, rfl, _, _, _, [], _, [], hW', trodAll_mk1 (shut_bool Try.underlying4 _), (trodAll_cons_mk (Below.trod laidOut (by kernel_rfl) (of_decide_eq_true (by kernel_rfl)) k0 bel lt0) trodAll_mk0), rfl, bel.frame _, fun h => by cases h⟩

theorem over : Rows.fnDayOfNextRow.holds Try.pinned (OpenSpec.ofChange Rows.fnDayOfNextSpec) :=
  OpenClaim.holds_of_wide 7 Try.f7 rfl rfl rfl rfl rfl rfl rfl ⟨rfl, rfl, rfl, rfl, rfl⟩ rfl rfl rfl rfl rfl (by kernel_rfl) Try.func7 (by kernel_rfl)
    (of_decide_eq_true (by kernel_rfl)) (by unfold Func.isWrapper; first | (rw [if_pos (by decide +kernel)]; kernel_rfl) | (rw [if_neg (by decide +kernel)]; exact ⟨rfl, rfl⟩))
    (fun os started H enc _ => lifted os started H enc)

/-- ████ THE STATEMENT ████ -/
theorem proved : Rows.FnDayOfNextSaid := over
#print axioms proved
end Go.Proofs.Ytdccajcfhhlpfaa.fnDayOfNext
