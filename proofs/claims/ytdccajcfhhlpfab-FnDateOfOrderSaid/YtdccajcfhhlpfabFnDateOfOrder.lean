/-
  PROVED: FnDateOfOrder: for every input the law returns true, and the input reads as it did. No condition.
  The frame is as the kit prints it (proof-skeleton.mjs); the walk is mine.
-/
import Derived.Test.YtdccajcfhhlpfabRows
import Derived.Test.YtdccajcfhhlpfabCalN
import Derived.Test.YtdccajcfhhlpfabCalX
import Derived.Test.YtdccajcfhhlpfabDrawD
import Derived.WalkKit
import Derived.WalkSpells
import Derived.Deep.RegionWith
import Derived.ProofKit
import Derived.OpenShut
import Derived.ShutString
import Derived.ChangeOld
import Derived.Below
namespace Go.Proofs.Ytdccajcfhhlpfab.fnDateOfOrder
open Go.ChangeShapes Go.WideShapes Go.ChangeAt Go.RowKit
open Go.ChangeMaps (open_string shut_string)
set_option linter.unusedVariables false

theorem own : ownKnob Try.prog.godebug = none := by kernel_rfl
theorem laidOut : laidOutB Try.prog = true := by kernel_rfl

/-- WHAT THE WALK IS TOLD OF A SLICE OF INTEGERS THAT CAME IN: it is nil; or it leads to a row of 'cap' cells, the numbers 'zs' (the first 'len' are its elements, the rest its spare room), each fitting its kind. -/
def IsRow (k : IntKind) (w : World) (a : Option Addr) (len cap : Nat) (zs : List Int) : Prop :=
  (a = none ∧ len = 0 ∧ cap = 0 ∧ zs = []) ∨
  ∃ x, a = some x ∧ len ≤ cap ∧ cap ≤ maxLen ∧ zs.length = cap ∧ (∀ i, i < zs.length → w.cell? (x.add i) = some (.int k (zs.getD i 0))) ∧ ∀ n ∈ zs, (Lit.int k n).wf = true

/-! ### STEP 1: THE WALK: the Go text returns true, AND WRITES NOTHING THAT WAS THERE: 'Below w.heap.size w w'' (Derived/Below.lean: '.refl', '.alloc', '.drew', '.setCell' at a new block, '.trans'). Open each 'IsRow' by 'rcases' AHEAD of 'go_enter'; part every test ahead of the walk. -/
set_option maxHeartbeats 40000000 in
theorem walk (a0 : Option Addr) (len0 cap0 : Nat) (z0 : List Int) (w : World) (w0 : IsRow .u8 w a0 len0 cap0 z0) :
    Calls Try.prog 10 #[.slice a0 len0 cap0] w fun e w' => e = .returned (.bool true) ∧ Below w.heap.size w w' := by
  by_cases hl : 1048576 < len0
  · have hl' : (1048576 : Int) < (len0 : Int) := by omega
    clear w0 hl
    go_enter Try.func10, Try.ntmps10
    go_wp2
    go_ret
    exact ⟨rfl, Below.refl _ _⟩
  have hl' : ¬ (1048576 : Int) < (len0 : Int) := by omega
  obtain ⟨hc, hcap⟩ := code_of w0 (by omega)
  clear w0 hl
  go_enter Try.func10, Try.ntmps10
  go_wp2_with fail
  refine (DrawDateOf_any w a0 len0 cap0 hc hcap).mono ?_
  rintro e w1 ⟨n, rfl, t0, t1, bl⟩
  clear hc hcap
  go_wp2_with fail
  refine (dateOf_impl _ _).mono ?_
  rintro e w2 ⟨rfl, hb⟩
  have b2 : Below w.heap.size w w2 := bl.trans (hb.mono bl.size)
  have bW := b2.alloc b2.size (.cells #[.int .i64 (M.dtY n), .int .i64 (M.dtM n), .int .i64 (M.dtD n)] 33)
  have sW := bW.size
  have x0 := World.cell?_alloc_new w2 #[.int .i64 (M.dtY n), .int .i64 (M.dtM n), .int .i64 (M.dtD n)] 33 0
  have x1 := World.cell?_alloc_new w2 #[.int .i64 (M.dtY n), .int .i64 (M.dtM n), .int .i64 (M.dtD n)] 33 1
  have x2 := World.cell?_alloc_new w2 #[.int .i64 (M.dtY n), .int .i64 (M.dtM n), .int .i64 (M.dtD n)] 33 2
  have hD : w2.heap.size < (w2.alloc (.cells #[.int .i64 (M.dtY n), .int .i64 (M.dtM n), .int .i64 (M.dtD n)] 33)).heap.size := by simp
  clear hb bl b2
  go_wp2_with fail
  generalize w2.alloc (.cells #[.int .i64 (M.dtY n), .int .i64 (M.dtM n), .int .i64 (M.dtD n)] 33) = W at bW sW x0 x1 x2 hD ⊢
  generalize w2.heap.size = D at x0 x1 x2 hD ⊢
  have c0 : W.cell? ⟨D, 0, none⟩ = some (.int .i64 (M.dtY n)) := x0
  have c1 : W.cell? ⟨D, 1, none⟩ = some (.int .i64 (M.dtM n)) := x1
  have c2 : W.cell? ⟨D, 2, none⟩ = some (.int .i64 (M.dtD n)) := x2
  clear x0 x1 x2
  by_cases a1 : n < 0
  · have a2 : decide (n < 0) = true := by simpa using a1
    (first | (go_region_with ((go_at_call 33; go_must (refine (dateOf_spec _ _).mono ?_; rintro e w3 ⟨rfl, hb3⟩; have d30 : w3.cell? ⟨D, 0, none⟩ = some (.int .i64 (M.dtY n)) := (hb3.cell (p := ⟨D, 0, none⟩) hD).trans c0; have d31 : w3.cell? ⟨D, 1, none⟩ = some (.int .i64 (M.dtM n)) := (hb3.cell (p := ⟨D, 1, none⟩) hD).trans c1; have d32 : w3.cell? ⟨D, 2, none⟩ = some (.int .i64 (M.dtD n)) := (hb3.cell (p := ⟨D, 2, none⟩) hD).trans c2; have b3 : Below w.heap.size w w3 := bW.drew.trans (hb3.mono sW); have hD3 : D < w3.heap.size := Nat.lt_of_lt_of_le hD hb3.size; have s3 := b3.size; clear hb3)))) | fail)
    all_goals
      go_wp2_with fail
      (first | (go_region_with ((go_at_call 33; go_must (refine (dateOf_spec _ _).mono ?_; rintro e w4 ⟨rfl, hb4⟩; have d40 : w4.cell? ⟨D, 0, none⟩ = some (.int .i64 (M.dtY n)) := (hb4.cell (p := ⟨D, 0, none⟩) hD3).trans d30; have d41 : w4.cell? ⟨D, 1, none⟩ = some (.int .i64 (M.dtM n)) := (hb4.cell (p := ⟨D, 1, none⟩) hD3).trans d31; have d42 : w4.cell? ⟨D, 2, none⟩ = some (.int .i64 (M.dtD n)) := (hb4.cell (p := ⟨D, 2, none⟩) hD3).trans d32; have b4 : Below w.heap.size w w4 := b3.drew.trans (hb4.mono s3); have hD4 : D < w4.heap.size := Nat.lt_of_lt_of_le hD3 hb4.size; have s4 := b4.size; clear hb4)))) | fail)
    all_goals
      go_wp2
      go_ret
      exact ⟨ret_bool (by simp), by repeat (first | exact b4 | apply Below.drew)⟩
  by_cases a4 : n + 17 ≤ 43829
  · have a2 : decide (n < 0) = false := by simpa using a1
    have a3 : decide (43829 < n + 17) = false := by simp; omega
    have o1 : 0 ≤ n ∧ n ≤ 43829 := by omega
    have o2 : 0 ≤ n + 17 ∧ n + 17 ≤ 43829 := by omega
    obtain ⟨i1, i2, i3⟩ := M.dt_in o1
    obtain ⟨j1, j2, j3⟩ := M.dt_in o2
    have g := M.good n o1.1 o1.2
    have k := M.good (n + 17) o2.1 o2.2
    obtain ⟨-, -, -, -, -, -, g1, g2, g3, g4, g5, g6, g7⟩ := g
    obtain ⟨-, -, -, -, -, -, k1, k2, k3, k4, k5, k6, k7⟩ := k
    rw [← i1] at g1 g2
    rw [← i2] at g3 g4
    rw [← i3] at g5
    rw [← i1, ← i2, ← i3] at g6 g7
    rw [← j1] at k1 k2
    rw [← j2] at k3 k4
    rw [← j3] at k5
    rw [← j1, ← j2, ← j3] at k6 k7
    clear i1 i2 i3 j1 j2 j3
    have in1 := M.cum_in (M.dtY n) (M.dtM n) (M.dtD n) ⟨g3, g4⟩ g6
    have in2 := M.cum_in (M.dtY (n + 17)) (M.dtM (n + 17)) (M.dtD (n + 17)) ⟨k3, k4⟩ k6
    have cb1 := M.cum_bd (M.dtY n) (M.dtM n) (by omega)
    have cb2 := M.cum_bd (M.dtY (n + 17)) (M.dtM (n + 17)) (by omega)
    unfold M.num at g7 k7
    have lo : M.dtY n ≤ M.dtY (n + 17) := by
      rcases Int.lt_or_le (M.dtY (n + 17)) (M.dtY n) with h | h
      · have := M.dby_mono _ _ h
        omega
      · exact h
    have hB : M.dtY (n + 17) = M.dtY n → M.dtM n ≤ M.dtM (n + 17) ∧ (M.dtM (n + 17) = M.dtM n → M.dtD (n + 17) = M.dtD n + 17) := by
      intro e
      rw [e] at k6 k7 in2 cb2
      refine ⟨?_, fun h => by rw [h] at k7; omega⟩
      rcases Int.lt_or_le (M.dtM (n + 17)) (M.dtM n) with h | h
      · have := M.cum_lt (M.dtY n) (M.dtM (n + 17)) (M.dtM n) k3 h (by omega)
        omega
      · exact h
    have HB := Lib.hid hB
    clear hB g7 k7 in1 in2 cb1 cb2
    clear o1 o2
    have iw : IntKind.i64.wrap (n + 17) = n + 17 := IntWalk.i64_in _ (by omega)
    go_region_held3 (fun w' => w'.cell? ⟨D, 0, none⟩ = some (.int .i64 (M.dtY n)) ∧ w'.cell? ⟨D, 1, none⟩ = some (.int .i64 (M.dtM n)) ∧ w'.cell? ⟨D, 2, none⟩ = some (.int .i64 (M.dtD n)))
      (first | exact ⟨c0, c1, c2⟩ | (refine ⟨(hb.cell (p := ⟨D, 0, none⟩) ?_).trans ?_, (hb.cell (p := ⟨D, 1, none⟩) ?_).trans ?_, (hb.cell (p := ⟨D, 2, none⟩) ?_).trans ?_⟩ <;> (first | assumption | exact hD)))
      ((go_at_call 33; refine (dateOf_spec _ _).mono ?_; rintro e w3 ⟨rfl, hb⟩))
    have b3 : Below w.heap.size w w3 := bW.drew.trans (hb.mono sW)
    have d0 : w3.cell? ⟨D, 0, none⟩ = some (.int .i64 (M.dtY n)) := (hb.cell (p := ⟨D, 0, none⟩) hD).trans c0
    have d1 : w3.cell? ⟨D, 1, none⟩ = some (.int .i64 (M.dtM n)) := (hb.cell (p := ⟨D, 1, none⟩) hD).trans c1
    have d2 : w3.cell? ⟨D, 2, none⟩ = some (.int .i64 (M.dtD n)) := (hb.cell (p := ⟨D, 2, none⟩) hD).trans c2
    have hD3 : D < w3.heap.size := Nat.lt_of_lt_of_le hD hb.size
    have s3 := b3.size
    clear hb c0 c1 c2 bW sW iw
    go_wp2_with fail
    refine (dateOf_impl _ _).mono ?_
    rintro e w4 ⟨rfl, hb⟩
    have k0 : w4.cell? ⟨D, 0, none⟩ = some (.int .i64 (M.dtY n)) := (hb.cell (p := ⟨D, 0, none⟩) hD3).trans d0
    have k1 : w4.cell? ⟨D, 1, none⟩ = some (.int .i64 (M.dtM n)) := (hb.cell (p := ⟨D, 1, none⟩) hD3).trans d1
    have k2 : w4.cell? ⟨D, 2, none⟩ = some (.int .i64 (M.dtD n)) := (hb.cell (p := ⟨D, 2, none⟩) hD3).trans d2
    have b4 : Below w.heap.size w w4 := b3.trans (hb.mono s3)
    have hD4 : D < w4.heap.size := Nat.lt_of_lt_of_le hD3 hb.size
    have s4 := b4.size
    clear hb d0 d1 d2 b3 hD3 s3
    by_cases hA : M.dtY n < M.dtY (n + 17)
    · clear lo
      go_wp2
      go_ret
      exact ⟨rfl, b4.alloc s4 _⟩
    · have f0 : decide (M.dtY n < M.dtY (n + 17)) = false := by simpa using hA
      have e1 : M.dtY (n + 17) = M.dtY n := by omega
      have f1 : (M.dtY (n + 17) == M.dtY n) = true := by rw [beq_iff_eq]; exact e1
      obtain ⟨q1, q2⟩ := HB.out e1
      by_cases hC : M.dtM n < M.dtM (n + 17)
      · clear e1 q1 q2 hA lo
        go_wp2
        go_ret
        exact ⟨rfl, b4.alloc s4 _⟩
      · have f2 : decide (M.dtM n < M.dtM (n + 17)) = false := by simpa using hC
        have e2 : M.dtM (n + 17) = M.dtM n := by omega
        have f3 : (M.dtM (n + 17) == M.dtM n) = true := by rw [beq_iff_eq]; exact e2
        have f4 : (M.dtD (n + 17) == M.dtD n + 17) = true := by rw [beq_iff_eq]; exact q2 e2
        have f5 := M.dim_bd (M.dtY n) (M.dtM n)
        have f6 : M.dtD n ≤ 31 := by omega
        clear e1 e2 q1 q2 hA hC lo f5
        go_wp2
        go_ret
        exact ⟨rfl, b4.alloc s4 _⟩
  · have a2 : decide (n < 0) = false := by simpa using a1
    have a3 : decide (43829 < n + 17) = true := by simp; omega
    clear a4 a1
    have iw : IntKind.i64.wrap (n + 17) = n + 17 := IntWalk.i64_in _ (by omega)
    go_region_held3 (fun w' => w'.cell? ⟨D, 0, none⟩ = some (.int .i64 (M.dtY n)) ∧ w'.cell? ⟨D, 1, none⟩ = some (.int .i64 (M.dtM n)) ∧ w'.cell? ⟨D, 2, none⟩ = some (.int .i64 (M.dtD n)))
      (first | exact ⟨c0, c1, c2⟩ | (refine ⟨(hb.cell (p := ⟨D, 0, none⟩) ?_).trans ?_, (hb.cell (p := ⟨D, 1, none⟩) ?_).trans ?_, (hb.cell (p := ⟨D, 2, none⟩) ?_).trans ?_⟩ <;> (first | assumption | exact hD)))
      ((go_at_call 33; refine (dateOf_spec _ _).mono ?_; rintro e w3 ⟨rfl, hb⟩))
    have b3 : Below w.heap.size w w3 := bW.drew.trans (hb.mono sW)
    have d0 : w3.cell? ⟨D, 0, none⟩ = some (.int .i64 (M.dtY n)) := (hb.cell (p := ⟨D, 0, none⟩) hD).trans c0
    have d1 : w3.cell? ⟨D, 1, none⟩ = some (.int .i64 (M.dtM n)) := (hb.cell (p := ⟨D, 1, none⟩) hD).trans c1
    have d2 : w3.cell? ⟨D, 2, none⟩ = some (.int .i64 (M.dtD n)) := (hb.cell (p := ⟨D, 2, none⟩) hD).trans c2
    have hD3 : D < w3.heap.size := Nat.lt_of_lt_of_le hD hb.size
    have s3 := b3.size
    clear hb c0 c1 c2 bW sW iw
    go_wp2_with fail
    go_region_held3 (fun w' => w'.cell? ⟨D, 0, none⟩ = some (.int .i64 (M.dtY n)) ∧ w'.cell? ⟨D, 1, none⟩ = some (.int .i64 (M.dtM n)) ∧ w'.cell? ⟨D, 2, none⟩ = some (.int .i64 (M.dtD n)))
      (first | exact ⟨d0, d1, d2⟩ | (refine ⟨(hb.cell (p := ⟨D, 0, none⟩) ?_).trans ?_, (hb.cell (p := ⟨D, 1, none⟩) ?_).trans ?_, (hb.cell (p := ⟨D, 2, none⟩) ?_).trans ?_⟩ <;> (first | assumption | exact hD3)))
      ((go_at_call 33; refine (dateOf_spec _ _).mono ?_; rintro e w4 ⟨rfl, hb⟩))
    go_wp2
    go_ret
    exact ⟨ret_bool (by simp), b3.drew.trans (hb.mono s3)⟩

/-! ### THE ROW's STEP: WRITTEN OUT: LEAVE IT -/
set_option maxRecDepth 100000 in
theorem lifted (os : Os) (started : os.Started) (H : Type) (enc : TypeId × Value → H) :
    ReturnsInHanded {} Try.checked os 10 .any (Rows.fnDateOfOrderSpec.pre6 enc Try.prog Try.f10 Rows.fnDateOfOrderRow.domain false) (Rows.fnDateOfOrderSpec.post enc Try.prog Try.f10 false true false false) := by
  refine returnsInHanded_of_change (C := Try.checked) own started (by kernel_rfl) Try.func10
    (ChangeSpec.witness6 (enc := enc) (C := Try.checked) false ⟨#[], #[.slice none 0 0], []⟩ 8 (by kernel_rfl) (by kernel_rfl) (by kernel_rfl) (by kernel_rfl)) ?_
  intro W base args ds gs before hval0 hW hcnd _
  have hval : ∀ (j : Nat) t v, Try.f10.params[j]? = some t → args[j]? = some v → Value.okWide Try.prog W .any base t v := hval0
  have hW' := hW
  obtain ⟨p, q, hA0, hV, rfl, hfz, hnd⟩ := hW
  have hA : DataW.TrodAll enc Try.prog W 0 (fun _ => true) true Try.f10.params.toList args.toList ds p := hA0
  rw [Try.params10] at hA hval
  obtain ⟨v0, vs0, d0, ds0, p0, q0, hargs, rfl, rfl, h0, r0⟩ := trodAll_cons hA
  obtain ⟨rfl, rfl, rfl⟩ := trodAll_nil r0
  obtain rfl : args = #[v0] := by cases args; simp_all
  obtain ⟨rfl, rfl⟩ := trodVars_none hV
  obtain ⟨a0, len0, cap0, rfl⟩ := okWide_slice Try.underlying22 (hval 0 22 v0 rfl rfl)
  have k0 := h0
  have lt0 : ∀ x ∈ p0, x.block < W.heap.size := by obtain ⟨m, hm⟩ := k0; exact DataW.trod_lt m _ _ _ hm
  obtain ⟨z0, w0⟩ : ∃ zs, IsRow .u8 W a0 len0 cap0 zs := by
    obtain ⟨fuel, hf⟩ := h0
    rcases open_ints Try.underlying22 Try.underlying5 (by kernel_rfl) hf with ⟨hcs, _⟩ | ⟨x, l, c, zs, hcs, _, hl, hm, hz, _, hcell, hwz⟩
    · simp [Value.cells] at hcs
      obtain ⟨rfl, rfl, rfl⟩ := hcs
      exact ⟨[], .inl ⟨rfl, rfl, rfl, rfl⟩⟩
    · simp [Value.cells] at hcs
      obtain ⟨rfl, rfl, rfl⟩ := hcs
      exact ⟨zs, .inr ⟨_, rfl, hl, hm, by simpa using hz, hcell, hwz⟩⟩
  clear hA0 hval0
  refine (walk a0 len0 cap0 z0 W w0).mono fun e W' ⟨he, bel⟩ => ?_
  subst he
  exact ⟨_, rfl, _, _, _, [], _, [], hW', trodAll_mk1 (shut_bool Try.underlying4 _), (trodAll_cons_mk (Below.trod laidOut (by kernel_rfl) (of_decide_eq_true (by kernel_rfl)) k0 bel lt0) trodAll_mk0), rfl, bel.frame _, fun h => by cases h⟩

theorem over : Rows.fnDateOfOrderRow.holds Try.pinned (OpenSpec.ofChange Rows.fnDateOfOrderSpec) :=
  OpenClaim.holds_of_wide 10 Try.f10 rfl rfl rfl rfl rfl rfl rfl ⟨rfl, rfl, rfl, rfl, rfl⟩ rfl rfl rfl rfl rfl (by kernel_rfl) Try.func10 (by kernel_rfl)
    (of_decide_eq_true (by kernel_rfl)) (by unfold Func.isWrapper; first | (rw [if_pos (by decide +kernel)]; kernel_rfl) | (rw [if_neg (by decide +kernel)]; exact ⟨rfl, rfl⟩))
    (fun os started H enc _ => lifted os started H enc)

/-- ████ THE STATEMENT ████ -/
theorem proved : Rows.FnDateOfOrderSaid := over
#print axioms proved
end Go.Proofs.Ytdccajcfhhlpfab.fnDateOfOrder
