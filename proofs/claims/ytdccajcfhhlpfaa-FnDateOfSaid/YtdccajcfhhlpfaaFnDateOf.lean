/-
  PROVED: FnDateOf: for every input the law returns true, and the input reads as it did. No condition.
  The frame is as the kit prints it (proof-skeleton.mjs); the walk is mine.
-/
import Derived.Test.YtdccajcfhhlpfaaRows
import Derived.Test.YtdccajcfhhlpfaaCalN
import Derived.Test.YtdccajcfhhlpfaaCalX
import Derived.Test.YtdccajcfhhlpfaaDrawD
import Derived.WalkKit
import Derived.WalkSpells
import Derived.Deep.RegionWith
import Derived.ProofKit
import Derived.OpenShut
import Derived.ShutString
import Derived.ChangeOld
import Derived.Below
namespace Go.Proofs.Ytdccajcfhhlpfaa.fnDateOf
open Go.ChangeShapes Go.WideShapes Go.ChangeAt Go.RowKit
open Go.ChangeMaps (open_string shut_string)
set_option linter.unusedVariables false

theorem own : ownKnob Try.prog.godebug = none := by kernel_rfl
theorem laidOut : laidOutB Try.prog = true := by kernel_rfl

/-- WHAT THE WALK IS TOLD OF A SLICE OF INTEGERS THAT CAME IN: it is nil; or it leads to a row of 'cap' cells, the numbers 'zs' (the first 'len' are its elements, the rest its spare room), each fitting its kind. -/
def IsRow (k : IntKind) (w : World) (a : Option Addr) (len cap : Nat) (zs : List Int) : Prop :=
  (a = none ∧ len = 0 ∧ cap = 0 ∧ zs = []) ∨
  ∃ x, a = some x ∧ len ≤ cap ∧ cap ≤ maxLen ∧ zs.length = cap ∧ (∀ i, i < zs.length → w.cell? (x.add i) = some (.int k (zs.getD i 0))) ∧ ∀ n ∈ zs, (Lit.int k n).wf = true

/-! ### STEP 1: THE WALK: the Go text returns true, AND WRITES NOTHING THAT WAS THERE: 'Below w.heap.size w w'' (Derived/Below.lean: '.refl', '.alloc', '.drew', '.setCell' at a new block, '.trans'). Open each 'IsRow' by 'rcases' AHEAD of 'go_enter'; part every test ahead of the walk. -/
set_option maxHeartbeats 40000000 in
theorem walk (a0 : Option Addr) (len0 cap0 : Nat) (z0 : List Int) (w : World) (w0 : IsRow .u8 w a0 len0 cap0 z0) :
    Calls Try.prog 8 #[.slice a0 len0 cap0] w fun e w' => e = .returned (.bool true) ∧ Below w.heap.size w w' := by
  by_cases hl : 1048576 < len0
  · have hl' : (1048576 : Int) < (len0 : Int) := by omega
    clear w0 hl
    go_enter Try.func8, Try.ntmps8
    go_wp2
    go_ret
    exact ⟨rfl, Below.refl _ _⟩
  have hl' : ¬ (1048576 : Int) < (len0 : Int) := by omega
  obtain ⟨hc, hcap⟩ := code_of w0 (by omega)
  clear w0 hl
  go_enter Try.func8, Try.ntmps8
  go_wp2_with fail
  refine (DrawDateOf_any w a0 len0 cap0 hc hcap).mono ?_
  rintro e w1 ⟨n, rfl, t0, t1, bl⟩
  clear hc hcap
  go_wp2_with fail
  refine (dateOf_impl _ _).mono ?_
  rintro e w2 ⟨rfl, hb⟩
  have b2 : Below w.heap.size w w2 := bl.trans (hb.mono bl.size)
  have bW := b2.alloc b2.size (.cells #[.int .i64 (M.dtY n), .int .i64 (M.dtM n), .int .i64 (M.dtD n)] 30)
  have sW := bW.size
  have x0 := World.cell?_alloc_new w2 #[.int .i64 (M.dtY n), .int .i64 (M.dtM n), .int .i64 (M.dtD n)] 30 0
  have x1 := World.cell?_alloc_new w2 #[.int .i64 (M.dtY n), .int .i64 (M.dtM n), .int .i64 (M.dtD n)] 30 1
  have x2 := World.cell?_alloc_new w2 #[.int .i64 (M.dtY n), .int .i64 (M.dtM n), .int .i64 (M.dtD n)] 30 2
  have hD : w2.heap.size < (w2.alloc (.cells #[.int .i64 (M.dtY n), .int .i64 (M.dtM n), .int .i64 (M.dtD n)] 30)).heap.size := by simp
  clear hb bl b2
  go_wp2_with fail
  generalize w2.alloc (.cells #[.int .i64 (M.dtY n), .int .i64 (M.dtM n), .int .i64 (M.dtD n)] 30) = W at bW sW x0 x1 x2 hD ⊢
  generalize w2.heap.size = D at x0 x1 x2 hD ⊢
  have c0 : W.cell? ⟨D, 0, none⟩ = some (.int .i64 (M.dtY n)) := x0
  have c1 : W.cell? ⟨D, 1, none⟩ = some (.int .i64 (M.dtM n)) := x1
  have c2 : W.cell? ⟨D, 2, none⟩ = some (.int .i64 (M.dtD n)) := x2
  clear x0 x1 x2
  by_cases a0 : 0 ≤ n ∧ n ≤ 43829
  · have g := M.good n a0.1 a0.2
    have dt := M.dt_in a0
    have hv := M.vld_date n a0.1 a0.2
    have e1 : M.dayOf (M.dtY n) (M.dtM n) (M.dtD n) = n := by rw [dt.1, dt.2.1, dt.2.2]; unfold M.dayOf; rw [if_pos hv]; exact g.back
    have e2 : M.mdays (M.dtY n) (M.dtM n) = M.dim (M.dtY n) (M.dtM n) := by rw [dt.1, dt.2.1]; unfold M.mdays; rw [if_pos ⟨⟨g.y0, g.y1⟩, g.m0, g.m1⟩]
    have e3 : 1 ≤ M.dtD n ∧ M.dtD n ≤ M.mdays (M.dtY n) (M.dtM n) := by rw [e2, dt.1, dt.2.1, dt.2.2]; exact ⟨g.d0, g.d1⟩
    have a2 : decide (n < 0) = false := by simp; omega
    have a3 : decide (43829 < n) = false := by simp; omega
    have f1 : (M.dayOf (M.dtY n) (M.dtM n) (M.dtD n) == n) = true := by rw [beq_iff_eq]; exact e1
    have f2 : decide (1 ≤ M.dtD n) = true := by simpa using e3.1
    have f3 : decide (M.dtD n ≤ M.mdays (M.dtY n) (M.dtM n)) = true := by simpa using e3.2
    clear g dt hv e1 e2 a0
    go_region_held3 (fun w' => w'.cell? ⟨D, 0, none⟩ = some (.int .i64 (M.dtY n)) ∧ w'.cell? ⟨D, 1, none⟩ = some (.int .i64 (M.dtM n)) ∧ w'.cell? ⟨D, 2, none⟩ = some (.int .i64 (M.dtD n)))
      (first | exact ⟨c0, c1, c2⟩ | (refine ⟨(hb.cell (p := ⟨D, 0, none⟩) ?_).trans ?_, (hb.cell (p := ⟨D, 1, none⟩) ?_).trans ?_, (hb.cell (p := ⟨D, 2, none⟩) ?_).trans ?_⟩ <;> (first | assumption | exact hD)))
      ((go_at_call 26; refine (dateOf_spec _ _).mono ?_; rintro e w3 ⟨rfl, hb⟩))
    have b3 : Below w.heap.size w w3 := bW.drew.trans (hb.mono sW)
    have d0 : w3.cell? ⟨D, 0, none⟩ = some (.int .i64 (M.dtY n)) := (hb.cell (p := ⟨D, 0, none⟩) hD).trans c0
    have d1 : w3.cell? ⟨D, 1, none⟩ = some (.int .i64 (M.dtM n)) := (hb.cell (p := ⟨D, 1, none⟩) hD).trans c1
    have d2 : w3.cell? ⟨D, 2, none⟩ = some (.int .i64 (M.dtD n)) := (hb.cell (p := ⟨D, 2, none⟩) hD).trans c2
    have hD3 : D < w3.heap.size := Nat.lt_of_lt_of_le hD hb.size
    have s3 := b3.size
    clear hb c0 c1 c2 bW sW
    go_wp2_with fail
    go_region_held3 (fun w' => w'.cell? ⟨D, 0, none⟩ = some (.int .i64 (M.dtY n)) ∧ w'.cell? ⟨D, 1, none⟩ = some (.int .i64 (M.dtM n)) ∧ w'.cell? ⟨D, 2, none⟩ = some (.int .i64 (M.dtD n)))
      (first | exact ⟨d0, d1, d2⟩ | (refine ⟨(hb.cell (p := ⟨D, 0, none⟩) ?_).trans ?_, (hb.cell (p := ⟨D, 1, none⟩) ?_).trans ?_, (hb.cell (p := ⟨D, 2, none⟩) ?_).trans ?_⟩ <;> (first | assumption | exact hD3)))
      ((first | (go_at_call 22; refine (dayOf_impl _ _ _ _).mono ?_; rintro e w4 ⟨rfl, hb⟩) | (go_at_call 18; refine (mdays_impl _ _ _).mono ?_; rintro e w' ⟨rfl, rfl⟩)))
    go_wp2
    go_ret
    exact ⟨rfl, b3.drew.trans (hb.mono s3)⟩
  · by_cases a1 : n < 0
    · have a2 : decide (n < 0) = true := by simpa using a1
      clear a0
      (first | (go_region_with ((go_at_call 26; go_must (refine (dateOf_spec _ _).mono ?_; rintro e w3 ⟨rfl, hb3⟩; have d30 : w3.cell? ⟨D, 0, none⟩ = some (.int .i64 (M.dtY n)) := (hb3.cell (p := ⟨D, 0, none⟩) hD).trans c0; have d31 : w3.cell? ⟨D, 1, none⟩ = some (.int .i64 (M.dtM n)) := (hb3.cell (p := ⟨D, 1, none⟩) hD).trans c1; have d32 : w3.cell? ⟨D, 2, none⟩ = some (.int .i64 (M.dtD n)) := (hb3.cell (p := ⟨D, 2, none⟩) hD).trans c2; have b3 : Below w.heap.size w w3 := bW.drew.trans (hb3.mono sW); have hD3 : D < w3.heap.size := Nat.lt_of_lt_of_le hD hb3.size; have s3 := b3.size; clear hb3)))) | fail)
      all_goals
        go_wp2_with fail
        (first | (go_region_with ((go_at_call 26; go_must (refine (dateOf_spec _ _).mono ?_; rintro e w4 ⟨rfl, hb4⟩; have d40 : w4.cell? ⟨D, 0, none⟩ = some (.int .i64 (M.dtY n)) := (hb4.cell (p := ⟨D, 0, none⟩) hD3).trans d30; have d41 : w4.cell? ⟨D, 1, none⟩ = some (.int .i64 (M.dtM n)) := (hb4.cell (p := ⟨D, 1, none⟩) hD3).trans d31; have d42 : w4.cell? ⟨D, 2, none⟩ = some (.int .i64 (M.dtD n)) := (hb4.cell (p := ⟨D, 2, none⟩) hD3).trans d32; have b4 : Below w.heap.size w w4 := b3.drew.trans (hb4.mono s3); have hD4 : D < w4.heap.size := Nat.lt_of_lt_of_le hD3 hb4.size; have s4 := b4.size; clear hb4)))) | fail)
      all_goals
        go_wp2
        go_ret
        exact ⟨ret_bool (by simp), by repeat (first | exact b4 | apply Below.drew)⟩
    · have a2 : decide (n < 0) = false := by simpa using a1
      have a3 : decide (43829 < n) = true := by simp; omega
      clear a0 a1
      go_region_held3 (fun w' => w'.cell? ⟨D, 0, none⟩ = some (.int .i64 (M.dtY n)) ∧ w'.cell? ⟨D, 1, none⟩ = some (.int .i64 (M.dtM n)) ∧ w'.cell? ⟨D, 2, none⟩ = some (.int .i64 (M.dtD n)))
        (first | exact ⟨c0, c1, c2⟩ | (refine ⟨(hb.cell (p := ⟨D, 0, none⟩) ?_).trans ?_, (hb.cell (p := ⟨D, 1, none⟩) ?_).trans ?_, (hb.cell (p := ⟨D, 2, none⟩) ?_).trans ?_⟩ <;> (first | assumption | exact hD)))
        ((go_at_call 26; refine (dateOf_spec _ _).mono ?_; rintro e w3 ⟨rfl, hb⟩))
      have b3 : Below w.heap.size w w3 := bW.drew.trans (hb.mono sW)
      have d0 : w3.cell? ⟨D, 0, none⟩ = some (.int .i64 (M.dtY n)) := (hb.cell (p := ⟨D, 0, none⟩) hD).trans c0
      have d1 : w3.cell? ⟨D, 1, none⟩ = some (.int .i64 (M.dtM n)) := (hb.cell (p := ⟨D, 1, none⟩) hD).trans c1
      have d2 : w3.cell? ⟨D, 2, none⟩ = some (.int .i64 (M.dtD n)) := (hb.cell (p := ⟨D, 2, none⟩) hD).trans c2
      have hD3 : D < w3.heap.size := Nat.lt_of_lt_of_le hD hb.size
      have s3 := b3.size
      clear hb c0 c1 c2 bW sW
      go_wp2_with fail
      go_region_held3 (fun w' => w'.cell? ⟨D, 0, none⟩ = some (.int .i64 (M.dtY n)) ∧ w'.cell? ⟨D, 1, none⟩ = some (.int .i64 (M.dtM n)) ∧ w'.cell? ⟨D, 2, none⟩ = some (.int .i64 (M.dtD n)))
        (first | exact ⟨d0, d1, d2⟩ | (refine ⟨(hb.cell (p := ⟨D, 0, none⟩) ?_).trans ?_, (hb.cell (p := ⟨D, 1, none⟩) ?_).trans ?_, (hb.cell (p := ⟨D, 2, none⟩) ?_).trans ?_⟩ <;> (first | assumption | exact hD3)))
        ((go_at_call 26; refine (dateOf_spec _ _).mono ?_; rintro e w4 ⟨rfl, hb⟩))
      go_wp2
      go_ret
      exact ⟨ret_bool (by simp), b3.drew.trans (hb.mono s3)⟩

/-! ### THE ROW's STEP: WRITTEN OUT: LEAVE IT -/
set_option maxRecDepth 100000 in
theorem lifted (os : Os) (started : os.Started) (H : Type) (enc : TypeId × Value → H) :
    ReturnsInHanded {} Try.checked os 8 .any (Rows.fnDateOfSpec.pre6 enc Try.prog Try.f8 Rows.fnDateOfRow.domain false) (Rows.fnDateOfSpec.post enc Try.prog Try.f8 false true false false) := by
  refine returnsInHanded_of_change (C := Try.checked) own started (by kernel_rfl) Try.func8
    (ChangeSpec.witness6 (enc := enc) (C := Try.checked) false ⟨#[], #[.slice none 0 0], []⟩ 8 (by kernel_rfl) (by kernel_rfl) (by kernel_rfl) (by kernel_rfl)) ?_
  intro W base args ds gs before hval0 hW hcnd _
  have hval : ∀ (j : Nat) t v, Try.f8.params[j]? = some t → args[j]? = some v → Value.okWide Try.prog W .any base t v := hval0
  have hW' := hW
  obtain ⟨p, q, hA0, hV, rfl, hfz, hnd⟩ := hW
  have hA : DataW.TrodAll enc Try.prog W 0 (fun _ => true) true Try.f8.params.toList args.toList ds p := hA0
  rw [Try.params8] at hA hval
  obtain ⟨v0, vs0, d0, ds0, p0, q0, hargs, rfl, rfl, h0, r0⟩ := trodAll_cons hA
  obtain ⟨rfl, rfl, rfl⟩ := trodAll_nil r0
  obtain rfl : args = #[v0] := by cases args; simp_all
  obtain ⟨rfl, rfl⟩ := trodVars_none hV
  obtain ⟨a0, len0, cap0, rfl⟩ := okWide_slice Try.underlying22 (hval 0 22 v0 rfl rfl)
  have k0 := h0
  have lt0 : ∀ x ∈ p0, x.block < W.heap.size := by obtain ⟨m, hm⟩ := k0; exact DataW.trod_lt m _ _ _ hm
  obtain ⟨z0, w0⟩ : ∃ zs, IsRow .u8 W a0 len0 cap0 zs := by
    obtain ⟨fuel, hf⟩ := h0
    rcases open_ints Try.underlying22 Try.underlying5 (by kernel_rfl) hf with ⟨hcs, _⟩ | ⟨x, l, c, zs, hcs, _, hl, hm, hz, _, hcell, hwz⟩
    · simp [Value.cells] at hcs
      obtain ⟨rfl, rfl, rfl⟩ := hcs
      exact ⟨[], .inl ⟨rfl, rfl, rfl, rfl⟩⟩
    · simp [Value.cells] at hcs
      obtain ⟨rfl, rfl, rfl⟩ := hcs
      exact ⟨zs, .inr ⟨_, rfl, hl, hm, by simpa using hz, hcell, hwz⟩⟩
  clear hA0 hval0
  refine (walk a0 len0 cap0 z0 W w0).mono fun e W' ⟨he, bel⟩ => ?_
  subst he
  exact ⟨_, rfl, _, _, _, [], _, [], hW', trodAll_mk1 (shut_bool Try.underlying4 _), (trodAll_cons_mk (Below.trod laidOut (by kernel_rfl) (of_decide_eq_true (by kernel_rfl)) k0 bel lt0) trodAll_mk0), rfl, bel.frame _, fun h => by cases h⟩

theorem over : Rows.fnDateOfRow.holds Try.pinned (OpenSpec.ofChange Rows.fnDateOfSpec) :=
  OpenClaim.holds_of_wide 8 Try.f8 rfl rfl rfl rfl rfl rfl rfl ⟨rfl, rfl, rfl, rfl, rfl⟩ rfl rfl rfl rfl rfl (by kernel_rfl) Try.func8 (by kernel_rfl)
    (of_decide_eq_true (by kernel_rfl)) (by unfold Func.isWrapper; first | (rw [if_pos (by decide +kernel)]; kernel_rfl) | (rw [if_neg (by decide +kernel)]; exact ⟨rfl, rfl⟩))
    (fun os started H enc _ => lifted os started H enc)

/-- ████ THE STATEMENT ████ -/
theorem proved : Rows.FnDateOfSaid := over
#print axioms proved
end Go.Proofs.Ytdccajcfhhlpfaa.fnDateOf
