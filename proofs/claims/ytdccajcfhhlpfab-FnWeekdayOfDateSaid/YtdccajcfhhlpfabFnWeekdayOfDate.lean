/-
  PROVED: FnWeekdayOfDate: for every input the law returns true, and the input reads as it did. No condition.
  The frame is as the kit prints it (proof-skeleton.mjs); the walk is mine.
-/
import Derived.Test.YtdccajcfhhlpfabRows
import Derived.Test.YtdccajcfhhlpfabCalN
import Derived.Test.YtdccajcfhhlpfabCalX
import Derived.Test.YtdccajcfhhlpfabDrawD
import Derived.WalkKit
import Derived.ProofKit
import Derived.OpenShut
import Derived.ShutString
import Derived.ChangeOld
import Derived.Below
namespace Go.Proofs.Ytdccajcfhhlpfab.fnWeekdayOfDate
open Go.ChangeShapes Go.WideShapes Go.ChangeAt Go.RowKit
open Go.ChangeMaps (open_string shut_string)
set_option linter.unusedVariables false

theorem own : ownKnob Try.prog.godebug = none := by kernel_rfl
theorem laidOut : laidOutB Try.prog = true := by kernel_rfl

/-- WHAT THE WALK IS TOLD OF A SLICE OF INTEGERS THAT CAME IN: it is nil; or it leads to a row of 'cap' cells, the numbers 'zs' (the first 'len' are its elements, the rest its spare room), each fitting its kind. -/
def IsRow (k : IntKind) (w : World) (a : Option Addr) (len cap : Nat) (zs : List Int) : Prop :=
  (a = none ∧ len = 0 ∧ cap = 0 ∧ zs = []) ∨
  ∃ x, a = some x ∧ len ≤ cap ∧ cap ≤ maxLen ∧ zs.length = cap ∧ (∀ i, i < zs.length → w.cell? (x.add i) = some (.int k (zs.getD i 0))) ∧ ∀ n ∈ zs, (Lit.int k n).wf = true

/-! ### STEP 1: THE WALK: the Go text returns true, AND WRITES NOTHING THAT WAS THERE: 'Below w.heap.size w w'' (Derived/Below.lean: '.refl', '.alloc', '.drew', '.setCell' at a new block, '.trans'). Open each 'IsRow' by 'rcases' AHEAD of 'go_enter'; part every test ahead of the walk. -/
set_option maxHeartbeats 2000000 in
theorem walk (a0 : Option Addr) (len0 cap0 : Nat) (z0 : List Int) (w : World) (w0 : IsRow .u8 w a0 len0 cap0 z0) :
    Calls Try.prog 12 #[.slice a0 len0 cap0] w fun e w' => e = .returned (.bool true) ∧ Below w.heap.size w w' := by
  by_cases hl : 1048576 < len0
  · have hl' : (1048576 : Int) < (len0 : Int) := by omega
    clear w0 hl
    go_enter Try.func12, Try.ntmps12
    go_wp2
    go_ret
    exact ⟨rfl, Below.refl _ _⟩
  have hl' : ¬ (1048576 : Int) < (len0 : Int) := by omega
  obtain ⟨hc, hcap⟩ := code_of w0 (by omega)
  clear w0 hl
  go_enter Try.func12, Try.ntmps12
  go_wp2_with fail
  refine (DrawDayOf_any w a0 len0 cap0 hc hcap).mono ?_
  rintro e w1 ⟨y, m, d, rfl, hy, hm, hd, bl⟩
  clear hc hcap
  have bW := bl.alloc bl.size (.cells #[.int .i64 y, .int .i64 m, .int .i64 d] 33)
  have sW := bW.size
  have x0 := World.cell?_alloc_new w1 #[.int .i64 y, .int .i64 m, .int .i64 d] 33 0
  have x1 := World.cell?_alloc_new w1 #[.int .i64 y, .int .i64 m, .int .i64 d] 33 1
  have x2 := World.cell?_alloc_new w1 #[.int .i64 y, .int .i64 m, .int .i64 d] 33 2
  have hD : w1.heap.size < (w1.alloc (.cells #[.int .i64 y, .int .i64 m, .int .i64 d] 33)).heap.size := by simp
  clear bl
  go_wp2_with fail
  generalize w1.alloc (.cells #[.int .i64 y, .int .i64 m, .int .i64 d] 33) = W at bW sW x0 x1 x2 hD ⊢
  generalize w1.heap.size = D at x0 x1 x2 hD ⊢
  refine (dayOf_impl _ _ _ _).mono ?_
  rintro e w2 ⟨rfl, hb⟩
  have c0 : w2.cell? ⟨D, 0, none⟩ = some (.int .i64 y) := (hb.cell (p := ⟨D, 0, none⟩) hD).trans x0
  have c1 : w2.cell? ⟨D, 1, none⟩ = some (.int .i64 m) := (hb.cell (p := ⟨D, 1, none⟩) hD).trans x1
  have c2 : w2.cell? ⟨D, 2, none⟩ = some (.int .i64 d) := (hb.cell (p := ⟨D, 2, none⟩) hD).trans x2
  have b2 : Below w.heap.size w w2 := bW.trans (hb.mono sW)
  have hD2 : D < w2.heap.size := Nat.lt_of_lt_of_le hD hb.size
  have s2 := b2.size
  clear hb x0 x1 x2 bW sW hD
  go_wp2_with fail
  refine (dayOf_spec _ _ _ _).mono ?_
  rintro e w3 ⟨rfl, hb⟩
  have d0 : w3.cell? ⟨D, 0, none⟩ = some (.int .i64 y) := (hb.cell (p := ⟨D, 0, none⟩) hD2).trans c0
  have d1 : w3.cell? ⟨D, 1, none⟩ = some (.int .i64 m) := (hb.cell (p := ⟨D, 1, none⟩) hD2).trans c1
  have d2 : w3.cell? ⟨D, 2, none⟩ = some (.int .i64 d) := (hb.cell (p := ⟨D, 2, none⟩) hD2).trans c2
  have b3 : Below w.heap.size w w3 := b2.trans (hb.mono s2)
  have hD3 : D < w3.heap.size := Nat.lt_of_lt_of_le hD2 hb.size
  have s3 := b3.size
  clear hb c0 c1 c2 b2 s2 hD2
  cases hv : M.vld y m d
  · have e0 : M.dayOf y m d = -1 := by unfold M.dayOf; rw [hv]; rfl
    have f1 : M.dayOf y m d < 0 := by omega
    clear e0
    go_wp2_with fail
    refine (dayOf_spec _ _ _ _).mono ?_
    rintro e w4 ⟨rfl, hb⟩
    have b4 : Below w.heap.size w w4 := b3.trans (hb.mono s3)
    clear hb
    go_wp2
    go_ret
    exact ⟨ret_bool (by simp), b4⟩
  · have e0 : M.dayOf y m d = M.num y m d := by unfold M.dayOf; rw [hv]; rfl
    have nb := M.num_bd y m d hv
    have hv' := hv
    simp only [M.vld, decide_eq_true_eq] at hv'
    obtain ⟨v1, v2, v3, v4⟩ := hv'
    have f1 : 0 ≤ M.dayOf y m d ∧ M.dayOf y m d ≤ 43829 := by omega
    by_cases h28 : y + 28 ≤ 2099
    · have hlp : M.lp (y + 28) = M.lp y := by rcases M.lp_eq y with ⟨a, b⟩ | ⟨a, b⟩ <;> rcases M.lp_eq (y + 28) with ⟨a', b'⟩ | ⟨a', b'⟩ <;> omega
      have hdim : M.dim (y + 28) m = M.dim y m := by unfold M.dim; rw [hlp]
      have hcum : M.cum (y + 28) m = M.cum y m := by unfold M.cum; rw [hlp]
      have e1 : M.dayOf (y + 28) m d = M.num (y + 28) m d := by unfold M.dayOf; rw [if_pos (M.vld_mk ⟨by omega, by omega⟩ v2 ⟨v3, by omega⟩)]
      have nb2 := M.num_bd (y + 28) m d (M.vld_mk ⟨by omega, by omega⟩ v2 ⟨v3, by omega⟩)
      have hn : M.num (y + 28) m d = M.num y m d + 10227 := by unfold M.num; rw [hcum]; unfold M.dby; omega
      have w1' := M.wday_in (M.dayOf y m d) f1
      have w2' := M.wday_in (M.dayOf (y + 28) m d) (by omega)
      have f2 : (M.wday (M.dayOf (y + 28) m d) == M.wday (M.dayOf y m d)) = true := by rw [beq_iff_eq]; omega
      clear e0 e1 nb nb2 v1 v2 v3 v4 hlp hdim hcum hn w1' w2'
      go_wp2_with fail
      refine (dayOf_impl _ _ _ _).mono ?_
      rintro e w4 ⟨rfl, hb⟩
      have b4 : Below w.heap.size w w4 := b3.trans (hb.mono s3)
      clear hb
      go_wp2_with (first | (go_at_call 36; refine (wday_impl _ _).mono ?_; rintro e w' ⟨rfl, rfl⟩))
      go_ret
      exact ⟨rfl, b4⟩
    · have h28' : 2099 < y + 28 := by omega
      clear e0 nb v1 v2 v3 v4 h28
      go_wp2_with fail
      refine (dayOf_spec _ _ _ _).mono ?_
      rintro e w4 ⟨rfl, hb⟩
      have b4 : Below w.heap.size w w4 := b3.trans (hb.mono s3)
      clear hb
      go_wp2
      go_ret
      exact ⟨ret_bool (by simp), b4⟩

/-! ### THE ROW's STEP: WRITTEN OUT: LEAVE IT -/
set_option maxRecDepth 100000 in
theorem lifted (os : Os) (started : os.Started) (H : Type) (enc : TypeId × Value → H) :
    ReturnsInHanded {} Try.checked os 12 .any (Rows.fnWeekdayOfDateSpec.pre6 enc Try.prog Try.f12 Rows.fnWeekdayOfDateRow.domain false) (Rows.fnWeekdayOfDateSpec.post enc Try.prog Try.f12 false true false false) := by
  refine returnsInHanded_of_change (C := Try.checked) own started (by kernel_rfl) Try.func12
    (ChangeSpec.witness6 (enc := enc) (C := Try.checked) false ⟨#[], #[.slice none 0 0], []⟩ 8 (by kernel_rfl) (by kernel_rfl) (by kernel_rfl) (by kernel_rfl)) ?_
  intro W base args ds gs before hval0 hW hcnd _
  have hval : ∀ (j : Nat) t v, Try.f12.params[j]? = some t → args[j]? = some v → Value.okWide Try.prog W .any base t v := hval0
  have hW' := hW
  obtain ⟨p, q, hA0, hV, rfl, hfz, hnd⟩ := hW
  have hA : DataW.TrodAll enc Try.prog W 0 (fun _ => true) true Try.f12.params.toList args.toList ds p := hA0
  rw [Try.params12] at hA hval
  obtain ⟨v0, vs0, d0, ds0, p0, q0, hargs, rfl, rfl, h0, r0⟩ := trodAll_cons hA
  obtain ⟨rfl, rfl, rfl⟩ := trodAll_nil r0
  obtain rfl : args = #[v0] := by cases args; simp_all
  obtain ⟨rfl, rfl⟩ := trodVars_none hV
  obtain ⟨a0, len0, cap0, rfl⟩ := okWide_slice Try.underlying22 (hval 0 22 v0 rfl rfl)
  have k0 := h0
  have lt0 : ∀ x ∈ p0, x.block < W.heap.size := by obtain ⟨m, hm⟩ := k0; exact DataW.trod_lt m _ _ _ hm
  obtain ⟨z0, w0⟩ : ∃ zs, IsRow .u8 W a0 len0 cap0 zs := by
    obtain ⟨fuel, hf⟩ := h0
    rcases open_ints Try.underlying22 Try.underlying5 (by kernel_rfl) hf with ⟨hcs, _⟩ | ⟨x, l, c, zs, hcs, _, hl, hm, hz, _, hcell, hwz⟩
    · simp [Value.cells] at hcs
      obtain ⟨rfl, rfl, rfl⟩ := hcs
      exact ⟨[], .inl ⟨rfl, rfl, rfl, rfl⟩⟩
    · simp [Value.cells] at hcs
      obtain ⟨rfl, rfl, rfl⟩ := hcs
      exact ⟨zs, .inr ⟨_, rfl, hl, hm, by simpa using hz, hcell, hwz⟩⟩
  clear hA0 hval0
  refine (walk a0 len0 cap0 z0 W w0).mono fun e W' ⟨he, bel⟩ => ?_
  subst he
  exact ⟨_, rfl, _, _, _, [], _, [], hW', trodAll_mk1 (shut_bool Try.underlying4 _), (trodAll_cons_mk (Below.trod laidOut (by kernel_rfl) (of_decide_eq_true (by kernel_rfl)) k0 bel lt0) trodAll_mk0), rfl, bel.frame _, fun h => by cases h⟩

theorem over : Rows.fnWeekdayOfDateRow.holds Try.pinned (OpenSpec.ofChange Rows.fnWeekdayOfDateSpec) :=
  OpenClaim.holds_of_wide 12 Try.f12 rfl rfl rfl rfl rfl rfl rfl ⟨rfl, rfl, rfl, rfl, rfl⟩ rfl rfl rfl rfl rfl (by kernel_rfl) Try.func12 (by kernel_rfl)
    (of_decide_eq_true (by kernel_rfl)) (by unfold Func.isWrapper; first | (rw [if_pos (by decide +kernel)]; kernel_rfl) | (rw [if_neg (by decide +kernel)]; exact ⟨rfl, rfl⟩))
    (fun os started H enc _ => lifted os started H enc)

/-- ████ THE STATEMENT ████ -/
theorem proved : Rows.FnWeekdayOfDateSaid := over
#print axioms proved
end Go.Proofs.Ytdccajcfhhlpfab.fnWeekdayOfDate
