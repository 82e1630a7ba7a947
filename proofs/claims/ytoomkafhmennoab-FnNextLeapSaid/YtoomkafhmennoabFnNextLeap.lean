/-
  PROVED: FnNextLeap: for every input the law returns true, and the input reads as it did. No condition.
  The frame is as the kit prints it (proof-skeleton.mjs); the walk is mine.
-/
import Derived.Test.YtoomkafhmennoabRows
import Derived.Test.YtoomkafhmennoabLeapF
import Derived.Test.YtoomkafhmennoabDrawL
import Derived.Test.YtoomkafhmennoabLMathB
import Derived.WalkKit
import Derived.ProofKit
import Derived.OpenShut
import Derived.ShutString
import Derived.ChangeOld
import Derived.Below
namespace Go.Proofs.Ytoomkafhmennoab.fnNextLeap
open Go.ChangeShapes Go.WideShapes Go.ChangeAt Go.RowKit
open Go.ChangeMaps (open_string shut_string)
set_option linter.unusedVariables false

theorem own : ownKnob Try.prog.godebug = none := by kernel_rfl
theorem laidOut : laidOutB Try.prog = true := by kernel_rfl

/-- WHAT THE WALK IS TOLD OF A SLICE OF INTEGERS THAT CAME IN: it is nil; or it leads to a row of 'cap' cells, the numbers 'zs' (the first 'len' are its elements, the rest its spare room), each fitting its kind. -/
def IsRow (k : IntKind) (w : World) (a : Option Addr) (len cap : Nat) (zs : List Int) : Prop :=
  (a = none ∧ len = 0 ∧ cap = 0 ∧ zs = []) ∨
  ∃ x, a = some x ∧ len ≤ cap ∧ cap ≤ maxLen ∧ zs.length = cap ∧ (∀ i, i < zs.length → w.cell? (x.add i) = some (.int k (zs.getD i 0))) ∧ ∀ n ∈ zs, (Lit.int k n).wf = true

/-! ### STEP 1: THE WALK: the Go text returns true, AND WRITES NOTHING THAT WAS THERE: 'Below w.heap.size w w'' (Derived/Below.lean: '.refl', '.alloc', '.drew', '.setCell' at a new block, '.trans'). Open each 'IsRow' by 'rcases' AHEAD of 'go_enter'; part every test ahead of the walk. -/
set_option maxHeartbeats 1000000 in
theorem walk (a0 : Option Addr) (len0 cap0 : Nat) (z0 : List Int) (w : World) (w0 : IsRow .u8 w a0 len0 cap0 z0) :
    Calls Try.prog 6 #[.slice a0 len0 cap0] w fun e w' => e = .returned (.bool true) ∧ Below w.heap.size w w' := by
  by_cases hl : 1048576 < len0
  · have hl' : (1048576 : Int) < (len0 : Int) := by omega
    clear w0 hl
    go_enter Try.func6, Try.ntmps6
    go_wp2
    go_ret
    exact ⟨rfl, Below.refl _ _⟩
  have hl' : ¬ (1048576 : Int) < (len0 : Int) := by omega
  obtain ⟨hc, hcap⟩ := code_of w0 (by omega)
  clear w0 hl
  go_enter Try.func6, Try.ntmps6
  go_wp2_with fail
  refine (DrawNextLeap_any w a0 len0 cap0 hc hcap).mono ?_
  rintro e w1 ⟨a, n, c, l, t, rfl, hL, hn, hnc, hm, ht, bl, hfr⟩
  clear hc hcap
  clear hfr
  by_cases hin : (L.vl l = true ∧ 0 ≤ t ∧ t ≤ 3786479999) ∧ L.cnt l t < l.length
  · have e1 := L.nxt_in hin.1.1 hin.1.2 hin.2
    have r1 := L.rng hin.1.1 hin.2
    have k0 := L.cut hin.1.1 t
    have hl := hL.1
    have hnx : L.nxt l t = L.g l (L.cnt l t) := e1
    have f1 : 0 ≤ L.nxt l t ∧ L.nxt l t ≤ 1893239999 := by omega
    have f2 : t ≤ L.nxt l t := by have := k0.hi _ (Nat.le_refl _) hin.2; omega
    have g1 : L.isIn l (L.nxt l t) = true := L.isIn_yes _ hin.2 e1.symm
    have g2 : L.lb l (L.nxt l t) = L.lb l t := by
      rw [L.lb_in hin.1.1 hin.1.2, L.lb_in hin.1.1 (by omega), L.Cut.cnt (j := L.cnt l t) ⟨k0.le, fun i hi => by have := L.ascv hin.1.1 hi hin.2; omega, fun i h1 h2 => by
        rcases Nat.lt_or_ge (L.cnt l t) i with y | y
        · have := L.ascv hin.1.1 y h2; omega
        · obtain rfl : i = L.cnt l t := by omega
          omega⟩]
    have f3 : (L.lb l (L.nxt l t) == L.lb l t) = true := by rw [beq_iff_eq]; exact g2
    have hgap : ∀ i, i < n → L.g l i < t ∨ L.nxt l t ≤ L.g l i := fun i hi => by
      rcases Nat.lt_or_ge i (L.cnt l t) with y | y
      · exact .inl (k0.lo i y)
      · right
        rcases Nat.lt_or_ge (L.cnt l t) i with z | z
        · have := L.ascv hin.1.1 z (by omega); omega
        · obtain rfl : i = L.cnt l t := by omega
          omega
    have HG := Lib.hid hgap
    clear hgap e1 hnx r1 k0 hl g2 hin
    go_wp2_with (first | (go_at_call 23; refine (nxt_impl _ _ _ _ _ _ _ (by assumption)).mono ?_; rintro e w' ⟨rfl, rfl⟩) | (go_at_call 24; refine (nxt_spec _ _ _ _ _ _ _ (by assumption)).mono ?_; rintro e w' ⟨rfl, q⟩; have hL' := Lst.s (by assumption) q; have bl' := bel_same (by assumption) q))
    have hLx := hL'
    have blx := bl'
    go_loop [6] (fun i => ∃ k : Nat, k ≤ n ∧ i = .int .i64 k) (fun i => n - (intOf i).toNat)
    case atStart => exact ⟨0, Nat.zero_le _, rfl⟩
    case round =>
      obtain ⟨k, hk, rfl⟩ := hrel
      by_cases hlt : k < n
      · obtain ⟨b, off, rfl, hb, hcl⟩ := hLx.at_ k hlt
        have ck := hcl k hlt
        rcases HG.out k hlt with hg | hg
        · have d1 : decide (t ≤ L.g l k) = false := by simp; omega
          clear hcl
          go_wp2
          go_round
          case rel => exact ⟨k + 1, by omega, by go_num⟩
          case measure => simp [intOf]; omega
        · by_cases hd : t ≤ L.g l k
          · have d2 : decide (L.g l k < L.nxt l t) = false := by simp; omega
            clear hcl
            go_wp2
            go_round
            case rel => exact ⟨k + 1, by omega, by go_num⟩
            case measure => simp [intOf]; omega
          · have d1 : decide (t ≤ L.g l k) = false := by simp; omega
            clear hcl
            go_wp2
            go_round
            case rel => exact ⟨k + 1, by omega, by go_num⟩
            case measure => simp [intOf]; omega
      · go_wp2_with (first | (go_at_call 26; refine (lb_impl _ _ _ _ _ _ _ (by assumption)).mono ?_; rintro e w' ⟨rfl, rfl⟩) | (go_at_call 25; refine (isIn_25 _ _ _ _ _ _ _ (by assumption)).mono ?_; rintro e w' ⟨rfl, rfl⟩))
        go_ret
        exact ⟨ret_bool (by first | rfl | simp), blx⟩
  · have e0 := L.nxt_out (l := l) (t := t) (fun k => hin ⟨⟨k.1, k.2.1⟩, k.2.2⟩)
    have f1 : L.nxt l t < 0 := by omega
    clear e0 hin
    go_wp2_with (first | (go_at_call 23; refine (nxt_impl _ _ _ _ _ _ _ (by assumption)).mono ?_; rintro e w' ⟨rfl, rfl⟩) | (go_at_call 24; refine (nxt_spec _ _ _ _ _ _ _ (by assumption)).mono ?_; rintro e w' ⟨rfl, q⟩; have hL' := Lst.s (by assumption) q; have bl' := bel_same (by assumption) q))
    go_ret
    exact ⟨ret_bool (by simp), by assumption⟩

/-! ### THE ROW's STEP: WRITTEN OUT: LEAVE IT -/
set_option maxRecDepth 100000 in
theorem lifted (os : Os) (started : os.Started) (H : Type) (enc : TypeId × Value → H) :
    ReturnsInHanded {} Try.checked os 6 .any (Rows.fnNextLeapSpec.pre6 enc Try.prog Try.f6 Rows.fnNextLeapRow.domain false) (Rows.fnNextLeapSpec.post enc Try.prog Try.f6 false true false false) := by
  refine returnsInHanded_of_change (C := Try.checked) own started (by kernel_rfl) Try.func6
    (ChangeSpec.witness6 (enc := enc) (C := Try.checked) false ⟨#[], #[.slice none 0 0], []⟩ 8 (by kernel_rfl) (by kernel_rfl) (by kernel_rfl) (by kernel_rfl)) ?_
  intro W base args ds gs before hval0 hW hcnd _
  have hval : ∀ (j : Nat) t v, Try.f6.params[j]? = some t → args[j]? = some v → Value.okWide Try.prog W .any base t v := hval0
  have hW' := hW
  obtain ⟨p, q, hA0, hV, rfl, hfz, hnd⟩ := hW
  have hA : DataW.TrodAll enc Try.prog W 0 (fun _ => true) true Try.f6.params.toList args.toList ds p := hA0
  rw [Try.params6] at hA hval
  obtain ⟨v0, vs0, d0, ds0, p0, q0, hargs, rfl, rfl, h0, r0⟩ := trodAll_cons hA
  obtain ⟨rfl, rfl, rfl⟩ := trodAll_nil r0
  obtain rfl : args = #[v0] := by cases args; simp_all
  obtain ⟨rfl, rfl⟩ := trodVars_none hV
  obtain ⟨a0, len0, cap0, rfl⟩ := okWide_slice Try.underlying22 (hval 0 22 v0 rfl rfl)
  have k0 := h0
  have lt0 : ∀ x ∈ p0, x.block < W.heap.size := by obtain ⟨m, hm⟩ := k0; exact DataW.trod_lt m _ _ _ hm
  obtain ⟨z0, w0⟩ : ∃ zs, IsRow .u8 W a0 len0 cap0 zs := by
    obtain ⟨fuel, hf⟩ := h0
    rcases open_ints Try.underlying22 Try.underlying5 (by kernel_rfl) hf with ⟨hcs, _⟩ | ⟨x, l, c, zs, hcs, _, hl, hm, hz, _, hcell, hwz⟩
    · simp [Value.cells] at hcs
      obtain ⟨rfl, rfl, rfl⟩ := hcs
      exact ⟨[], .inl ⟨rfl, rfl, rfl, rfl⟩⟩
    · simp [Value.cells] at hcs
      obtain ⟨rfl, rfl, rfl⟩ := hcs
      exact ⟨zs, .inr ⟨_, rfl, hl, hm, by simpa using hz, hcell, hwz⟩⟩
  clear hA0 hval0
  refine (walk a0 len0 cap0 z0 W w0).mono fun e W' ⟨he, bel⟩ => ?_
  subst he
  exact ⟨_, rfl, _, _, _, [], _, [], hW', trodAll_mk1 (shut_bool Try.underlying4 _), (trodAll_cons_mk (Below.trod laidOut (by kernel_rfl) (of_decide_eq_true (by kernel_rfl)) k0 bel lt0) trodAll_mk0), rfl, bel.frame _, fun h => by cases h⟩

theorem over : Rows.fnNextLeapRow.holds Try.pinned (OpenSpec.ofChange Rows.fnNextLeapSpec) :=
  OpenClaim.holds_of_wide 6 Try.f6 rfl rfl rfl rfl rfl rfl rfl ⟨rfl, rfl, rfl, rfl, rfl⟩ rfl rfl rfl rfl rfl (by kernel_rfl) Try.func6 (by kernel_rfl)
    (of_decide_eq_true (by kernel_rfl)) (by unfold Func.isWrapper; first | (rw [if_pos (by decide +kernel)]; kernel_rfl) | (rw [if_neg (by decide +kernel)]; exact ⟨rfl, rfl⟩))
    (fun os started H enc _ => lifted os started H enc)

/-- ████ THE STATEMENT ████ -/
theorem proved : Rows.FnNextLeapSaid := over
#print axioms proved
end Go.Proofs.Ytoomkafhmennoab.fnNextLeap
