/-
  PROVED: FnGainOfExact: for every input the law returns true, and the input reads as it did. No condition.
  The frame is as the kit prints it (proof-skeleton.mjs); the walk is mine.
-/
import Derived.Test.YtiogcaalapoehaaRows
import Derived.Test.YtiogcaalapoehaaGain
import Derived.Test.YtiogcaalapoehaaDrawU
import Derived.Test.YtiogcaalapoehaaSt
import Derived.Test.YtiogcaalapoehaaOwnL
import Derived.Test.YtiogcaalapoehaaJoin
import Derived.WalkKit
import Derived.ProofKit
import Derived.OpenShut
import Derived.ShutString
import Derived.ChangeOld
import Derived.Below
namespace Go.Proofs.Ytiogcaalapoehaa.fnGainOfExact
open Go.ChangeShapes Go.WideShapes Go.ChangeAt Go.RowKit
open Go.ChangeMaps (open_string shut_string)
set_option linter.unusedVariables false

theorem own : ownKnob Try.prog.godebug = none := by kernel_rfl
theorem laidOut : laidOutB Try.prog = true := by kernel_rfl

/-- WHAT THE WALK IS TOLD OF A SLICE OF INTEGERS THAT CAME IN: it is nil; or it leads to a row of 'cap' cells, the numbers 'zs' (the first 'len' are its elements, the rest its spare room), each fitting its kind. -/
def IsRow (k : IntKind) (w : World) (a : Option Addr) (len cap : Nat) (zs : List Int) : Prop :=
  (a = none ∧ len = 0 ∧ cap = 0 ∧ zs = []) ∨
  ∃ x, a = some x ∧ len ≤ cap ∧ cap ≤ maxLen ∧ zs.length = cap ∧ (∀ i, i < zs.length → w.cell? (x.add i) = some (.int k (zs.getD i 0))) ∧ ∀ n ∈ zs, (Lit.int k n).wf = true

/-! ### STEP 1: THE WALK: the Go text returns true, AND WRITES NOTHING THAT WAS THERE: 'Below w.heap.size w w'' (Derived/Below.lean: '.refl', '.alloc', '.drew', '.setCell' at a new block, '.trans'). Open each 'IsRow' by 'rcases' AHEAD of 'go_enter'; part every test ahead of the walk. -/
set_option maxRecDepth 100000 in
set_option maxHeartbeats 8000000 in
theorem walk (a0 : Option Addr) (len0 cap0 : Nat) (z0 : List Int) (w : World) (w0 : IsRow .u8 w a0 len0 cap0 z0) :
    Calls Try.prog 9 #[.slice a0 len0 cap0] w fun e w' => e = .returned (.bool true) ∧ Below w.heap.size w w' := by
  by_cases hl : 1048576 < len0
  · have hl' : (1048576 : Int) < (len0 : Int) := by omega
    clear w0 hl
    go_enter Try.func9, Try.ntmps9
    go_wp2
    go_ret
    exact ⟨rfl, Below.refl _ _⟩
  have hl' : ¬ (1048576 : Int) < (len0 : Int) := by omega
  obtain ⟨hc, hcap⟩ := code_of w0 (by omega)
  clear w0 hl
  go_enter Try.func9, Try.ntmps9
  go_wp2_with fail
  refine (DrawGainOf_any w a0 len0 cap0 hc hcap).mono ?_
  rintro e w1 ⟨a, c, l, rfl, hl18, hlc, hcm, hS, bl⟩
  clear hc hcap
  have st1 : St w w1 a l.length l := ⟨hS, bl⟩
  clear hS bl hl18 hlc hcm
  have k1 := fun n c a w' (h : Sps w'.heap.size w' a n l) => GN_impl n c a l w' h
  have k2 := fun n c a w' (h : Sps w'.heap.size w' a n l) => GN_spec n c a l w' h
  unfold Gtold at k1 k2
  generalize G.gok l = ok at *
  generalize G.gn l = gn at *
  have K1 := Lib.hid k1
  have K2 := Lib.hid k2
  have hrem : (len0 : Int).tmod 5 = ((len0 % 5 : Nat) : Int) := rfl
  have hr4 : len0 % 5 ≤ 4 := by omega
  generalize len0 % 5 = r at *
  clear k1 k2
  go_wp2_with fail
  refine (K1.out _ _ _ _ st1.here).mono ?_
  rintro e w2 ⟨rfl, b2⟩
  have st2 := st1.b b2
  clear st1 b2
  go_wp2_with fail
  refine (K2.out _ _ _ _ st2.here).mono ?_
  rintro e w3 ⟨rfl, b3⟩
  have bl3 := (st2.b b3).bel
  clear st2 b3
  go_wp2_with fail
  have O0 := Prs.made 43 w3
  have B0 := bl3.trans (((Below.refl w3.heap.size w3).alloc (Nat.le_refl _) (.cells #[] 43)).mono bl3.size)
  have E0 : w3.heap.size ≤ (w3.alloc (.cells #[] 43)).heap.size := by simp
  have hE := bl3.size
  generalize w3.alloc (.cells #[] 43) = w4 at *
  generalize w3.heap.size = E at *
  clear bl3
  go_loopw [8, 9] (fun x i wr => ∃ (k : Nat) (a' : Option Addr) (c' : Nat) (X : List (Int × Int)), k ≤ 2 + r ∧ G.ex k = X ∧ X.length = k ∧ x = .slice a' X.length c' ∧ i = .int .i64 k ∧ Prs 43 E wr a' c' X ∧ E ≤ wr.heap.size ∧ Below w.heap.size w wr) (fun _ i _ => 2 + r - (intOf i).toNat)
  case atStart => exact ⟨0, _, _, [], by omega, rfl, rfl, rfl, rfl, O0, E0, B0⟩
  case round =>
    obtain ⟨k, a', c', X, hk, hX, hXl, rfl, rfl, O, hEw, bl⟩ := hrel
    clear O0 E0 B0
    by_cases hlt : k < 2 + r
    · have hk6 : k ≤ 6 := by omega
      have hlt' : (k : Int) < 2 + (r : Int) := by omega
      have HW := Lib.hid (fun o : Obj => O.keep ((Below.refl wr.heap.size wr).alloc (Nat.le_refl _) o))
      have HE := Lib.hid (fun o : Obj => Nat.le_trans hEw ((Below.refl wr.heap.size wr).alloc (Nat.le_refl _) o).size)
      have HXX := Lib.hid (show X ++ [(500 + 3000000 * (k : Int), 70 + 3 * (k : Int))] = G.ex (k + 1) by rw [← hX, G.ex_snoc])
      have HLEN := Lib.hid (show X.length + 1 ≤ 1000 by omega)
      have HXL := Lib.hid hXl
      have HB := Lib.hid (fun o : Obj => bl.trans (((Below.refl wr.heap.size wr).alloc (Nat.le_refl _) o).mono bl.size))
      have u1 := IntWalk.wrap64_in (3000000 * (k : Int)) (by omega)
      have u2 := IntWalk.wrap64_in (500 + 3000000 * (k : Int)) (by omega)
      have u3 := IntWalk.wrap64_in (3 * (k : Int)) (by omega)
      have u4 := IntWalk.wrap64_in (70 + 3 * (k : Int)) (by omega)
      have u5 := IntWalk.wrap64_in (2 + (r : Int)) (by omega)
      have HK6 := Lib.hid hk6
      have HLT := Lib.hid hlt
      have HR4 := Lib.hid hr4
      clear O hEw hX bl hXl hk6 hk hlt hr4
      go_wp2_with (at_builtin; refine wpList_l rfl _ _ rfl E rfl rfl (HW.out _) (Sps.new _ (500 + 3000000 * (k : Int)) (70 + 3 * (k : Int)) 43) HLEN.out (HE.out _) (G.ex (k + 1)) HXX.out ?_)
      intro a5 c5 w5 O5 b5 _
      clear u1 u2 u3 u4 u5
      have hk6 := HK6.out
      have hlt := HLT.out
      have hr4 := HR4.out
      have hq := G.ex_len (k + 1)
      have F := Lib.hid (And.intro O5 (And.intro (Nat.le_trans (HE.out _) b5.size) ((HB.out _).trans (b5.mono hE))))
      obtain ⟨Y, hY⟩ : ∃ Y, G.ex (k + 1) = Y := ⟨_, rfl⟩
      rw [hY] at hq F
      have HY := Lib.hid hY
      have HYL := Lib.hid hq
      have HYS := Lib.hid (show X.length + 1 = Y.length by rw [hq, HXL.out])
      clear O5 b5 hq hY
      go_wp2
      go_roundw
      case rel => exact ⟨k + 1, a5, c5, Y, by omega, HY.out, HYL.out, by first | rfl | (rw [← HYS.out]; done) | (rw [← HY.out]; done), by go_num, F.out⟩
      case measure => simp [intOf]; omega
    · obtain rfl : k = 2 + r := by omega
      have hg := G.gn_ex (m := 2 + r) (by omega) (by omega)
      rw [hX] at hg
      have hS := prs_sps' O (by omega)
      have k3 := GN_impl X.length c' a' X wr hS
      unfold Gtold at k3
      rw [hg.1, hg.2] at k3
      have K3 := Lib.hid k3
      have HB := Lib.hid bl
      clear k3 hg hS O hX bl hlt hEw hXl
      go_wp2_with fail
      refine K3.out.mono ?_
      rintro e w5 ⟨rfl, b5⟩
      have HB5 := Lib.hid (HB.out.trans (b5.mono HB.out.size))
      clear b5
      go_wp2
      go_ret
      exact ⟨ret_bool (by first | rfl | simp), HB5.out⟩

/-! ### THE ROW's STEP: WRITTEN OUT: LEAVE IT -/
set_option maxRecDepth 100000 in
theorem lifted (os : Os) (started : os.Started) (H : Type) (enc : TypeId × Value → H) :
    ReturnsInHanded {} Try.checked os 9 .any (Rows.fnGainOfExactSpec.pre6 enc Try.prog Try.f9 Rows.fnGainOfExactRow.domain false) (Rows.fnGainOfExactSpec.post enc Try.prog Try.f9 false true false false) := by
  refine returnsInHanded_of_change (C := Try.checked) own started (by kernel_rfl) Try.func9
    (ChangeSpec.witness6 (enc := enc) (C := Try.checked) false ⟨#[], #[.slice none 0 0], []⟩ 8 (by kernel_rfl) (by kernel_rfl) (by kernel_rfl) (by kernel_rfl)) ?_
  intro W base args ds gs before hval0 hW hcnd _
  have hval : ∀ (j : Nat) t v, Try.f9.params[j]? = some t → args[j]? = some v → Value.okWide Try.prog W .any base t v := hval0
  have hW' := hW
  obtain ⟨p, q, hA0, hV, rfl, hfz, hnd⟩ := hW
  have hA : DataW.TrodAll enc Try.prog W 0 (fun _ => true) true Try.f9.params.toList args.toList ds p := hA0
  rw [Try.params9] at hA hval
  obtain ⟨v0, vs0, d0, ds0, p0, q0, hargs, rfl, rfl, h0, r0⟩ := trodAll_cons hA
  obtain ⟨rfl, rfl, rfl⟩ := trodAll_nil r0
  obtain rfl : args = #[v0] := by cases args; simp_all
  obtain ⟨rfl, rfl⟩ := trodVars_none hV
  obtain ⟨a0, len0, cap0, rfl⟩ := okWide_slice Try.underlying22 (hval 0 22 v0 rfl rfl)
  have k0 := h0
  have lt0 : ∀ x ∈ p0, x.block < W.heap.size := by obtain ⟨m, hm⟩ := k0; exact DataW.trod_lt m _ _ _ hm
  obtain ⟨z0, w0⟩ : ∃ zs, IsRow .u8 W a0 len0 cap0 zs := by
    obtain ⟨fuel, hf⟩ := h0
    rcases open_ints Try.underlying22 Try.underlying5 (by kernel_rfl) hf with ⟨hcs, _⟩ | ⟨x, l, c, zs, hcs, _, hl, hm, hz, _, hcell, hwz⟩
    · simp [Value.cells] at hcs
      obtain ⟨rfl, rfl, rfl⟩ := hcs
      exact ⟨[], .inl ⟨rfl, rfl, rfl, rfl⟩⟩
    · simp [Value.cells] at hcs
      obtain ⟨rfl, rfl, rfl⟩ := hcs
      exact ⟨zs, .inr ⟨_, rfl, hl, hm, by simpa using hz, hcell, hwz⟩⟩
  clear hA0 hval0
  refine (walk a0 len0 cap0 z0 W w0).mono fun e W' ⟨he, bel⟩ => ?_
  subst he
  exact ⟨_, rfl, _, _, _, [], _, [], hW', trodAll_mk1 (shut_bool Try.underlying4 _), (trodAll_cons_mk (Below.trod laidOut (by kernel_rfl) (of_decide_eq_true (by kernel_rfl)) k0 bel lt0) trodAll_mk0), rfl, bel.frame _, fun h => by cases h⟩

theorem closed : joinedFacts Try.pinned.checked.prog 9 Try.f9 Rows.fnGainOfExactSpec Rows.fnGainOfExactRow = true := by
  unfold joinedFacts
  rw [mayJ, liftsJ, makeJ]
  kernel_rfl

theorem over : Rows.fnGainOfExactRow.holds Try.pinned (OpenSpec.ofChange Rows.fnGainOfExactSpec) :=
  OpenClaim.holds_of_wide 9 Try.f9 rfl rfl rfl rfl rfl rfl rfl ⟨rfl, rfl, rfl, rfl, rfl⟩ rfl rfl rfl rfl rfl (by kernel_rfl) Try.func9 closed
    (of_decide_eq_true (by kernel_rfl)) (by unfold Func.isWrapper; first | (rw [if_pos (by decide +kernel)]; kernel_rfl) | (rw [if_neg (by decide +kernel)]; exact ⟨rfl, rfl⟩))
    (fun os started H enc _ => lifted os started H enc)

/-- ████ THE STATEMENT ████ -/
theorem proved : Rows.FnGainOfExactSaid := over
#print axioms proved
end Go.Proofs.Ytiogcaalapoehaa.fnGainOfExact
