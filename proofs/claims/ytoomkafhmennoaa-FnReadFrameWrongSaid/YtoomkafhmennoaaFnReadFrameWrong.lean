/-
  PROVED: FnReadFrameWrong: for every input the law returns true, and the input reads as it did. No condition.
  The frame is as the kit prints it (proof-skeleton.mjs); the walk is mine.
-/
import Derived.Test.YtoomkafhmennoaaRows
import Derived.Test.YtoomkafhmennoaaDrawT
import Derived.Test.YtoomkafhmennoaaSMathB
import Derived.Test.YtoomkafhmennoaaRead
import Derived.WalkKit
import Derived.Deep.RegionWith
import Derived.ProofKit
import Derived.OpenShut
import Derived.ShutString
import Derived.ChangeOld
import Derived.Below
namespace Go.Proofs.Ytoomkafhmennoaa.fnReadFrameWrong
open Go.ChangeShapes Go.WideShapes Go.ChangeAt Go.RowKit
open Go.ChangeMaps (open_string shut_string)
set_option linter.unusedVariables false

theorem own : ownKnob Try.prog.godebug = none := by kernel_rfl
theorem laidOut : laidOutB Try.prog = true := by kernel_rfl

/-- WHAT THE WALK IS TOLD OF A SLICE OF INTEGERS THAT CAME IN: it is nil; or it leads to a row of 'cap' cells, the numbers 'zs' (the first 'len' are its elements, the rest its spare room), each fitting its kind. -/
def IsRow (k : IntKind) (w : World) (a : Option Addr) (len cap : Nat) (zs : List Int) : Prop :=
  (a = none ∧ len = 0 ∧ cap = 0 ∧ zs = []) ∨
  ∃ x, a = some x ∧ len ≤ cap ∧ cap ≤ maxLen ∧ zs.length = cap ∧ (∀ i, i < zs.length → w.cell? (x.add i) = some (.int k (zs.getD i 0))) ∧ ∀ n ∈ zs, (Lit.int k n).wf = true

/-! ### STEP 1: THE WALK: the Go text returns true, AND WRITES NOTHING THAT WAS THERE: 'Below w.heap.size w w'' (Derived/Below.lean: '.refl', '.alloc', '.drew', '.setCell' at a new block, '.trans'). Open each 'IsRow' by 'rcases' AHEAD of 'go_enter'; part every test ahead of the walk. -/
theorem bel_b {a w w' : World} (h : Below a.heap.size a w) (hb : Below w.heap.size w w') : Below a.heap.size a w' := h.trans (hb.mono h.size)
theorem run_one {P : Program} (src dst e : TypeId) (hs : P.underlying src = some (.slice e)) (he : P.underlying e = some (.int .u8)) (hd : P.underlying dst = some .string) (D : Nat) (x : UInt8) (v : Int) (hv : v = (x.toNat : Int)) (W : World)
    (h0 : W.cell? ⟨D, 0, none⟩ = some (.int .u8 v)) :
    (convert src dst (.slice (some ⟨D, 0, none⟩) 1 1)).run P W = .ok (.string (S.mk [x])) W := by
  subst hv
  exact run_convert_bytes_back W src dst e ⟨D, 0, none⟩ 1 [x] hs he hd (fun j hj => by
    match j, hj with
    | 0, _ => exact h0)
set_option maxRecDepth 100000 in
set_option maxHeartbeats 4000000 in
theorem walk (a0 : Option Addr) (len0 cap0 : Nat) (z0 : List Int) (w : World) (w0 : IsRow .u8 w a0 len0 cap0 z0) :
    Calls Try.prog 7 #[.slice a0 len0 cap0] w fun e w' => e = .returned (.bool true) ∧ Below w.heap.size w w' := by
  by_cases hl : 1048576 < len0
  · have hl' : (1048576 : Int) < (len0 : Int) := by omega
    clear w0 hl
    go_enter Try.func7, Try.ntmps7
    go_wp2
    go_ret
    exact ⟨rfl, Below.refl _ _⟩
  have hl' : ¬ (1048576 : Int) < (len0 : Int) := by omega
  obtain ⟨hc, hcap⟩ := code_of w0 (by omega)
  clear w0 hl
  go_enter Try.func7, Try.ntmps7
  go_wp2_with fail
  refine (DrawReadFrame_any w a0 len0 cap0 hc hcap).mono ?_
  rintro e w1 ⟨s, rfl, hs, bl⟩
  clear hc hcap
  have hm : s.size ≤ 1048576 := by omega
  rcases hr : S.rdB s with _ | _
  · go_wp2_with (first | (go_at_call 21; refine (read_impl _ (by first | assumption | omega) _).mono ?_; rintro e w2 ⟨rfl, hb2⟩; have bl' := bel_b (by assumption) hb2) | (go_at_call 23; refine (read_spec _ (by first | assumption | omega) _).mono ?_; rintro e w' ⟨rfl, rfl⟩))
    go_ret
    exact ⟨ret_bool (by first | rfl | simp), by assumption⟩
  · have h5 := (S.rdB_of hr).1
    have hz : (S.rdS s).size = s.size - 4 := by rw [S.rdS_yes hr, S.mid_size s (by omega)]
    have hz1 : 1 ≤ (S.rdS s).size := by omega
    have hzI : ((S.rdS s).size : Int) = (s.size : Int) - 4 := by omega
    have hz44 : (S.rdS s).size ≤ 40 := by
      have := (S.body_of (S.rd_body hr)).1
      rw [S.rdS_yes hr]; omega
    go_wp2_with fail
    refine (read_impl _ hm _).mono ?_
    rintro e w2 ⟨rfl, hb2⟩
    have bl2 := bel_b bl hb2
    clear hb2
    go_wp2_with fail
    refine (read_spec _ hm _).mono ?_
    rintro e w2' ⟨rfl, rfl⟩
    obtain ⟨j, hj⟩ : ∃ j : Nat, j = len0 % (S.rdS s).size := ⟨_, rfl⟩
    have hjlt : j < (S.rdS s).size := by rw [hj]; exact Nat.mod_lt _ (by omega)
    have hmod : (len0 : Int) % ((S.rdS s).size : Int) = (j : Int) := by rw [hj]; exact (Int.natCast_emod _ _).symm
    have hj2 : 1 + j < s.size := by omega
    have hj3 : 1 + j ≤ s.size - 4 := by omega
    have hj4 : (1 : Int) + (j : Int) < (s.size : Int) := by omega
    have hat := S.at_get s (1 + j)
    have hzp : (1 : Int) ≤ ((S.rdS s).size : Int) := by omega
    have hF : ∀ c : UInt8, S.at_ s (1 + j) ≠ c.toNat → S.rdB (s.extract 0 (1 + j) ++ S.mk [c] ++ s.extract (1 + j + 1) s.size) = false := fun c hc => S.wrong hr (1 + j) c (by omega) hj3 hc
    have hp : (s.extract 0 (1 + j)).size + (s.extract (1 + j + 1) s.size).size ≤ 20000 := by rw [ByteArray.size_extract, ByteArray.size_extract]; omega
    have hsl1 : ∀ W : World, (Instr.slice 9 (.string s) none (some (.int .i64 (1 + (j : Int)))) none).run Try.prog W = .ok (.string (s.extract 0 (1 + j))) W := fun W => by
      have h := run_slice_string_h (P := Try.prog) W 9 s Try.underlying9 .i64 (1 + (j : Int)) (by omega) (by omega)
      rw [show (1 + (j : Int)).toNat = 1 + j from by omega] at h
      exact h
    have hsl2 : ∀ W : World, (Instr.slice 9 (.string s) (some (.int .i64 (1 + (j : Int) + 1))) none none).run Try.prog W = .ok (.string (s.extract (1 + j + 1) s.size)) W := fun W => by
      have h := run_slice_string_l (P := Try.prog) W 9 s Try.underlying9 .i64 (1 + (j : Int) + 1) (by omega) (by omega)
      rw [show (1 + (j : Int) + 1).toNat = 1 + j + 1 from by omega] at h
      exact h
    generalize s.extract 0 (1 + j) = p at *
    generalize s.extract (1 + j + 1) s.size = q at *
    have HF := Lib.hid hF
    have hlt := S.at_lt s (1 + j)
    clear hF hz hz1 hzI hz44 hj hjlt hj3
    by_cases hc : S.at_ s (1 + j) = 97
    · have g : ((S.at_ s (1 + j) : Int) == 97) = true := by rw [beq_iff_eq]; omega
      have hf := HF.out 98 (by rw [hc]; decide)
      have HC := Lib.hid hc
      clear hc
      have i1 := run_one (P := Try.prog) 22 9 5 Try.underlying22 Try.underlying5 Try.underlying9 w2.heap.size 98 98 rfl (w2.alloc (.cells #[.int .u8 98] 5)).drew (by simp)
      have m1 : (S.mk [98]).size = 1 := S.size_mk _
      have n1 : ¬ 9223372036854775807 < p.size + 1 := by omega
      have n2 : ¬ 9223372036854775807 < p.size + 1 + q.size := by omega
      have hsz : (p ++ S.mk [98] ++ q).size ≤ 1048576 := by rw [S.size_app, S.size_app, m1]; omega
      have HS := Lib.hid hsz
      have C := fun W => read_impl (p ++ S.mk [98] ++ q) HS.out W
      rw [hf] at C
      have HX := Lib.hid C
      clear hsz hf C
      go_wp2
      have ew := IntWalk.i64_in (1 + (j : Int) + 1) (by omega)
      go_region_with ((go_at_call 21; refine (HX.out _).mono ?_; rintro e w5 ⟨rfl, b5⟩))
      all_goals go_wp2
      all_goals go_ret
      all_goals refine ⟨ret_bool (by first | rfl | simp), ?_⟩
      all_goals exact ((bl2.alloc bl2.size _).drew).trans (b5.mono (by have := bl2.size; simp; omega))
    · have g : ((S.at_ s (1 + j) : Int) == 97) = false := by rw [beq_eq_false_iff_ne]; omega
      have hf := HF.out 97 hc
      have HC := Lib.hid hc
      clear hc
      have i1 := run_one (P := Try.prog) 22 9 5 Try.underlying22 Try.underlying5 Try.underlying9 w2.heap.size 97 97 rfl (w2.alloc (.cells #[.int .u8 97] 5)).drew (by simp)
      have m1 : (S.mk [97]).size = 1 := S.size_mk _
      have n1 : ¬ 9223372036854775807 < p.size + 1 := by omega
      have n2 : ¬ 9223372036854775807 < p.size + 1 + q.size := by omega
      have hsz : (p ++ S.mk [97] ++ q).size ≤ 1048576 := by rw [S.size_app, S.size_app, m1]; omega
      have HS := Lib.hid hsz
      have C := fun W => read_impl (p ++ S.mk [97] ++ q) HS.out W
      rw [hf] at C
      have HX := Lib.hid C
      clear hsz hf C
      go_wp2
      have ew := IntWalk.i64_in (1 + (j : Int) + 1) (by omega)
      go_region_with ((go_at_call 21; refine (HX.out _).mono ?_; rintro e w5 ⟨rfl, b5⟩))
      all_goals go_wp2
      all_goals go_ret
      all_goals refine ⟨ret_bool (by first | rfl | simp), ?_⟩
      all_goals exact ((bl2.alloc bl2.size _).drew).trans (b5.mono (by have := bl2.size; simp; omega))

/-! ### THE ROW's STEP: WRITTEN OUT: LEAVE IT -/
set_option maxRecDepth 100000 in
theorem lifted (os : Os) (started : os.Started) (H : Type) (enc : TypeId × Value → H) :
    ReturnsInHanded {} Try.checked os 7 .any (Rows.fnReadFrameWrongSpec.pre6 enc Try.prog Try.f7 Rows.fnReadFrameWrongRow.domain false) (Rows.fnReadFrameWrongSpec.post enc Try.prog Try.f7 false true false false) := by
  refine returnsInHanded_of_change (C := Try.checked) own started (by kernel_rfl) Try.func7
    (ChangeSpec.witness6 (enc := enc) (C := Try.checked) false ⟨#[], #[.slice none 0 0], []⟩ 8 (by kernel_rfl) (by kernel_rfl) (by kernel_rfl) (by kernel_rfl)) ?_
  intro W base args ds gs before hval0 hW hcnd _
  have hval : ∀ (j : Nat) t v, Try.f7.params[j]? = some t → args[j]? = some v → Value.okWide Try.prog W .any base t v := hval0
  have hW' := hW
  obtain ⟨p, q, hA0, hV, rfl, hfz, hnd⟩ := hW
  have hA : DataW.TrodAll enc Try.prog W 0 (fun _ => true) true Try.f7.params.toList args.toList ds p := hA0
  rw [Try.params7] at hA hval
  obtain ⟨v0, vs0, d0, ds0, p0, q0, hargs, rfl, rfl, h0, r0⟩ := trodAll_cons hA
  obtain ⟨rfl, rfl, rfl⟩ := trodAll_nil r0
  obtain rfl : args = #[v0] := by cases args; simp_all
  obtain ⟨rfl, rfl⟩ := trodVars_none hV
  obtain ⟨a0, len0, cap0, rfl⟩ := okWide_slice Try.underlying22 (hval 0 22 v0 rfl rfl)
  have k0 := h0
  have lt0 : ∀ x ∈ p0, x.block < W.heap.size := by obtain ⟨m, hm⟩ := k0; exact DataW.trod_lt m _ _ _ hm
  obtain ⟨z0, w0⟩ : ∃ zs, IsRow .u8 W a0 len0 cap0 zs := by
    obtain ⟨fuel, hf⟩ := h0
    rcases open_ints Try.underlying22 Try.underlying5 (by kernel_rfl) hf with ⟨hcs, _⟩ | ⟨x, l, c, zs, hcs, _, hl, hm, hz, _, hcell, hwz⟩
    · simp [Value.cells] at hcs
      obtain ⟨rfl, rfl, rfl⟩ := hcs
      exact ⟨[], .inl ⟨rfl, rfl, rfl, rfl⟩⟩
    · simp [Value.cells] at hcs
      obtain ⟨rfl, rfl, rfl⟩ := hcs
      exact ⟨zs, .inr ⟨_, rfl, hl, hm, by simpa using hz, hcell, hwz⟩⟩
  clear hA0 hval0
  refine (walk a0 len0 cap0 z0 W w0).mono fun e W' ⟨he, bel⟩ => ?_
  subst he
  exact ⟨_, rfl, _, _, _, [], _, [], hW', trodAll_mk1 (shut_bool Try.underlying4 _), (trodAll_cons_mk (Below.trod laidOut (by kernel_rfl) (of_decide_eq_true (by kernel_rfl)) k0 bel lt0) trodAll_mk0), rfl, bel.frame _, fun h => by cases h⟩

theorem over : Rows.fnReadFrameWrongRow.holds Try.pinned (OpenSpec.ofChange Rows.fnReadFrameWrongSpec) :=
  OpenClaim.holds_of_wide 7 Try.f7 rfl rfl rfl rfl rfl rfl rfl ⟨rfl, rfl, rfl, rfl, rfl⟩ rfl rfl rfl rfl rfl (by kernel_rfl) Try.func7 (by kernel_rfl)
    (of_decide_eq_true (by kernel_rfl)) (by unfold Func.isWrapper; first | (rw [if_pos (by decide +kernel)]; kernel_rfl) | (rw [if_neg (by decide +kernel)]; exact ⟨rfl, rfl⟩))
    (fun os started H enc _ => lifted os started H enc)

/-- ████ THE STATEMENT ████ -/
theorem proved : Rows.FnReadFrameWrongSaid := over
#print axioms proved
end Go.Proofs.Ytoomkafhmennoaa.fnReadFrameWrong
