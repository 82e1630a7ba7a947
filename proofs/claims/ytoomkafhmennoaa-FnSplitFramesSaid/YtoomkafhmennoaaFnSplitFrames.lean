/-
  PROVED: FnSplitFrames: for every input the law returns true, and the input reads as it did. No condition.
  The frame is as the kit prints it (proof-skeleton.mjs); the walk is mine.
-/
import Derived.Test.YtoomkafhmennoaaRows
import Derived.Test.YtoomkafhmennoaaDrawT
import Derived.Test.YtoomkafhmennoaaSMathC
import Derived.Test.YtoomkafhmennoaaEqS
import Derived.WalkKit
import Derived.ProofKit
import Derived.OpenShut
import Derived.ShutString
import Derived.ChangeOld
import Derived.Below
namespace Go.Proofs.Ytoomkafhmennoaa.fnSplitFrames
open Go.ChangeShapes Go.WideShapes Go.ChangeAt Go.RowKit
open Go.ChangeMaps (open_string shut_string)
set_option linter.unusedVariables false

theorem own : ownKnob Try.prog.godebug = none := by kernel_rfl
theorem laidOut : laidOutB Try.prog = true := by kernel_rfl

/-- WHAT THE WALK IS TOLD OF A SLICE OF INTEGERS THAT CAME IN: it is nil; or it leads to a row of 'cap' cells, the numbers 'zs' (the first 'len' are its elements, the rest its spare room), each fitting its kind. -/
def IsRow (k : IntKind) (w : World) (a : Option Addr) (len cap : Nat) (zs : List Int) : Prop :=
  (a = none ∧ len = 0 ∧ cap = 0 ∧ zs = []) ∨
  ∃ x, a = some x ∧ len ≤ cap ∧ cap ≤ maxLen ∧ zs.length = cap ∧ (∀ i, i < zs.length → w.cell? (x.add i) = some (.int k (zs.getD i 0))) ∧ ∀ n ∈ zs, (Lit.int k n).wf = true

/-! ### STEP 1: THE WALK: the Go text returns true, AND WRITES NOTHING THAT WAS THERE: 'Below w.heap.size w w'' (Derived/Below.lean: '.refl', '.alloc', '.drew', '.setCell' at a new block, '.trans'). Open each 'IsRow' by 'rcases' AHEAD of 'go_enter'; part every test ahead of the walk. -/
theorem bel_b {a w w' : World} (h : Below a.heap.size a w) (hb : Below w.heap.size w w') : Below a.heap.size a w' := h.trans (hb.mono h.size)
set_option maxRecDepth 100000 in
set_option maxHeartbeats 4000000 in
theorem walk (a0 : Option Addr) (len0 cap0 : Nat) (z0 : List Int) (w : World) (w0 : IsRow .u8 w a0 len0 cap0 z0) :
    Calls Try.prog 8 #[.slice a0 len0 cap0] w fun e w' => e = .returned (.bool true) ∧ Below w.heap.size w w' := by
  by_cases hl : 1048576 < len0
  · have hl' : (1048576 : Int) < (len0 : Int) := by omega
    clear w0 hl
    go_enter Try.func8, Try.ntmps8
    go_wp2
    go_ret
    exact ⟨rfl, Below.refl _ _⟩
  have hl' : ¬ (1048576 : Int) < (len0 : Int) := by omega
  obtain ⟨hc, hcap⟩ := code_of w0 (by omega)
  clear w0 hl
  go_enter Try.func8, Try.ntmps8
  go_wp2_with fail
  refine (DrawSplitFrames_any w a0 len0 cap0 hc hcap).mono ?_
  rintro e w1 ⟨s, rfl, hs, bl⟩
  clear hc hcap
  have hm : s.size ≤ 1048576 := by omega
  go_wp2_with fail
  refine (split_impl s hm _).mono ?_
  rintro e w2 ⟨a, c, T, rfl, hS, hT, b2⟩
  have hT8 := hS.len
  have bl2 := bel_b bl b2
  have hR2 := hT.rd
  go_wp2_with fail
  refine (split_spec s hm _).mono ?_
  rintro e w3 ⟨a', c', T', rfl, hS', hT', b3⟩
  obtain rfl := hS.same hS'
  have hR3 := hR2.keep b3 (Nat.le_refl _)
  have bl3 := bel_b bl2 b3
  go_wp2_with fail
  refine (eqS_26 _ _ T.length _ _ _ _ T w3 hR3 hT'.rd (by omega)).mono ?_
  rintro e w4 ⟨rfl, q4⟩
  have hR4 := (hR3.more b3.size).keep (q4.below (B := w3.heap.size)) (Nat.le_refl _)
  have bl4 := bl3.trans (q4.below (B := w.heap.size))
  have z34 := q4.size
  have hO : S.Occ s 0 T := by
    rcases hS with ⟨_, h⟩ | ⟨_, h⟩
    · obtain ⟨T', e, ho⟩ := h.occ
      rw [e]; exact ho
    · rw [h]; exact trivial
  have HO := Lib.hid hO
  have HR := Lib.hid (hR4.more (show w3.heap.size ≤ w4.heap.size by rw [z34]; exact Nat.le_refl _))
  clear hR2 hR3 hT hT' b2 b3 bl bl2 bl3 hS' hS hO hR4 z34 q4
  go_wp2_with fail
  go_loopw [5, 6] (fun x i wr => ∃ A k : Nat, x = .int .i64 A ∧ i = .int .i64 k ∧ k ≤ T.length ∧ A ≤ s.size ∧ S.Occ s A (T.drop k) ∧ Below w4.heap.size w4 wr) (fun _ i _ => T.length - (intOf i).toNat)
  case atStart => exact ⟨0, 0, rfl, rfl, Nat.zero_le _, Nat.zero_le _, HO.out, Below.refl _ _⟩
  case round =>
    obtain ⟨A, k, rfl, rfl, hk, hA, hO, hb⟩ := hrel
    by_cases hlt : k < T.length
    · have hdrop : T.drop k = T.getD k ByteArray.empty :: T.drop (k + 1) := by
        rw [List.drop_eq_getElem_cons hlt, List.getD_eq_getElem?_getD, List.getElem?_eq_getElem hlt]; rfl
      rw [hdrop] at hO
      obtain ⟨p, hp1, hp2, hp3, hbody, hnext⟩ := hO
      obtain ⟨b, off, ha, hbb, hc⟩ := (HR.out.keep hb (Nat.le_refl _)).at_ k hlt
      have ck := hc k hlt
      subst ha
      clear hc hdrop
      generalize T.getD k ByteArray.empty = x at *
      have hfs := S.frame_size hbody
      have hbs := (S.body_of hbody).1
      have hx : x.size ≤ maxLen := by unfold maxLen; omega
      have hf44 := S.frame_le x
      have HP3 := Lib.hid hp3
      have HN := Lib.hid hnext
      have hfe : (S.frame x).toList.isEmpty = false := by
        rw [Go.ByteArray.toList_eq]
        show (S.lst (S.frame x)).isEmpty = false
        rcases hl : S.lst (S.frame x) with _ | ⟨y, z⟩
        · have := S.size_lst (S.frame x); rw [hl] at this; simp at this; omega
        · rfl
      have hfz : 5 ≤ (S.frame x).size := by omega
      clear hfs hbody hp3 hnext
      go_wp2_with fail
      refine (frameB_impl x hx wr).mono ?_
      rintro e w5 ⟨rfl, b5⟩
      have hb5 := hb.trans (b5.mono hb.size)
      generalize S.frame x = f at *
      clear ck
      go_wp2_with fail
      go_loop [5] (fun y => ∃ A' : Nat, y = .int .i64 A' ∧ A ≤ A' ∧ A' ≤ p) (fun y => s.size - (intOf y).toNat)
      case atStart => exact ⟨A, rfl, Nat.le_refl _, hp1⟩
      case round =>
        obtain ⟨A', rfl, hA1, hA2⟩ := hrel
        have hle : (A' : Int) + (f.size : Int) ≤ (s.size : Int) := by omega
        have hsl : ∀ W : World, (Instr.slice 9 (.string s) (some (.int .i64 (A' : Int))) (some (.int .i64 ((A' : Int) + (f.size : Int)))) none).run Try.prog W = .ok (.string (s.extract A' (A' + f.size))) W := fun W => by
          have h := run_slice_string (P := Try.prog) W 9 s .i64 .i64 (A' : Int) ((A' : Int) + (f.size : Int)) Try.underlying9 (by omega) (by omega) (by omega)
          rw [show ((A' : Int)).toNat = A' from rfl, show ((A' : Int) + (f.size : Int)).toNat = A' + f.size from by omega] at h
          exact h
        by_cases he : s.extract A' (A' + f.size) = f
        · have g := beq_str _ _ he
          have g2 : ¬ (s.size : Int) < (A' : Int) + (f.size : Int) := by omega
          clear he
          generalize s.extract A' (A' + f.size) = xt at *
          go_wp2
          go_roundw
          case rel => exact ⟨A' + f.size, k + 1, by go_num, by go_num, by omega, by omega, HN.out.mono (by omega), hb5⟩
          case measure => simp [intOf]; omega
        · have g := bne_str _ _ he
          have hne : A' ≠ p := fun e => he (by rw [e]; exact HP3.out)
          clear he
          generalize s.extract A' (A' + f.size) = xt at *
          go_wp2
          go_round
          case rel => exact ⟨A' + 1, by go_num, by omega, by omega⟩
          case measure => simp [intOf]; omega
    · have bl9 := bl4.trans (hb.mono bl4.size)
      have h8 : (T.length : Int) ≤ 8 := by omega
      clear hO
      go_wp2
      go_ret
      exact ⟨ret_bool (by first | rfl | simp), bl9⟩

/-! ### THE ROW's STEP: WRITTEN OUT: LEAVE IT -/
set_option maxRecDepth 100000 in
theorem lifted (os : Os) (started : os.Started) (H : Type) (enc : TypeId × Value → H) :
    ReturnsInHanded {} Try.checked os 8 .any (Rows.fnSplitFramesSpec.pre6 enc Try.prog Try.f8 Rows.fnSplitFramesRow.domain false) (Rows.fnSplitFramesSpec.post enc Try.prog Try.f8 false true false false) := by
  refine returnsInHanded_of_change (C := Try.checked) own started (by kernel_rfl) Try.func8
    (ChangeSpec.witness6 (enc := enc) (C := Try.checked) false ⟨#[], #[.slice none 0 0], []⟩ 8 (by kernel_rfl) (by kernel_rfl) (by kernel_rfl) (by kernel_rfl)) ?_
  intro W base args ds gs before hval0 hW hcnd _
  have hval : ∀ (j : Nat) t v, Try.f8.params[j]? = some t → args[j]? = some v → Value.okWide Try.prog W .any base t v := hval0
  have hW' := hW
  obtain ⟨p, q, hA0, hV, rfl, hfz, hnd⟩ := hW
  have hA : DataW.TrodAll enc Try.prog W 0 (fun _ => true) true Try.f8.params.toList args.toList ds p := hA0
  rw [Try.params8] at hA hval
  obtain ⟨v0, vs0, d0, ds0, p0, q0, hargs, rfl, rfl, h0, r0⟩ := trodAll_cons hA
  obtain ⟨rfl, rfl, rfl⟩ := trodAll_nil r0
  obtain rfl : args = #[v0] := by cases args; simp_all
  obtain ⟨rfl, rfl⟩ := trodVars_none hV
  obtain ⟨a0, len0, cap0, rfl⟩ := okWide_slice Try.underlying22 (hval 0 22 v0 rfl rfl)
  have k0 := h0
  have lt0 : ∀ x ∈ p0, x.block < W.heap.size := by obtain ⟨m, hm⟩ := k0; exact DataW.trod_lt m _ _ _ hm
  obtain ⟨z0, w0⟩ : ∃ zs, IsRow .u8 W a0 len0 cap0 zs := by
    obtain ⟨fuel, hf⟩ := h0
    rcases open_ints Try.underlying22 Try.underlying5 (by kernel_rfl) hf with ⟨hcs, _⟩ | ⟨x, l, c, zs, hcs, _, hl, hm, hz, _, hcell, hwz⟩
    · simp [Value.cells] at hcs
      obtain ⟨rfl, rfl, rfl⟩ := hcs
      exact ⟨[], .inl ⟨rfl, rfl, rfl, rfl⟩⟩
    · simp [Value.cells] at hcs
      obtain ⟨rfl, rfl, rfl⟩ := hcs
      exact ⟨zs, .inr ⟨_, rfl, hl, hm, by simpa using hz, hcell, hwz⟩⟩
  clear hA0 hval0
  refine (walk a0 len0 cap0 z0 W w0).mono fun e W' ⟨he, bel⟩ => ?_
  subst he
  exact ⟨_, rfl, _, _, _, [], _, [], hW', trodAll_mk1 (shut_bool Try.underlying4 _), (trodAll_cons_mk (Below.trod laidOut (by kernel_rfl) (of_decide_eq_true (by kernel_rfl)) k0 bel lt0) trodAll_mk0), rfl, bel.frame _, fun h => by cases h⟩

theorem over : Rows.fnSplitFramesRow.holds Try.pinned (OpenSpec.ofChange Rows.fnSplitFramesSpec) :=
  OpenClaim.holds_of_wide 8 Try.f8 rfl rfl rfl rfl rfl rfl rfl ⟨rfl, rfl, rfl, rfl, rfl⟩ rfl rfl rfl rfl rfl (by kernel_rfl) Try.func8 (by kernel_rfl)
    (of_decide_eq_true (by kernel_rfl)) (by unfold Func.isWrapper; first | (rw [if_pos (by decide +kernel)]; kernel_rfl) | (rw [if_neg (by decide +kernel)]; exact ⟨rfl, rfl⟩))
    (fun os started H enc _ => lifted os started H enc)

/-- ████ THE STATEMENT ████ -/
theorem proved : Rows.FnSplitFramesSaid := over
#print axioms proved
end Go.Proofs.Ytoomkafhmennoaa.fnSplitFrames
