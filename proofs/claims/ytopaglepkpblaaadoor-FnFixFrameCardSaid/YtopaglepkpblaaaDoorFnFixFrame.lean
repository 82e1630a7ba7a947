/-
  PROVED: FnFixFrame: for every input the law returns true, and the input reads as it did. The condition that the row lists: the library's tables hold what the library lays in them; the given tie says that they do.
  The frame is as the kit prints it (proof-skeleton.mjs); the walk is mine.
-/
import Derived.Test.YtopaglepkpblaaaDoorRows
import Derived.Test.YtopaglepkpblaaaDoorParseF
import Derived.Test.YtopaglepkpblaaaDoorDrawF
import Derived.Test.YtopaglepkpblaaaDoorSplit
import Derived.Test.YtopaglepkpblaaaDoorEqS
import Derived.Test.YtopaglepkpblaaaDoorFrMath
import Derived.Test.YtopaglepkpblaaaDoorDoorT
import Derived.Test.YtopaglepkpblaaaDoorTie
import Derived.Test.YtopaglepkpblaaaDoorCards
import Derived.LaidMore
import Derived.OpenVars
import Derived.ChangeVars
import Derived.SevenTiedAt
import Derived.WalkKit
import Derived.ProofKit
import Derived.OpenShut
import Derived.ShutString
import Derived.ChangeOld
import Derived.Below
namespace Go.Proofs.YtopaglepkpblaaaDoor.fnFixFrame
open Go.ChangeShapes Go.WideShapes Go.ChangeAt Go.RowKit
open Go.ChangeMaps (open_string shut_string)
set_option linter.unusedVariables false

theorem own : ownKnob Tryd.prog.godebug = none := by kernel_rfl
theorem laidOut : laidOutB Tryd.prog = true := by kernel_rfl

/-- WHAT THE WALK IS TOLD OF A SLICE OF INTEGERS THAT CAME IN: it is nil; or it leads to a row of 'cap' cells, the numbers 'zs' (the first 'len' are its elements, the rest its spare room), each fitting its kind. -/
def IsRow (k : IntKind) (w : World) (a : Option Addr) (len cap : Nat) (zs : List Int) : Prop :=
  (a = none ∧ len = 0 ∧ cap = 0 ∧ zs = []) ∨
  ∃ x, a = some x ∧ len ≤ cap ∧ cap ≤ maxLen ∧ zs.length = cap ∧ (∀ i, i < zs.length → w.cell? (x.add i) = some (.int k (zs.getD i 0))) ∧ ∀ n ∈ zs, (Lit.int k n).wf = true

/-! ### STEP 1: THE WALK: the Go text returns true, AND WRITES NOTHING THAT WAS THERE: 'Below w.heap.size w w'' (Derived/Below.lean: '.refl', '.alloc', '.drew', '.setCell' at a new block, '.trans'). Open each 'IsRow' by 'rcases' AHEAD of 'go_enter'; part every test ahead of the walk. -/
set_option maxRecDepth 100000 in
set_option maxHeartbeats 4000000 in
theorem walk (a0 : Option Addr) (len0 cap0 : Nat) (z0 : List Int) (w : World) (w0 : IsRow .u8 w a0 len0 cap0 z0) (hT : Tb w) :
    Calls Tryd.prog 5 #[.slice a0 len0 cap0] w fun e w' => e = .returned (.bool true) ∧ Below w.heap.size w w' := by
  by_cases hl : 1048576 < len0
  · have hl' : (1048576 : Int) < (len0 : Int) := by omega
    clear w0 hl
    go_enter Tryd.func5, Tryd.ntmps5
    go_wp2
    go_ret
    exact ⟨rfl, Below.refl _ _⟩
  have hl' : ¬ (1048576 : Int) < (len0 : Int) := by omega
  obtain ⟨hc, hcap⟩ := code_of w0 (by omega)
  clear w0 hl
  go_enter Tryd.func5, Tryd.ntmps5
  go_wp2_with fail
  refine (DrawFormatFix_any w a0 len0 cap0 hc hcap).mono ?_
  rintro e w1 ⟨y, m, d, s, n, rfl, hy, hm, hd, hs, hn, bl⟩
  clear hc hcap
  have k1 := C5.new w1 y m d s n 26
  have g1 := bl.alloc bl.size (.cells #[.int .i64 y, .int .i64 m, .int .i64 d, .int .i64 s, .int .i64 n] 26)
  clear bl
  obtain ⟨c0, c1, c2, c3, c4, cl⟩ := id k1
  go_wp2_with fail
  generalize w1.alloc (.cells #[.int .i64 y, .int .i64 m, .int .i64 d, .int .i64 s, .int .i64 n] 26) = W at k1 c0 c1 c2 c3 c4 cl g1 ⊢
  generalize w1.heap.size = D at k1 c0 c1 c2 c3 c4 cl ⊢
  have H1 := Lib.hid (fun w' (h : Tb w') => ff_impl y m d s n w' h)
  have H2 := Lib.hid (fun w' => ff_spec y m d s n w')
  have HT := Lib.hid hT
  clear hT
  rcases hv : X.vf y m d s n with _ | _
  · rw [X.ff_no hv] at H1 H2
    have g0 : ((S.mk ([] : List UInt8)).toList == []) = true := by rw [Go.ByteArray.toList_eq]; rfl
    have gz : ((S.mk ([] : List UInt8)).toList == ({ data := #[] } : ByteArray).toList) = true := by rw [S.toList_beq]; exact decide_eq_true rfl
    generalize S.mk ([] : List UInt8) = T at *
    clear hv
    refine (H1.out _ (HT.out.b g1)).mono ?_
    rintro e w2 ⟨rfl, hb⟩
    have g2 := g1.trans (hb.mono g1.size)
    have k2 := k1.b hb
    clear hb c0 c1 c2 c3 c4 cl g1 k1
    obtain ⟨c0, c1, c2, c3, c4, cl⟩ := id k2
    go_wp2_with fail
    refine (H2.out _).mono ?_
    rintro e w3 ⟨rfl, hb⟩
    have g3 := g2.trans (hb.mono g2.size)
    have k3 := k2.b hb
    clear hb c0 c1 c2 c3 c4 cl g2 k2
    obtain ⟨c0, c1, c2, c3, c4, cl⟩ := id k3
    go_wp2_with fail
    refine (H2.out _).mono ?_
    rintro e w4 ⟨rfl, hb⟩
    have g4 := g3.trans (hb.mono g3.size)
    clear hb c0 c1 c2 c3 c4 cl g3 k3
    go_wp2
    go_ret
    exact ⟨ret_bool (by simp), g4⟩
  · have hne := X.ff_ne hv
    have hsz := (X.ff_size hv).2
    have hbd := X.body_tx hv
    have hrd := S.rd_of_frame hbd
    have htl := X.tx_len hv
    have hr1 : S.rdB (X.ff y m d s n) = true := by rw [X.ff_yes hv]; exact hrd.1
    have hr2 : S.rdS (X.ff y m d s n) = S.mk (X.tx y m d s n) := by rw [X.ff_yes hv]; exact hrd.2
    have RI := fun w' => read_impl (X.ff y m d s n) (by omega) w'
    rw [hr1, hr2] at RI
    have SI := fun w' => split_impl (X.ff y m d s n) (by omega) w'
    have SP : ∀ T, Spl (X.ff y m d s n) T → T = [S.mk (X.tx y m d s n)] := fun T h => h.same (.inl ⟨by omega, by rw [X.ff_yes hv]; exact S.run_frame hbd⟩)
    have h22 : (22 : Int) < ((S.mk (X.tx y m d s n)).size : Int) := by rw [S.size_mk]; omega
    have h4 : (S.mk (X.tx y m d s n)).extract 0 4 = S.mk [70, 73, 88, 44] := by
      apply S.ext
      rw [S.lst_extract, S.lst_mk, S.lst_mk]; rfl
    have hsl : ∀ W : World, (Instr.slice 9 (.string (S.mk (X.tx y m d s n))) none (some (.int .i64 4)) none).run Tryd.prog W = .ok (.string (S.mk [70, 73, 88, 44])) W := fun W => by
      have h := run_slice_string_h (P := Tryd.prog) W 9 (S.mk (X.tx y m d s n)) Tryd.underlying9 .i64 4 (by omega) (by omega)
      rw [show (4 : Int).toNat = 4 from rfl, h4] at h
      exact h
    have p4 : ((S.mk [70, 73, 88, 44]).toList == ({ data := #[70, 73, 88, 44] } : ByteArray).toList) = true := beq_str _ _ rfl
    have p5 : ((S.mk [70, 73, 88, 44]).toList == ([70, 73, 88, 44] : List UInt8)) = true := by rw [Go.ByteArray.toList_eq]; rfl
    have g0 : ((X.ff y m d s n).toList == []) = false := by
      have h : ((X.ff y m d s n).toList == (S.mk []).toList) = false := by rw [S.toList_beq]; exact decide_eq_false hne
      rwa [show (S.mk ([] : List UInt8)).toList = [] by rw [Go.ByteArray.toList_eq]; rfl] at h
    have gz : ((X.ff y m d s n).toList == ({ data := #[] } : ByteArray).toList) = false := by rw [S.toList_beq]; exact decide_eq_false hne
    have HR := Lib.hid RI
    have HS := Lib.hid SI
    have HP := Lib.hid SP
    clear hv hne hsz hbd hrd htl hr1 hr2 h4 RI SI SP
    generalize S.mk [70, 73, 88, 44] = P4 at *
    generalize S.mk (X.tx y m d s n) = t at *
    generalize X.ff y m d s n = T at *
    refine (H1.out _ (HT.out.b g1)).mono ?_
    rintro e w2 ⟨rfl, hb⟩
    have g2 := g1.trans (hb.mono g1.size)
    have k2 := k1.b hb
    clear hb c0 c1 c2 c3 c4 cl g1 k1
    obtain ⟨c0, c1, c2, c3, c4, cl⟩ := id k2
    go_wp2_with fail
    refine (H2.out _).mono ?_
    rintro e w3 ⟨rfl, hb⟩
    have g3 := g2.trans (hb.mono g2.size)
    clear hb c0 c1 c2 c3 c4 cl g2 k2
    go_wp2_with fail
    refine (HR.out _).mono ?_
    rintro e w4 ⟨rfl, hb⟩
    have g4 := g3.trans (hb.mono g3.size)
    clear hb g3
    go_wp2_with fail
    refine (HS.out _).mono ?_
    rintro e w5 ⟨a, c, L, rfl, hL, hX, hb⟩
    obtain rfl := HP.out L hL
    have g5 := g4.trans (hb.mono g4.size)
    have gA : Below w5.heap.size w5 (w5.alloc (.cells #[.string t] 9)) := (Below.refl _ _).alloc (Nat.le_refl _) _
    have r5 := hX.rd.keep gA (Nat.le_refl _)
    have r6 : Rd (w5.heap.size + 1) (w5.alloc (.cells #[.string t] 9)) (some ⟨w5.heap.size, 0, none⟩) 1 [t] := ⟨rfl, .inr ⟨_, 0, rfl, by omega, fun i hi => by
      obtain rfl : i = 0 := by omega
      exact cell_one_new w5 (.string t) 9 0 _ rfl⟩⟩
    have g6 := g5.alloc g5.size (.cells #[.string t] 9)
    have H5 := Lib.hid (And.intro r5 (And.intro r6 (And.intro g6 g5.size)))
    clear hb g4 g5 hX hL gA r5 r6 g6
    go_wp2_with fail
    refine (eqS_16 _ _ 1 _ _ _ _ [t] _ H5.out.1 H5.out.2.1 (by omega)).mono ?_
    rintro e w6 ⟨rfl, hs⟩
    have g7 := H5.out.2.2.1.trans ((hs.below (B := w.heap.size)))
    go_wp2
    go_ret
    exact ⟨ret_bool (by simp), g7⟩

/-! ### THE ROW's STEP: WRITTEN OUT: LEAVE IT -/
set_option maxRecDepth 100000 in
theorem lifted (os : Os) (started : os.Started) (H : Type) (enc : TypeId × Value → H) :
    ReturnsInHanded {} Tryd.checked os 5 .any (fun w args => (Rows.fnFixFrameSpec.pre enc Tryd.prog Tryd.f5 [] false w args ∧ laidMetH Tryd.prog laidL w) ∧ sizedMet enc Tryd.prog Tryd.f5 (OpenSpec.ofChange Rows.fnFixFrameSpec) false w args) (Rows.fnFixFrameSpec.post enc Tryd.prog Tryd.f5 false true false false) := by
  refine returnsInHanded_of_change_and (C := Tryd.checked) (X := fun w _ => laidMetH Tryd.prog laidL w) (fun _ _ _ hh h => h.of_heap hh) own started (by kernel_rfl) Tryd.func5
    (ChangeSpec.witness_shaped (enc := enc) (C := Tryd.checked) (os := os) (X := fun w _ => laidMetH Tryd.prog laidL w) false (World.doorLaid Tryd.prog 400 os) #[.slice none 0 0] 8 rfl (World.shaped_of_RefB (by kernel_rfl) (by kernel_rfl)) (by kernel_rfl) (by kernel_rfl) (by kernel_rfl) (door_met os _)) ?_
  intro W base args ds gs before hval0 hW _ _ hL _
  have hval : ∀ (j : Nat) t v, Tryd.f5.params[j]? = some t → args[j]? = some v → Value.okWide Tryd.prog W .any base t v := hval0
  have hW' := hW
  obtain ⟨p, q, hA0, hV, rfl, hfz, hnd⟩ := hW
  have hA : DataW.TrodAll enc Tryd.prog W 0 (fun _ => true) true Tryd.f5.params.toList args.toList ds p := hA0
  rw [Tryd.params5] at hA hval
  obtain ⟨v0, vs0, d0, ds0, p0, q0, hargs, rfl, rfl, h0, r0⟩ := trodAll_cons hA
  obtain ⟨rfl, rfl, rfl⟩ := trodAll_nil r0
  obtain rfl : args = #[v0] := by cases args; simp_all
  obtain ⟨rfl, rfl⟩ := trodVars_none hV
  obtain ⟨a0, len0, cap0, rfl⟩ := okWide_slice Tryd.underlying22 (hval 0 22 v0 rfl rfl)
  have k0 := h0
  have lt0 : ∀ x ∈ p0, x.block < W.heap.size := by obtain ⟨m, hm⟩ := k0; exact DataW.trod_lt m _ _ _ hm
  obtain ⟨z0, w0⟩ : ∃ zs, IsRow .u8 W a0 len0 cap0 zs := by
    obtain ⟨fuel, hf⟩ := h0
    rcases open_ints Tryd.underlying22 Tryd.underlying5 (by kernel_rfl) hf with ⟨hcs, _⟩ | ⟨x, l, c, zs, hcs, _, hl, hm, hz, _, hcell, hwz⟩
    · simp [Value.cells] at hcs
      obtain ⟨rfl, rfl, rfl⟩ := hcs
      exact ⟨[], .inl ⟨rfl, rfl, rfl, rfl⟩⟩
    · simp [Value.cells] at hcs
      obtain ⟨rfl, rfl, rfl⟩ := hcs
      exact ⟨zs, .inr ⟨_, rfl, hl, hm, by simpa using hz, hcell, hwz⟩⟩
  clear hA0 hval0
  refine (walk a0 len0 cap0 z0 W w0 (of_laid hL)).mono fun e W' ⟨he, bel⟩ => ?_
  subst he
  exact ⟨_, rfl, _, _, _, [], _, [], hW', trodAll_mk1 (shut_bool Tryd.underlying4 _), (trodAll_cons_mk (Below.trod laidOut (by kernel_rfl) (of_decide_eq_true (by kernel_rfl)) k0 bel lt0) trodAll_mk0), rfl, bel.frame _, fun h => by cases h⟩

theorem over : Rows.fnFixFrameRow.holds Tryd.pinned (OpenSpec.ofChange Rows.fnFixFrameSpec) :=
  OpenClaim.holds_of_wide 5 Tryd.f5 rfl rfl rfl rfl rfl rfl rfl ⟨rfl, rfl, rfl, rfl, rfl⟩ rfl rfl rfl rfl rfl (by kernel_rfl) Tryd.func5 (by kernel_rfl)
    (of_decide_eq_true (by kernel_rfl)) (by unfold Func.isWrapper; first | (rw [if_pos (by decide +kernel)]; kernel_rfl) | (rw [if_neg (by decide +kernel)]; exact ⟨rfl, rfl⟩))
    (fun os started H enc _ => lifted os started H enc)

/-- ████ THE STATEMENT ████ -/
theorem proved : Rows.FnFixFrameCardSaid :=
  Claim7.holds_tied_plain_at .later [] [.data, .data, .data] true (true, "7534c950e1b8b3a09554c010951edfac61193f197bf831e8d8661f5276180141") false over (fun _ h => by cases h) (by kernel_rfl) (fun _ h => by cases h) fnFixFrame_row_tie rfl ⟨rfl, rfl⟩ (by kernel_rfl) rfl
    (fun f fn hf hfn => by
      obtain rfl : f = 5 := Option.some.inj ((show Tryd.prog.funcNamed "loop.example/satelliteclock/laws.FnFixFrame" = some 5 by kernel_rfl).symm.trans hf) |>.symm
      obtain rfl : fn = Tryd.f5 := (Option.some.inj (Tryd.func5.symm.trans hfn)).symm
      exact ⟨by kernel_rfl, fun j t ht => by
        rw [Tryd.params5] at ht
        have hm : t ∈ [22] := by simpa using Array.mem_of_getElem? ht
        have hall : ([22].all fun u => !Tryd.prog.wantsStandIn u) = true := by kernel_rfl
        exact (show Tryd.prog.wantsStandIn t = false by simpa using List.all_eq_true.1 hall t hm)⟩)
    (by kernel_rfl)
#print axioms proved
end Go.Proofs.YtopaglepkpblaaaDoor.fnFixFrame
