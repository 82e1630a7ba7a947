/-
  PROVED: FnFixCanonical: for every input the law returns true, and the input reads as it did. The condition that the row lists: the library's tables hold what the library lays in them; the given tie says that they do.
  The frame is as the kit prints it (proof-skeleton.mjs); the walk is mine.
-/
import Derived.Test.YtopaglepkpblaaaDoorRows
import Derived.Test.YtopaglepkpblaaaDoorReadF
import Derived.Test.YtopaglepkpblaaaDoorParseF
import Derived.Test.YtopaglepkpblaaaDoorDrawPf
import Derived.Test.YtopaglepkpblaaaDoorDoorT
import Derived.Test.YtopaglepkpblaaaDoorTie
import Derived.Test.YtopaglepkpblaaaDoorCards
import Derived.LaidMore
import Derived.OpenVars
import Derived.ChangeVars
import Derived.SevenTiedAt
import Derived.WalkKit
import Derived.ProofKit
import Derived.OpenShut
import Derived.ShutString
import Derived.ChangeOld
import Derived.Below
namespace Go.Proofs.YtopaglepkpblaaaDoor.fnFixCanonical
open Go.ChangeShapes Go.WideShapes Go.ChangeAt Go.RowKit
open Go.ChangeMaps (open_string shut_string)
set_option linter.unusedVariables false

theorem own : ownKnob Tryd.prog.godebug = none := by kernel_rfl
theorem laidOut : laidOutB Tryd.prog = true := by kernel_rfl

/-- WHAT THE WALK IS TOLD OF A SLICE OF INTEGERS THAT CAME IN: it is nil; or it leads to a row of 'cap' cells, the numbers 'zs' (the first 'len' are its elements, the rest its spare room), each fitting its kind. -/
def IsRow (k : IntKind) (w : World) (a : Option Addr) (len cap : Nat) (zs : List Int) : Prop :=
  (a = none ∧ len = 0 ∧ cap = 0 ∧ zs = []) ∨
  ∃ x, a = some x ∧ len ≤ cap ∧ cap ≤ maxLen ∧ zs.length = cap ∧ (∀ i, i < zs.length → w.cell? (x.add i) = some (.int k (zs.getD i 0))) ∧ ∀ n ∈ zs, (Lit.int k n).wf = true

/-! ### STEP 1: THE WALK: the Go text returns true, AND WRITES NOTHING THAT WAS THERE: 'Below w.heap.size w w'' (Derived/Below.lean: '.refl', '.alloc', '.drew', '.setCell' at a new block, '.trans'). Open each 'IsRow' by 'rcases' AHEAD of 'go_enter'; part every test ahead of the walk. -/
set_option maxRecDepth 100000 in
set_option maxHeartbeats 4000000 in
theorem walk (a0 : Option Addr) (len0 cap0 : Nat) (z0 : List Int) (w : World) (w0 : IsRow .u8 w a0 len0 cap0 z0) (hT : Tb w) :
    Calls Tryd.prog 4 #[.slice a0 len0 cap0] w fun e w' => e = .returned (.bool true) ∧ Below w.heap.size w w' := by
  by_cases hl : 1048576 < len0
  · have hl' : (1048576 : Int) < (len0 : Int) := by omega
    clear w0 hl
    go_enter Tryd.func4, Tryd.ntmps4
    go_wp2
    go_ret
    exact ⟨rfl, Below.refl _ _⟩
  have hl' : ¬ (1048576 : Int) < (len0 : Int) := by omega
  obtain ⟨hc, hcap⟩ := code_of w0 (by omega)
  clear w0 hl
  go_enter Tryd.func4, Tryd.ntmps4
  go_wp2_with fail
  refine (DrawParseFix_any w a0 len0 cap0 hc hcap).mono ?_
  rintro e w1 ⟨s, rfl, hs, bl⟩
  clear hc hcap
  have K1 := Lib.hid (fun w' (h : Tb w') => pf_impl s (by omega) w' h)
  have K2 := Lib.hid (fun w' => pf_spec s (by omega) w')
  have HT := Lib.hid hT
  have HP := Lib.hid (fun h => X.p_vf (s := s) h)
  clear hT
  generalize X.py s = y at *
  generalize X.pm s = m at *
  generalize X.pd s = d at *
  generalize X.ps s = t at *
  generalize X.pn s = n at *
  rcases hok : X.pB s with _ | _
  all_goals rw [hok] at K1 K2
  all_goals
    go_wp2_with fail
    refine (K1.out _ (HT.out.b bl)).mono ?_
    rintro e w2 ⟨rfl, hb⟩
    have g2 := bl.trans (hb.mono bl.size)
    have k3 := C5.new w2 y m d t n 26
    have g3 := g2.alloc g2.size (.cells #[.int .i64 y, .int .i64 m, .int .i64 d, .int .i64 t, .int .i64 n] 26)
    clear hb bl g2
    go_wp2_with fail
    refine (K2.out _).mono ?_
    rintro e w4 ⟨rfl, hb⟩
    have g4 := g3.trans (hb.mono g3.size)
    have k4 := k3.b hb
    have k5 := k4.al (.cells #[.int .i64 y, .int .i64 m, .int .i64 d, .int .i64 t, .int .i64 n] 26)
    have g5 := g4.alloc g4.size (.cells #[.int .i64 y, .int .i64 m, .int .i64 d, .int .i64 t, .int .i64 n] 26)
    clear hb g3 k3 g4
  · obtain ⟨c0, c1, c2, c3, c4, cl⟩ := k4
    clear hok
    go_wp2
    go_ret
    exact ⟨ret_bool (by simp), g5⟩
  · obtain ⟨hv, hf⟩ := HP.out hok
    have FF := fun w' (h : Tb w') => ff_impl y m d t n w' h
    have VF := fun w' => vf_impl y m d t n w'
    rw [hf] at FF
    rw [hv] at VF
    have HFF := Lib.hid FF
    have HVF := Lib.hid VF
    have hbb : (s.toList == s.toList) = true := by rw [S.toList_beq]; exact decide_eq_true rfl
    clear FF VF hv hf hok
    obtain ⟨c0, c1, c2, c3, c4, cl⟩ := id k4
    go_wp2_with fail
    refine (HFF.out _ (HT.out.b g5)).mono ?_
    rintro e w6 ⟨rfl, hb⟩
    have g6 := g5.trans (hb.mono g5.size)
    have k6 := k5.b hb
    clear hb c0 c1 c2 c3 c4 cl g5 k4 k5
    obtain ⟨c0, c1, c2, c3, c4, cl⟩ := id k6
    go_wp2_with fail
    refine (HVF.out _).mono ?_
    rintro e w7 ⟨rfl, hb⟩
    have g7 := g6.trans (hb.mono g6.size)
    clear hb c0 c1 c2 c3 c4 cl g6 k6
    go_wp2
    go_ret
    exact ⟨ret_bool (by simp), g7⟩

/-! ### THE ROW's STEP: WRITTEN OUT: LEAVE IT -/
set_option maxRecDepth 100000 in
theorem lifted (os : Os) (started : os.Started) (H : Type) (enc : TypeId × Value → H) :
    ReturnsInHanded {} Tryd.checked os 4 .any (fun w args => (Rows.fnFixCanonicalSpec.pre enc Tryd.prog Tryd.f4 [] false w args ∧ laidMetH Tryd.prog laidL w) ∧ sizedMet enc Tryd.prog Tryd.f4 (OpenSpec.ofChange Rows.fnFixCanonicalSpec) false w args) (Rows.fnFixCanonicalSpec.post enc Tryd.prog Tryd.f4 false true false false) := by
  refine returnsInHanded_of_change_and (C := Tryd.checked) (X := fun w _ => laidMetH Tryd.prog laidL w) (fun _ _ _ hh h => h.of_heap hh) own started (by kernel_rfl) Tryd.func4
    (ChangeSpec.witness_shaped (enc := enc) (C := Tryd.checked) (os := os) (X := fun w _ => laidMetH Tryd.prog laidL w) false (World.doorLaid Tryd.prog 400 os) #[.slice none 0 0] 8 rfl (World.shaped_of_RefB (by kernel_rfl) (by kernel_rfl)) (by kernel_rfl) (by kernel_rfl) (by kernel_rfl) (door_met os _)) ?_
  intro W base args ds gs before hval0 hW _ _ hL _
  have hval : ∀ (j : Nat) t v, Tryd.f4.params[j]? = some t → args[j]? = some v → Value.okWide Tryd.prog W .any base t v := hval0
  have hW' := hW
  obtain ⟨p, q, hA0, hV, rfl, hfz, hnd⟩ := hW
  have hA : DataW.TrodAll enc Tryd.prog W 0 (fun _ => true) true Tryd.f4.params.toList args.toList ds p := hA0
  rw [Tryd.params4] at hA hval
  obtain ⟨v0, vs0, d0, ds0, p0, q0, hargs, rfl, rfl, h0, r0⟩ := trodAll_cons hA
  obtain ⟨rfl, rfl, rfl⟩ := trodAll_nil r0
  obtain rfl : args = #[v0] := by cases args; simp_all
  obtain ⟨rfl, rfl⟩ := trodVars_none hV
  obtain ⟨a0, len0, cap0, rfl⟩ := okWide_slice Tryd.underlying22 (hval 0 22 v0 rfl rfl)
  have k0 := h0
  have lt0 : ∀ x ∈ p0, x.block < W.heap.size := by obtain ⟨m, hm⟩ := k0; exact DataW.trod_lt m _ _ _ hm
  obtain ⟨z0, w0⟩ : ∃ zs, IsRow .u8 W a0 len0 cap0 zs := by
    obtain ⟨fuel, hf⟩ := h0
    rcases open_ints Tryd.underlying22 Tryd.underlying5 (by kernel_rfl) hf with ⟨hcs, _⟩ | ⟨x, l, c, zs, hcs, _, hl, hm, hz, _, hcell, hwz⟩
    · simp [Value.cells] at hcs
      obtain ⟨rfl, rfl, rfl⟩ := hcs
      exact ⟨[], .inl ⟨rfl, rfl, rfl, rfl⟩⟩
    · simp [Value.cells] at hcs
      obtain ⟨rfl, rfl, rfl⟩ := hcs
      exact ⟨zs, .inr ⟨_, rfl, hl, hm, by simpa using hz, hcell, hwz⟩⟩
  clear hA0 hval0
  refine (walk a0 len0 cap0 z0 W w0 (of_laid hL)).mono fun e W' ⟨he, bel⟩ => ?_
  subst he
  exact ⟨_, rfl, _, _, _, [], _, [], hW', trodAll_mk1 (shut_bool Tryd.underlying4 _), (trodAll_cons_mk (Below.trod laidOut (by kernel_rfl) (of_decide_eq_true (by kernel_rfl)) k0 bel lt0) trodAll_mk0), rfl, bel.frame _, fun h => by cases h⟩

theorem over : Rows.fnFixCanonicalRow.holds Tryd.pinned (OpenSpec.ofChange Rows.fnFixCanonicalSpec) :=
  OpenClaim.holds_of_wide 4 Tryd.f4 rfl rfl rfl rfl rfl rfl rfl ⟨rfl, rfl, rfl, rfl, rfl⟩ rfl rfl rfl rfl rfl (by kernel_rfl) Tryd.func4 (by kernel_rfl)
    (of_decide_eq_true (by kernel_rfl)) (by unfold Func.isWrapper; first | (rw [if_pos (by decide +kernel)]; kernel_rfl) | (rw [if_neg (by decide +kernel)]; exact ⟨rfl, rfl⟩))
    (fun os started H enc _ => lifted os started H enc)

/-- ████ THE STATEMENT ████ -/
theorem proved : Rows.FnFixCanonicalCardSaid :=
  Claim7.holds_tied_plain_at .later [] [.data, .data, .data] true (true, "7534c950e1b8b3a09554c010951edfac61193f197bf831e8d8661f5276180141") false over (fun _ h => by cases h) (by kernel_rfl) (fun _ h => by cases h) fnFixCanonical_row_tie rfl ⟨rfl, rfl⟩ (by kernel_rfl) rfl
    (fun f fn hf hfn => by
      obtain rfl : f = 4 := Option.some.inj ((show Tryd.prog.funcNamed "loop.example/satelliteclock/laws.FnFixCanonical" = some 4 by kernel_rfl).symm.trans hf) |>.symm
      obtain rfl : fn = Tryd.f4 := (Option.some.inj (Tryd.func4.symm.trans hfn)).symm
      exact ⟨by kernel_rfl, fun j t ht => by
        rw [Tryd.params4] at ht
        have hm : t ∈ [22] := by simpa using Array.mem_of_getElem? ht
        have hall : ([22].all fun u => !Tryd.prog.wantsStandIn u) = true := by kernel_rfl
        exact (show Tryd.prog.wantsStandIn t = false by simpa using List.all_eq_true.1 hall t hm)⟩)
    (by kernel_rfl)
#print axioms proved
end Go.Proofs.YtopaglepkpblaaaDoor.fnFixCanonical
