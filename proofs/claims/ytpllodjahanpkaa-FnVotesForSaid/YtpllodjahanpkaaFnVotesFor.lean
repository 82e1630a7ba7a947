/-
  PROVED: FnVotesFor: for every input the law returns true, and the input reads as it did. No condition.
  The frame is as the kit prints it (proof-skeleton.mjs); the walk is mine.
-/
import Derived.Test.YtpllodjahanpkaaRows
import Derived.Test.YtpllodjahanpkaaSt
import Derived.Test.YtpllodjahanpkaaISpan
import Derived.Test.YtpllodjahanpkaaDrawV
import Derived.WalkKit
import Derived.WalkSpells
import Derived.Deep.RegionWith
import Derived.Deep.RegionHeld3
import Derived.ProofKit
import Derived.OpenShut
import Derived.ShutString
import Derived.ChangeOld
import Derived.Below
namespace Go.Proofs.Ytpllodjahanpkaa.fnVotesFor
open Go.ChangeShapes Go.WideShapes Go.ChangeAt Go.RowKit
open Go.ChangeMaps (open_string shut_string)
set_option linter.unusedVariables false

theorem own : ownKnob Try.prog.godebug = none := by kernel_rfl
theorem laidOut : laidOutB Try.prog = true := by kernel_rfl

/-- WHAT THE WALK IS TOLD OF A SLICE OF INTEGERS THAT CAME IN: it is nil; or it leads to a row of 'cap' cells, the numbers 'zs' (the first 'len' are its elements, the rest its spare room), each fitting its kind. -/
def IsRow (k : IntKind) (w : World) (a : Option Addr) (len cap : Nat) (zs : List Int) : Prop :=
  (a = none ∧ len = 0 ∧ cap = 0 ∧ zs = []) ∨
  ∃ x, a = some x ∧ len ≤ cap ∧ cap ≤ maxLen ∧ zs.length = cap ∧ (∀ i, i < zs.length → w.cell? (x.add i) = some (.int k (zs.getD i 0))) ∧ ∀ n ∈ zs, (Lit.int k n).wf = true

/-! ### STEP 1: THE WALK: the Go text returns true, AND WRITES NOTHING THAT WAS THERE: 'Below w.heap.size w w'' (Derived/Below.lean: '.refl', '.alloc', '.drew', '.setCell' at a new block, '.trans'). Open each 'IsRow' by 'rcases' AHEAD of 'go_enter'; part every test ahead of the walk. -/
set_option maxHeartbeats 2000000 in
theorem walk (a0 : Option Addr) (len0 cap0 : Nat) (z0 : List Int) (w : World) (w0 : IsRow .u8 w a0 len0 cap0 z0) :
    Calls Try.prog 4 #[.slice a0 len0 cap0] w fun e w' => e = .returned (.bool true) ∧ Below w.heap.size w w' := by
  by_cases hl : 1048576 < len0
  · have hl' : (1048576 : Int) < (len0 : Int) := by omega
    clear w0 hl
    go_enter Try.func4, Try.ntmps4
    go_wp2
    go_ret
    exact ⟨rfl, Below.refl _ _⟩
  have hl' : ¬ (1048576 : Int) < (len0 : Int) := by omega
  obtain ⟨hc, hcap⟩ := code_of w0 (by omega)
  clear w0 hl
  go_enter Try.func4, Try.ntmps4
  go_wp2_with fail
  refine (DrawVotesFor_any w a0 len0 cap0 hc hcap).mono ?_
  rintro e w1 ⟨a, c, l, t, rfl, hl8, hlc, hcm, hS, hsm, bl, hfr, ht⟩
  clear hc hcap
  have st := St.mk hS bl
  clear hS bl hfr hsm
  unfold maxLen at hcm
  rcases hv : V.vs l with _ | _
  · have hk : V.vf l t = -1 := V.vf_no hv
    go_wp2_with (first | (go_at_call 17; refine (VF_impl _ _ _ _ _ _ _ (St.here (by first | assumption | exact St.al (by assumption) _ | exact St.al (St.al (by assumption) _) _ | exact St.dr (by assumption) _)) (Nat.le_refl _)).mono ?_; rintro e w' ⟨rfl, hb⟩; have st' := St.b (by first | assumption | exact St.al (by assumption) _ | exact St.al (St.al (by assumption) _) _ | exact St.dr (by assumption) _) hb) | (go_at_call 18; refine (VF_spec _ _ _ _ _ _ _ (St.here (by first | assumption | exact St.al (by assumption) _ | exact St.al (St.al (by assumption) _) _ | exact St.dr (by assumption) _)) (Nat.le_refl _)).mono ?_; rintro e w' ⟨rfl, hb⟩; have st' := St.b (by first | assumption | exact St.al (by assumption) _ | exact St.al (St.al (by assumption) _) _ | exact St.dr (by assumption) _) hb))
    go_ret
    exact ⟨ret_bool (by simp), St.bel (by assumption)⟩
  · have hl1 := (V.vs_of hv).1
    have hk := V.vf_yes (t := t) hv
    have hle := V.votes_le l t
    have k0 : 0 ≤ V.vf l t := by omega
    have k1 : V.vf l t ≤ (l.length : Int) := by omega
    by_cases h2 : l.length < 2
    · have h2' : (l.length : Int) < 2 := by omega
      clear hk
      go_wp2_with (first | (go_at_call 17; refine (VF_impl _ _ _ _ _ _ _ (St.here (by first | assumption | exact St.al (by assumption) _ | exact St.al (St.al (by assumption) _) _ | exact St.dr (by assumption) _)) (Nat.le_refl _)).mono ?_; rintro e w' ⟨rfl, hb⟩; have st' := St.b (by first | assumption | exact St.al (by assumption) _ | exact St.al (St.al (by assumption) _) _ | exact St.dr (by assumption) _) hb) | (go_at_call 18; refine (VF_spec _ _ _ _ _ _ _ (St.here (by first | assumption | exact St.al (by assumption) _ | exact St.al (St.al (by assumption) _) _ | exact St.dr (by assumption) _)) (Nat.le_refl _)).mono ?_; rintro e w' ⟨rfl, hb⟩; have st' := St.b (by first | assumption | exact St.al (by assumption) _ | exact St.al (St.al (by assumption) _) _ | exact St.dr (by assumption) _) hb))
      go_ret
      exact ⟨ret_bool (by simp), St.bel (by assumption)⟩
    · have h2' : ¬ (l.length : Int) < 2 := by omega
      obtain ⟨b, off, rfl, _, _⟩ := st.here.at_ 0 (by omega)
      have hv2 := V.vs_take hv (k := 1) (by omega) (by omega)
      have hv3 := V.vs_drop hv (k := 1) (by omega)
      have e2 := V.vf_yes (t := t) hv2
      have e3 := V.vf_yes (t := t) hv3
      have hp := V.votes_parts (l := l) t (by omega)
      have hw : IntKind.i64.wrap (V.vf (V.tk l 1) t + V.vf (V.dr l 1) t) = V.vf l t := by rw [IntWalk.i64_in _ (by omega)]; omega
      have hc1 : ¬ c = 1 := by omega
      have hc2 : (1 : Int) ≤ (l.length : Int) := by omega
      have hc3 : (1 : Int) ≤ (c : Int) := by omega
      have HK := Lib.hid (And.intro hk (And.intro e2 (And.intro e3 hp)))
      clear hk e2 e3 hp hv2 hv3 hle
      go_wp2_with fail
      refine (VF_impl _ _ _ _ _ _ _ (st).here (Nat.le_refl _)).mono ?_
      rintro e w2 ⟨rfl, b2⟩
      have st2 := (st).b b2
      clear st b2
      go_wp2_with fail
      refine (VF_spec _ _ _ _ _ _ _ (st2).here (Nat.le_refl _)).mono ?_
      rintro e w3 ⟨rfl, b3⟩
      have st3 := (st2).b b3
      clear st2 b3
      obtain ⟨b', off', eb, hbb, hcc⟩ := st3.here.at_ 0 (by omega)
      injection eb with eb
      injection eb with eb1 eb2
      subst eb1
      subst eb2
      have c0 : w3.drew.cell? ⟨b, off, none⟩ = some (.int .i64 (V.lo l 0)) := by simpa using (hcc 0 (by omega)).1
      have t1 := (st3.take 1 (by omega)).drew
      have t2 := (st3.drop 1 (by omega)).drew
      have hbb : b < w3.drew.heap.size := hbb
      clear st3 hcc
      go_wp2_with fail
      go_region_held3 (fun w' => w'.cell? ⟨b, off, none⟩ = some (.int .i64 (V.lo l 0))) (first | assumption | go_keep) (first | (go_at_call 17; refine (VF_impl _ _ _ _ _ _ _ (St.here (w0 := w) (by assumption)) (Nat.le_refl _)).mono ?_; rintro e w' ⟨rfl, hb⟩; have t1' := St.b (w0 := w) (a := some ⟨b, off, none⟩) (n := 1) (l := V.tk l 1) (by assumption) hb; have t2' := St.b (w0 := w) (a := some ⟨b, off + 1 * 2, none⟩) (n := l.length - 1) (l := V.dr l 1) (by assumption) hb; have c0' := (hb.cell (p := ⟨b, off, none⟩) (by assumption)).trans (by assumption); have hbb' := Nat.lt_of_lt_of_le (show b < _ by assumption) hb.size))
      all_goals go_wp2
      all_goals go_ret
      all_goals exact ⟨ret_bool (by first | rfl | simp), St.bel (w0 := w) (n := 1) (l := V.tk l 1) (by assumption)⟩

/-! ### THE ROW's STEP: WRITTEN OUT: LEAVE IT -/
set_option maxRecDepth 100000 in
theorem lifted (os : Os) (started : os.Started) (H : Type) (enc : TypeId × Value → H) :
    ReturnsInHanded {} Try.checked os 4 .any (Rows.fnVotesForSpec.pre6 enc Try.prog Try.f4 Rows.fnVotesForRow.domain false) (Rows.fnVotesForSpec.post enc Try.prog Try.f4 false true false false) := by
  refine returnsInHanded_of_change (C := Try.checked) own started (by kernel_rfl) Try.func4
    (ChangeSpec.witness6 (enc := enc) (C := Try.checked) false ⟨#[], #[.slice none 0 0], []⟩ 8 (by kernel_rfl) (by kernel_rfl) (by kernel_rfl) (by kernel_rfl)) ?_
  intro W base args ds gs before hval0 hW hcnd _
  have hval : ∀ (j : Nat) t v, Try.f4.params[j]? = some t → args[j]? = some v → Value.okWide Try.prog W .any base t v := hval0
  have hW' := hW
  obtain ⟨p, q, hA0, hV, rfl, hfz, hnd⟩ := hW
  have hA : DataW.TrodAll enc Try.prog W 0 (fun _ => true) true Try.f4.params.toList args.toList ds p := hA0
  rw [Try.params4] at hA hval
  obtain ⟨v0, vs0, d0, ds0, p0, q0, hargs, rfl, rfl, h0, r0⟩ := trodAll_cons hA
  obtain ⟨rfl, rfl, rfl⟩ := trodAll_nil r0
  obtain rfl : args = #[v0] := by cases args; simp_all
  obtain ⟨rfl, rfl⟩ := trodVars_none hV
  obtain ⟨a0, len0, cap0, rfl⟩ := okWide_slice Try.underlying22 (hval 0 22 v0 rfl rfl)
  have k0 := h0
  have lt0 : ∀ x ∈ p0, x.block < W.heap.size := by obtain ⟨m, hm⟩ := k0; exact DataW.trod_lt m _ _ _ hm
  obtain ⟨z0, w0⟩ : ∃ zs, IsRow .u8 W a0 len0 cap0 zs := by
    obtain ⟨fuel, hf⟩ := h0
    rcases open_ints Try.underlying22 Try.underlying5 (by kernel_rfl) hf with ⟨hcs, _⟩ | ⟨x, l, c, zs, hcs, _, hl, hm, hz, _, hcell, hwz⟩
    · simp [Value.cells] at hcs
      obtain ⟨rfl, rfl, rfl⟩ := hcs
      exact ⟨[], .inl ⟨rfl, rfl, rfl, rfl⟩⟩
    · simp [Value.cells] at hcs
      obtain ⟨rfl, rfl, rfl⟩ := hcs
      exact ⟨zs, .inr ⟨_, rfl, hl, hm, by simpa using hz, hcell, hwz⟩⟩
  clear hA0 hval0
  refine (walk a0 len0 cap0 z0 W w0).mono fun e W' ⟨he, bel⟩ => ?_
  subst he
  exact ⟨_, rfl, _, _, _, [], _, [], hW', trodAll_mk1 (shut_bool Try.underlying4 _), (trodAll_cons_mk (Below.trod laidOut (by kernel_rfl) (of_decide_eq_true (by kernel_rfl)) k0 bel lt0) trodAll_mk0), rfl, bel.frame _, fun h => by cases h⟩

theorem over : Rows.fnVotesForRow.holds Try.pinned (OpenSpec.ofChange Rows.fnVotesForSpec) :=
  OpenClaim.holds_of_wide 4 Try.f4 rfl rfl rfl rfl rfl rfl rfl ⟨rfl, rfl, rfl, rfl, rfl⟩ rfl rfl rfl rfl rfl (by kernel_rfl) Try.func4 (by kernel_rfl)
    (of_decide_eq_true (by kernel_rfl)) (by unfold Func.isWrapper; first | (rw [if_pos (by decide +kernel)]; kernel_rfl) | (rw [if_neg (by decide +kernel)]; exact ⟨rfl, rfl⟩))
    (fun os started H enc _ => lifted os started H enc)

/-- ████ THE STATEMENT ████ -/
theorem proved : Rows.FnVotesForSaid := over
#print axioms proved
end Go.Proofs.Ytpllodjahanpkaa.fnVotesFor
