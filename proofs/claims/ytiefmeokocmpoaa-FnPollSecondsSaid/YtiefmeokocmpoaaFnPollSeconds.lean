/-
  PROVED: FnPollSeconds: for every input the law returns true, and the input reads as it did. No condition.
  The frame is as the kit prints it (proof-skeleton.mjs); the walk is mine.
-/
import Derived.Test.YtiefmeokocmpoaaRows
import Derived.Test.YtiefmeokocmpoaaCopyPl
import Derived.Test.YtiefmeokocmpoaaDrawPl
import Derived.WalkKit
import Derived.ProofKit
import Derived.OpenShut
import Derived.ShutString
import Derived.ChangeOld
import Derived.Below
namespace Go.Proofs.Ytiefmeokocmpoaa.fnPollSeconds
open Go.ChangeShapes Go.WideShapes Go.ChangeAt Go.RowKit
open Go.ChangeMaps (open_string shut_string)
set_option linter.unusedVariables false

theorem own : ownKnob Try.prog.godebug = none := by kernel_rfl
theorem laidOut : laidOutB Try.prog = true := by kernel_rfl

/-- WHAT THE WALK IS TOLD OF A SLICE OF INTEGERS THAT CAME IN: it is nil; or it leads to a row of 'cap' cells, the numbers 'zs' (the first 'len' are its elements, the rest its spare room), each fitting its kind. -/
def IsRow (k : IntKind) (w : World) (a : Option Addr) (len cap : Nat) (zs : List Int) : Prop :=
  (a = none ∧ len = 0 ∧ cap = 0 ∧ zs = []) ∨
  ∃ x, a = some x ∧ len ≤ cap ∧ cap ≤ maxLen ∧ zs.length = cap ∧ (∀ i, i < zs.length → w.cell? (x.add i) = some (.int k (zs.getD i 0))) ∧ ∀ n ∈ zs, (Lit.int k n).wf = true

/-! ### STEP 1: THE WALK: the Go text returns true, AND WRITES NOTHING THAT WAS THERE: 'Below w.heap.size w w'' (Derived/Below.lean: '.refl', '.alloc', '.drew', '.setCell' at a new block, '.trans'). Open each 'IsRow' by 'rcases' AHEAD of 'go_enter'; part every test ahead of the walk. -/
set_option maxRecDepth 100000 in
set_option maxHeartbeats 4000000 in
theorem walk (a0 : Option Addr) (len0 cap0 : Nat) (z0 : List Int) (w : World) (w0 : IsRow .u8 w a0 len0 cap0 z0) :
    Calls Try.prog 4 #[.slice a0 len0 cap0] w fun e w' => e = .returned (.bool true) ∧ Below w.heap.size w w' := by
  by_cases hl : 1048576 < len0
  · have hl' : (1048576 : Int) < (len0 : Int) := by omega
    clear w0 hl
    go_enter Try.func4, Try.ntmps4
    go_wp2
    go_ret
    exact ⟨rfl, Below.refl _ _⟩
  have hl' : ¬ (1048576 : Int) < (len0 : Int) := by omega
  obtain ⟨hc, hcap⟩ := code_of w0 (by omega)
  clear w0 hl
  go_enter Try.func4, Try.ntmps4
  go_wp2_with fail
  refine (DrawPollSeconds_any w a0 len0 cap0 hc hcap).mono ?_
  rintro e w1 ⟨p, c, rfl, bl⟩
  clear hc hcap
  have p1 := P2.new w1 p c 24
  have b1 := bl.alloc bl.size (.cells #[.int .i64 p, .int .i64 c] 24)
  clear bl
  rcases hv : J.vp p c with _ | _
  · have K1k := fun w' => ps_impl p c w'
    simp only [J.ps_no hv] at K1k
    have K1 := Lib.hid K1k
    clear K1k
    have K2k := fun w' => ps_spec p c w'
    simp only [J.ps_no hv] at K2k
    have K2 := Lib.hid K2k
    clear K2k
    clear hv
    have pc0 := p1.c0
    have pc1 := p1.c1
    go_wp2_with fail
    refine (K1.out _).mono ?_
    rintro e w2 ⟨rfl, bb⟩
    clear pc0 pc1
    have p2 := p1.b bb
    have b2 := b1.trans (bb.mono b1.size)
    clear p1 b1 bb
    have pc0 := p2.c0
    have pc1 := p2.c1
    go_wp2_with fail
    refine (K2.out _).mono ?_
    rintro e w3 ⟨rfl, bb⟩
    clear pc0 pc1
    have p3 := p2.b bb
    have b3 := b2.trans (bb.mono b2.size)
    clear p2 b2 bb
    have pc0 := p3.c0
    have pc1 := p3.c1
    go_wp2_with fail
    refine (K2.out _).mono ?_
    rintro e w4 ⟨rfl, bb⟩
    clear pc0 pc1
    have p4 := p3.b bb
    have b4 := b3.trans (bb.mono b3.size)
    clear p3 b3 bb
    go_wp2
    go_ret
    exact ⟨ret_bool (by first | rfl | (simp; done) | simp_all), b4⟩
  · have hp := (J.vp_of hv).1
    by_cases h10 : p = 10
    · subst h10
      have K1k := fun w' => ps_impl 10 c w'
      simp only [J.ps_yes hv] at K1k
      have K1 := Lib.hid K1k
      clear K1k
      have K2k := fun w' => ps_spec 10 c w'
      simp only [J.ps_yes hv] at K2k
      have K2 := Lib.hid K2k
      clear K2k
      have hn : J.ps (10 + 1) 0 = -1 := J.ps_no (J.vp_no (fun h => by have := h.1; omega))
      have K3k := fun w' => ps_impl 11 0 w'
      simp only [show J.ps 11 0 = -1 from hn] at K3k
      have K3 := Lib.hid K3k
      clear K3k
      have hv1 : J.pw 10 = 1024 := by decide
      rw [hv1] at K1 K2
      clear hv hn hv1 hp
      have pc0 := p1.c0
      have pc1 := p1.c1
      go_wp2_with fail
      refine (K1.out _).mono ?_
      rintro e w2 ⟨rfl, bb⟩
      clear pc0 pc1
      have p2 := p1.b bb
      have b2 := b1.trans (bb.mono b1.size)
      clear p1 b1 bb
      have pc0 := p2.c0
      have pc1 := p2.c1
      go_wp2_with fail
      refine (K2.out _).mono ?_
      rintro e w3 ⟨rfl, bb⟩
      clear pc0 pc1
      have p3 := p2.b bb
      have b3 := b2.trans (bb.mono b2.size)
      clear p2 b2 bb
      have pc0 := p3.c0
      have pc1 := p3.c1
      go_wp2_with fail
      refine (K3.out _).mono ?_
      rintro e w4 ⟨rfl, bb⟩
      clear pc0 pc1
      have p4 := p3.b bb
      have b4 := b3.trans (bb.mono b3.size)
      clear p3 b3 bb
      have pc0 := p4.c0
      have pc1 := p4.c1
      go_wp2
      go_ret
      exact ⟨ret_bool (by first | rfl | (simp; done) | simp_all), b4⟩
    · have hb : (p == 10) = false := by rw [beq_eq_false_iff_ne]; exact h10
      have K1k := fun w' => ps_impl p c w'
      simp only [J.ps_yes hv] at K1k
      have K1 := Lib.hid K1k
      clear K1k
      have K2k := fun w' => ps_spec p c w'
      simp only [J.ps_yes hv] at K2k
      have K2 := Lib.hid K2k
      clear K2k
      have hv1 : J.vp (p + 1) 0 = true := J.vp_yes ⟨by omega, by omega⟩
      have K3k := fun w' => ps_impl (p + 1) 0 w'
      simp only [J.ps_yes hv1] at K3k
      have K3 := Lib.hid K3k
      clear K3k
      have g1 := J.pw_at hp
      have g2 := J.pw_at (J.vp_of hv1).1
      have g3 : 16 ≤ J.pw p ∧ J.pw p ≤ 1024 ∧ J.pw (p + 1) = 2 * J.pw p := by omega
      obtain ⟨g4, g5, g6⟩ := g3
      rw [g6] at K3
      clear hv hv1 g1 g2 g6 h10
      generalize J.pw p = s at *
      have pc0 := p1.c0
      have pc1 := p1.c1
      go_wp2_with fail
      refine (K1.out _).mono ?_
      rintro e w2 ⟨rfl, bb⟩
      clear pc0 pc1
      have p2 := p1.b bb
      have b2 := b1.trans (bb.mono b1.size)
      clear p1 b1 bb
      have pc0 := p2.c0
      have pc1 := p2.c1
      go_wp2_with fail
      refine (K2.out _).mono ?_
      rintro e w3 ⟨rfl, bb⟩
      clear pc0 pc1
      have p3 := p2.b bb
      have b3 := b2.trans (bb.mono b2.size)
      clear p2 b2 bb
      have pc0 := p3.c0
      have pc1 := p3.c1
      go_wp2_with fail
      refine (K3.out _).mono ?_
      rintro e w4 ⟨rfl, bb⟩
      clear pc0 pc1
      have p4 := p3.b bb
      have b4 := b3.trans (bb.mono b3.size)
      clear p3 b3 bb
      have pc0 := p4.c0
      have pc1 := p4.c1
      go_wp2
      go_ret
      exact ⟨ret_bool (by first | rfl | (simp; done) | simp_all), b4⟩

/-! ### THE ROW's STEP: WRITTEN OUT: LEAVE IT -/
set_option maxRecDepth 100000 in
theorem lifted (os : Os) (started : os.Started) (H : Type) (enc : TypeId × Value → H) :
    ReturnsInHanded {} Try.checked os 4 .any (Rows.fnPollSecondsSpec.pre6 enc Try.prog Try.f4 Rows.fnPollSecondsRow.domain false) (Rows.fnPollSecondsSpec.post enc Try.prog Try.f4 false true false false) := by
  refine returnsInHanded_of_change (C := Try.checked) own started (by kernel_rfl) Try.func4
    (ChangeSpec.witness6 (enc := enc) (C := Try.checked) false ⟨#[], #[.slice none 0 0], []⟩ 8 (by kernel_rfl) (by kernel_rfl) (by kernel_rfl) (by kernel_rfl)) ?_
  intro W base args ds gs before hval0 hW hcnd _
  have hval : ∀ (j : Nat) t v, Try.f4.params[j]? = some t → args[j]? = some v → Value.okWide Try.prog W .any base t v := hval0
  have hW' := hW
  obtain ⟨p, q, hA0, hV, rfl, hfz, hnd⟩ := hW
  have hA : DataW.TrodAll enc Try.prog W 0 (fun _ => true) true Try.f4.params.toList args.toList ds p := hA0
  rw [Try.params4] at hA hval
  obtain ⟨v0, vs0, d0, ds0, p0, q0, hargs, rfl, rfl, h0, r0⟩ := trodAll_cons hA
  obtain ⟨rfl, rfl, rfl⟩ := trodAll_nil r0
  obtain rfl : args = #[v0] := by cases args; simp_all
  obtain ⟨rfl, rfl⟩ := trodVars_none hV
  obtain ⟨a0, len0, cap0, rfl⟩ := okWide_slice Try.underlying22 (hval 0 22 v0 rfl rfl)
  have k0 := h0
  have lt0 : ∀ x ∈ p0, x.block < W.heap.size := by obtain ⟨m, hm⟩ := k0; exact DataW.trod_lt m _ _ _ hm
  obtain ⟨z0, w0⟩ : ∃ zs, IsRow .u8 W a0 len0 cap0 zs := by
    obtain ⟨fuel, hf⟩ := h0
    rcases open_ints Try.underlying22 Try.underlying5 (by kernel_rfl) hf with ⟨hcs, _⟩ | ⟨x, l, c, zs, hcs, _, hl, hm, hz, _, hcell, hwz⟩
    · simp [Value.cells] at hcs
      obtain ⟨rfl, rfl, rfl⟩ := hcs
      exact ⟨[], .inl ⟨rfl, rfl, rfl, rfl⟩⟩
    · simp [Value.cells] at hcs
      obtain ⟨rfl, rfl, rfl⟩ := hcs
      exact ⟨zs, .inr ⟨_, rfl, hl, hm, by simpa using hz, hcell, hwz⟩⟩
  clear hA0 hval0
  refine (walk a0 len0 cap0 z0 W w0).mono fun e W' ⟨he, bel⟩ => ?_
  subst he
  exact ⟨_, rfl, _, _, _, [], _, [], hW', trodAll_mk1 (shut_bool Try.underlying4 _), (trodAll_cons_mk (Below.trod laidOut (by kernel_rfl) (of_decide_eq_true (by kernel_rfl)) k0 bel lt0) trodAll_mk0), rfl, bel.frame _, fun h => by cases h⟩

theorem over : Rows.fnPollSecondsRow.holds Try.pinned (OpenSpec.ofChange Rows.fnPollSecondsSpec) :=
  OpenClaim.holds_of_wide 4 Try.f4 rfl rfl rfl rfl rfl rfl rfl ⟨rfl, rfl, rfl, rfl, rfl⟩ rfl rfl rfl rfl rfl (by kernel_rfl) Try.func4 (by kernel_rfl)
    (of_decide_eq_true (by kernel_rfl)) (by unfold Func.isWrapper; first | (rw [if_pos (by decide +kernel)]; kernel_rfl) | (rw [if_neg (by decide +kernel)]; exact ⟨rfl, rfl⟩))
    (fun os started H enc _ => lifted os started H enc)

/-- ████ THE STATEMENT ████ -/
theorem proved : Rows.FnPollSecondsSaid := over
#print axioms proved
end Go.Proofs.Ytiefmeokocmpoaa.fnPollSeconds
