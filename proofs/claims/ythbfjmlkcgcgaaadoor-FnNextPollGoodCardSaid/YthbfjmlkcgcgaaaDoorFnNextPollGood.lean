/-
  PROVED: FnNextPollGood: for every input the law returns true, and the input reads as it did. The condition that the row lists: the table of rules (impl.pollRules) holds what the program lays in it; the given tie says that it does.
  The frame is as the kit prints it (proof-skeleton.mjs); the walk is mine.
-/
import Derived.Test.YthbfjmlkcgcgaaaDoorRows
import Derived.Test.YthbfjmlkcgcgaaaDoorDrawPl
import Derived.Test.YthbfjmlkcgcgaaaDoorNextS
import Derived.Test.YthbfjmlkcgcgaaaDoorCopyPl
import Derived.Test.YthbfjmlkcgcgaaaDoorDoor
import Derived.Test.YthbfjmlkcgcgaaaDoorTie
import Derived.Test.YthbfjmlkcgcgaaaDoorCards
import Derived.LaidMore
import Derived.OpenVars
import Derived.ChangeVars
import Derived.SevenTiedAt
import Derived.WalkKit
import Derived.ProofKit
import Derived.OpenShut
import Derived.ShutString
import Derived.ChangeOld
import Derived.Below
namespace Go.Proofs.YthbfjmlkcgcgaaaDoor.fnNextPollGood
open Go.ChangeShapes Go.WideShapes Go.ChangeAt Go.RowKit
open Go.ChangeMaps (open_string shut_string)
set_option linter.unusedVariables false

theorem own : ownKnob Tryd.prog.godebug = none := by kernel_rfl
theorem laidOut : laidOutB Tryd.prog = true := by kernel_rfl

/-- WHAT THE WALK IS TOLD OF A SLICE OF INTEGERS THAT CAME IN: it is nil; or it leads to a row of 'cap' cells, the numbers 'zs' (the first 'len' are its elements, the rest its spare room), each fitting its kind. -/
def IsRow (k : IntKind) (w : World) (a : Option Addr) (len cap : Nat) (zs : List Int) : Prop :=
  (a = none ∧ len = 0 ∧ cap = 0 ∧ zs = []) ∨
  ∃ x, a = some x ∧ len ≤ cap ∧ cap ≤ maxLen ∧ zs.length = cap ∧ (∀ i, i < zs.length → w.cell? (x.add i) = some (.int k (zs.getD i 0))) ∧ ∀ n ∈ zs, (Lit.int k n).wf = true

/-! ### STEP 1: THE WALK: the Go text returns true, AND WRITES NOTHING THAT WAS THERE: 'Below w.heap.size w w'' (Derived/Below.lean: '.refl', '.alloc', '.drew', '.setCell' at a new block, '.trans'). Open each 'IsRow' by 'rcases' AHEAD of 'go_enter'; part every test ahead of the walk. -/
theorem n_good {p c j : Int} (h : J.vp p c = true) (hj : 0 ≤ j) : p ≤ J.np p c 0 j := by
  have := J.vp_of h
  unfold J.Vp at this
  have hn : K.abs 0 ≤ 4 * j := by unfold K.abs; split <;> omega
  rw [(J.near_yes hn).1]
  unfold J.gp
  split <;> omega
theorem n_bad {p c : Int} (h : J.vp p c = true) : J.np p c 900000 0 ≤ p := by
  have := J.vp_of h
  unfold J.Vp at this
  have hn : ¬ K.abs 900000 ≤ 4 * 0 := by unfold K.abs; split <;> omega
  rw [(J.near_no hn).1]
  unfold J.bp
  split <;> omega
set_option maxRecDepth 100000 in
set_option maxHeartbeats 4000000 in
theorem walk (a0 : Option Addr) (len0 cap0 : Nat) (z0 : List Int) (w : World) (w0 : IsRow .u8 w a0 len0 cap0 z0) (hg : Gl w) :
    Calls Tryd.prog 4 #[.slice a0 len0 cap0] w fun e w' => e = .returned (.bool true) ∧ Below w.heap.size w w' := by
  by_cases hl : 1048576 < len0
  · have hl' : (1048576 : Int) < (len0 : Int) := by omega
    clear w0 hl
    go_enter Tryd.func4, Tryd.ntmps4
    go_wp2
    go_ret
    exact ⟨rfl, Below.refl _ _⟩
  have hl' : ¬ (1048576 : Int) < (len0 : Int) := by omega
  obtain ⟨hc, hcap⟩ := code_of w0 (by omega)
  clear w0 hl
  go_enter Tryd.func4, Tryd.ntmps4
  go_wp2_with fail
  refine (DrawNextPoll_any w a0 len0 cap0 hc hcap).mono ?_
  rintro e w1 ⟨p, c, o, j, rfl, ho, hj, bl⟩
  clear hc hcap
  have g1 := (hg.b bl).al (.cells #[.int .i64 p, .int .i64 c] 24)
  have p1 := P2.new w1 p c 24
  have b1 := bl.alloc bl.size (.cells #[.int .i64 p, .int .i64 c] 24)
  clear bl hg
  by_cases hk : ¬ J.Ok p c o j
  · have K1k := fun w' => NP_impl_no p c o j w' hk
    have K1 := Lib.hid K1k
    clear K1k
    have K2k := fun w' => NP_spec_no p c o j w' hk
    have K2 := Lib.hid K2k
    clear K2k
    clear hk
    have pc0 := p1.c0
    have pc1 := p1.c1
    go_wp2_with fail
    refine (K1.out _).mono ?_
    rintro e w2 ⟨rfl, bb⟩
    clear pc0 pc1
    have p2 := p1.b bb
    have g2 := g1.b bb
    have b2 := b1.trans (bb.mono b1.size)
    clear p1 g1 b1 bb
    replace p2 := p2.al (.cells #[.int .i64 0, .int .i64 0] 24)
    replace g2 := g2.al (.cells #[.int .i64 0, .int .i64 0] 24)
    replace b2 := b2.alloc b2.size (.cells #[.int .i64 0, .int .i64 0] 24)
    have q2 := P2.new w2 0 0 24
    have pc0 := p2.c0
    have pc1 := p2.c1
    go_wp2_with fail
    refine (K2.out _).mono ?_
    rintro e w3 ⟨rfl, bb⟩
    clear pc0 pc1
    have p3 := p2.b bb
    have q3 := q2.b bb
    have g3 := g2.b bb
    have b3 := b2.trans (bb.mono b2.size)
    clear p2 q2 g2 b2 bb
    replace p3 := p3.al (.cells #[.int .i64 0, .int .i64 0] 24)
    replace q3 := q3.al (.cells #[.int .i64 0, .int .i64 0] 24)
    replace g3 := g3.al (.cells #[.int .i64 0, .int .i64 0] 24)
    replace b3 := b3.alloc b3.size (.cells #[.int .i64 0, .int .i64 0] 24)
    have r3 := P2.new w3 0 0 24
    have qc0 := q3.c0
    have qc1 := q3.c1
    have rc0 := r3.c0
    have rc1 := r3.c1
    go_wp2
    go_ret
    exact ⟨ret_bool (by first | rfl | (simp; done) | simp_all), b3⟩
  · have hk := Decidable.not_not.mp hk
    have hk0 : J.Ok p c 0 j := ⟨hk.1, by omega, hk.2.2⟩
    have hk9 : J.Ok p c 900000 0 := ⟨hk.1, by omega, by omega⟩
    have h0 := n_good hk.1 hk.2.2.1
    have h9 := n_bad hk.1
    have K1k := fun w' (hg' : Gl w') => NP_impl_yes p c o j w' hg' hk
    have K1 := Lib.hid K1k
    clear K1k
    have K2k := fun w' => NP_spec_yes p c o j w' hk
    have K2 := Lib.hid K2k
    clear K2k
    have K3k := fun w' (hg' : Gl w') => NP_impl_yes p c 0 j w' hg' hk0
    have K3 := Lib.hid K3k
    clear K3k
    have K4k := fun w' (hg' : Gl w') => NP_impl_yes p c 900000 0 w' hg' hk9
    have K4 := Lib.hid K4k
    clear K4k
    clear hk ho hj hk0 hk9
    generalize J.np p c o j = x at *
    generalize J.nc p c o j = y at *
    generalize J.np p c 0 j = x0 at *
    generalize J.nc p c 0 j = y0 at *
    generalize J.np p c 900000 0 = x9 at *
    generalize J.nc p c 900000 0 = y9 at *
    have pc0 := p1.c0
    have pc1 := p1.c1
    go_wp2_with fail
    refine (K1.out _ g1).mono ?_
    rintro e w2 ⟨rfl, bb⟩
    clear pc0 pc1
    have p2 := p1.b bb
    have g2 := g1.b bb
    have b2 := b1.trans (bb.mono b1.size)
    clear p1 g1 b1 bb
    replace p2 := p2.al (.cells #[.int .i64 x, .int .i64 y] 24)
    replace g2 := g2.al (.cells #[.int .i64 x, .int .i64 y] 24)
    replace b2 := b2.alloc b2.size (.cells #[.int .i64 x, .int .i64 y] 24)
    have q2 := P2.new w2 x y 24
    have pc0 := p2.c0
    have pc1 := p2.c1
    go_wp2_with fail
    refine (K2.out _).mono ?_
    rintro e w3 ⟨rfl, bb⟩
    clear pc0 pc1
    have p3 := p2.b bb
    have q3 := q2.b bb
    have g3 := g2.b bb
    have b3 := b2.trans (bb.mono b2.size)
    clear p2 q2 g2 b2 bb
    replace p3 := p3.al (.cells #[.int .i64 x, .int .i64 y] 24)
    replace q3 := q3.al (.cells #[.int .i64 x, .int .i64 y] 24)
    replace g3 := g3.al (.cells #[.int .i64 x, .int .i64 y] 24)
    replace b3 := b3.alloc b3.size (.cells #[.int .i64 x, .int .i64 y] 24)
    have r3 := P2.new w3 x y 24
    have pc0 := p3.c0
    have pc1 := p3.c1
    have qc0 := q3.c0
    have qc1 := q3.c1
    have rc0 := r3.c0
    have rc1 := r3.c1
    go_wp2_with fail
    refine (K3.out _ g3).mono ?_
    rintro e w4 ⟨rfl, bb⟩
    clear pc0 pc1 qc0 qc1 rc0 rc1
    have p4 := p3.b bb
    have q4 := q3.b bb
    have r4 := r3.b bb
    have g4 := g3.b bb
    have b4 := b3.trans (bb.mono b3.size)
    clear p3 q3 r3 g3 b3 bb
    replace p4 := p4.al (.cells #[.int .i64 x0, .int .i64 y0] 24)
    replace q4 := q4.al (.cells #[.int .i64 x0, .int .i64 y0] 24)
    replace r4 := r4.al (.cells #[.int .i64 x0, .int .i64 y0] 24)
    replace g4 := g4.al (.cells #[.int .i64 x0, .int .i64 y0] 24)
    replace b4 := b4.alloc b4.size (.cells #[.int .i64 x0, .int .i64 y0] 24)
    have s4 := P2.new w4 x0 y0 24
    clear q4
    clear r4
    have pc0 := p4.c0
    have pc1 := p4.c1
    go_wp2_with fail
    refine (K4.out _ g4).mono ?_
    rintro e w5 ⟨rfl, bb⟩
    clear pc0 pc1
    have p5 := p4.b bb
    have s5 := s4.b bb
    have g5 := g4.b bb
    have b5 := b4.trans (bb.mono b4.size)
    clear p4 s4 g4 b4 bb
    replace p5 := p5.al (.cells #[.int .i64 x9, .int .i64 y9] 24)
    replace s5 := s5.al (.cells #[.int .i64 x9, .int .i64 y9] 24)
    replace g5 := g5.al (.cells #[.int .i64 x9, .int .i64 y9] 24)
    replace b5 := b5.alloc b5.size (.cells #[.int .i64 x9, .int .i64 y9] 24)
    have t5 := P2.new w5 x9 y9 24
    have pc0 := p5.c0
    have pc1 := p5.c1
    have sc0 := s5.c0
    have sc1 := s5.c1
    have tc0 := t5.c0
    have tc1 := t5.c1
    go_wp2
    go_ret
    exact ⟨ret_bool (by first | rfl | (simp; done) | simp_all), b5⟩

/-! ### THE ROW's STEP: WRITTEN OUT: LEAVE IT -/
set_option maxRecDepth 100000 in
theorem lifted (os : Os) (started : os.Started) (H : Type) (enc : TypeId × Value → H) :
    ReturnsInHanded {} Tryd.checked os 4 .any (fun w args => (Rows.fnNextPollGoodSpec.pre enc Tryd.prog Tryd.f4 [] false w args ∧ laidMetH Tryd.prog laidL w) ∧ sizedMet enc Tryd.prog Tryd.f4 (OpenSpec.ofChange Rows.fnNextPollGoodSpec) false w args) (Rows.fnNextPollGoodSpec.post enc Tryd.prog Tryd.f4 false true false false) := by
  refine returnsInHanded_of_change_and (C := Tryd.checked) (X := fun w _ => laidMetH Tryd.prog laidL w) (fun _ _ _ hh h => h.of_heap hh) own started (by kernel_rfl) Tryd.func4
    (ChangeSpec.witness_shaped (enc := enc) (C := Tryd.checked) (os := os) (X := fun w _ => laidMetH Tryd.prog laidL w) false (World.doorLaid Tryd.prog 400 os) #[.slice none 0 0] 8 rfl (World.shaped_of_RefB (by kernel_rfl) (by kernel_rfl)) (by kernel_rfl) (by kernel_rfl) (by kernel_rfl) (door_met os _)) ?_
  intro W base args ds gs before hval0 hW _ _ hL _
  have hval : ∀ (j : Nat) t v, Tryd.f4.params[j]? = some t → args[j]? = some v → Value.okWide Tryd.prog W .any base t v := hval0
  have hW' := hW
  obtain ⟨p, q, hA0, hV, rfl, hfz, hnd⟩ := hW
  have hA : DataW.TrodAll enc Tryd.prog W 0 (fun _ => true) true Tryd.f4.params.toList args.toList ds p := hA0
  rw [Tryd.params4] at hA hval
  obtain ⟨v0, vs0, d0, ds0, p0, q0, hargs, rfl, rfl, h0, r0⟩ := trodAll_cons hA
  obtain ⟨rfl, rfl, rfl⟩ := trodAll_nil r0
  obtain rfl : args = #[v0] := by cases args; simp_all
  have hVk : DataW.TrodVars enc Tryd.prog W (fun _ => true) [VN] gs q := hV
  obtain ⟨vg, vt, vcs, vf, vd, vp, rfl, vh1, vh2, vh3, vh4, rfl⟩ := trodVars_one (n := VN) hV
  obtain ⟨a0, len0, cap0, rfl⟩ := okWide_slice Tryd.underlying22 (hval 0 22 v0 rfl rfl)
  have k0 := h0
  have lt0 : ∀ x ∈ p0, x.block < W.heap.size := by obtain ⟨m, hm⟩ := k0; exact DataW.trod_lt m _ _ _ hm
  obtain ⟨z0, w0⟩ : ∃ zs, IsRow .u8 W a0 len0 cap0 zs := by
    obtain ⟨fuel, hf⟩ := h0
    rcases open_ints Tryd.underlying22 Tryd.underlying5 (by kernel_rfl) hf with ⟨hcs, _⟩ | ⟨x, l, c, zs, hcs, _, hl, hm, hz, _, hcell, hwz⟩
    · simp [Value.cells] at hcs
      obtain ⟨rfl, rfl, rfl⟩ := hcs
      exact ⟨[], .inl ⟨rfl, rfl, rfl, rfl⟩⟩
    · simp [Value.cells] at hcs
      obtain ⟨rfl, rfl, rfl⟩ := hcs
      exact ⟨zs, .inr ⟨_, rfl, hl, hm, by simpa using hz, hcell, hwz⟩⟩
  clear hA0 hval0
  refine (walk a0 len0 cap0 z0 W w0 (of_laid hL)).mono fun e W' ⟨he, bel⟩ => ?_
  subst he
  exact ⟨_, rfl, _, _, _, [], _, _, hW', trodAll_mk1 (shut_bool Tryd.underlying4 _), (trodAll_cons_mk (Below.trod laidOut (by kernel_rfl) (of_decide_eq_true (by kernel_rfl)) k0 bel lt0) trodAll_mk0), Below.trodVars laidOut bel (by kernel_rfl) hVk, bel.frame _, fun h => by cases h⟩

theorem over : Rows.fnNextPollGoodRow.holds Tryd.pinned (OpenSpec.ofChange Rows.fnNextPollGoodSpec) :=
  OpenClaim.holds_of_wide 4 Tryd.f4 rfl rfl rfl rfl rfl rfl rfl ⟨rfl, rfl, rfl, rfl, rfl⟩ rfl rfl rfl rfl rfl (by kernel_rfl) Tryd.func4 (by kernel_rfl)
    (of_decide_eq_true (by kernel_rfl)) (by unfold Func.isWrapper; first | (rw [if_pos (by decide +kernel)]; kernel_rfl) | (rw [if_neg (by decide +kernel)]; exact ⟨rfl, rfl⟩))
    (fun os started H enc _ => lifted os started H enc)

/-- ████ THE STATEMENT ████ -/
theorem proved : Rows.FnNextPollGoodCardSaid :=
  Claim7.holds_tied_plain_at .later [] [.data] true (true, "f2e49cd36c93ffb06ebc91e7e571fd3580a7b60fdc3852441a80230de0c8a5b1") false over (fun _ h => by cases h) (by kernel_rfl) (fun _ h => by cases h) fnNextPollGood_row_tie rfl ⟨rfl, rfl⟩ (by kernel_rfl) rfl
    (fun f fn hf hfn => by
      obtain rfl : f = 4 := Option.some.inj ((show Tryd.prog.funcNamed "loop.example/satelliteclock/laws.FnNextPollGood" = some 4 by kernel_rfl).symm.trans hf) |>.symm
      obtain rfl : fn = Tryd.f4 := (Option.some.inj (Tryd.func4.symm.trans hfn)).symm
      exact ⟨by kernel_rfl, fun j t ht => by
        rw [Tryd.params4] at ht
        have hm : t ∈ [22] := by simpa using Array.mem_of_getElem? ht
        have hall : ([22].all fun u => !Tryd.prog.wantsStandIn u) = true := by kernel_rfl
        exact (show Tryd.prog.wantsStandIn t = false by simpa using List.all_eq_true.1 hall t hm)⟩)
    (by kernel_rfl)
#print axioms proved
end Go.Proofs.YthbfjmlkcgcgaaaDoor.fnNextPollGood
