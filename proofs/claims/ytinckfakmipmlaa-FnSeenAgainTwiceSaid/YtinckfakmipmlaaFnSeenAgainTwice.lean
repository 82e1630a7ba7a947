/-
  PROVED: FnSeenAgainTwice: for every input the law returns true, and the input reads as it did. No condition.
  The frame is as the kit prints it (proof-skeleton.mjs); the walk is mine.
-/
import Derived.Test.YtinckfakmipmlaaRows
import Derived.Test.YtinckfakmipmlaaCopyK
import Derived.Test.YtinckfakmipmlaaDrawH
import Derived.Test.YtinckfakmipmlaaHoldB
import Derived.WalkKit
import Derived.ProofKit
import Derived.OpenShut
import Derived.ShutString
import Derived.ChangeOld
import Derived.Below
namespace Go.Proofs.Ytinckfakmipmlaa.fnSeenAgainTwice
open Go.ChangeShapes Go.WideShapes Go.ChangeAt Go.RowKit
open Go.ChangeMaps (open_string shut_string)
set_option linter.unusedVariables false

theorem own : ownKnob Try.prog.godebug = none := by kernel_rfl
theorem laidOut : laidOutB Try.prog = true := by kernel_rfl

/-- WHAT THE WALK IS TOLD OF A SLICE OF INTEGERS THAT CAME IN: it is nil; or it leads to a row of 'cap' cells, the numbers 'zs' (the first 'len' are its elements, the rest its spare room), each fitting its kind. -/
def IsRow (k : IntKind) (w : World) (a : Option Addr) (len cap : Nat) (zs : List Int) : Prop :=
  (a = none ∧ len = 0 ∧ cap = 0 ∧ zs = []) ∨
  ∃ x, a = some x ∧ len ≤ cap ∧ cap ≤ maxLen ∧ zs.length = cap ∧ (∀ i, i < zs.length → w.cell? (x.add i) = some (.int k (zs.getD i 0))) ∧ ∀ n ∈ zs, (Lit.int k n).wf = true

/-! ### STEP 1: THE WALK: the Go text returns true, AND WRITES NOTHING THAT WAS THERE: 'Below w.heap.size w w'' (Derived/Below.lean: '.refl', '.alloc', '.drew', '.setCell' at a new block, '.trans'). Open each 'IsRow' by 'rcases' AHEAD of 'go_enter'; part every test ahead of the walk. -/
set_option maxRecDepth 100000 in
set_option maxHeartbeats 8000000 in
theorem walk (a0 : Option Addr) (len0 cap0 : Nat) (z0 : List Int) (w : World) (w0 : IsRow .u8 w a0 len0 cap0 z0) :
    Calls Try.prog 12 #[.slice a0 len0 cap0] w fun e w' => e = .returned (.bool true) ∧ Below w.heap.size w w' := by
  by_cases hl : 1048576 < len0
  · have hl' : (1048576 : Int) < (len0 : Int) := by omega
    clear w0 hl
    go_enter Try.func12, Try.ntmps12
    go_wp2
    go_ret
    exact ⟨rfl, Below.refl _ _⟩
  have hl' : ¬ (1048576 : Int) < (len0 : Int) := by omega
  obtain ⟨hc, hcap⟩ := code_of w0 (by omega)
  clear w0 hl
  go_enter Try.func12, Try.ntmps12
  go_wp2_with fail
  refine (DrawSeenAgain_any w a0 len0 cap0 hc hcap).mono ?_
  rintro e w1 ⟨o, p, c, t, x, rfl, ho, hp, hc, ht, hx, bl⟩
  clear hc hcap
  have st1 := Kq.new bl o p c 24
  have r10 := st1.here.c0
  have r11 := st1.here.c1
  have r12 := st1.here.c2
  clear bl
  have k1 := fun w' => SA_impl o p c t x w'
  have k2 := fun w' => SA_spec o p c t x w'
  rcases hv : H.sk o p c t x with _ | _
  · obtain ⟨y0, y1, y2⟩ := H.s_no hv
    simp only [hv, y0, y1, y2] at k1 k2
    have K1 := Lib.hid k1
    have K2 := Lib.hid k2
    clear k1 k2 hv y0 y1 y2
    go_wp2_with fail
    refine (K1.out _).mono ?_
    rintro e w2 ⟨rfl, b2⟩
    have st2 := st1.b b2
    have r20 := st2.here.c0
    have r21 := st2.here.c1
    have r22 := st2.here.c2
    clear st1 b2 r10 r11 r12
    have d2 := C3.new w2 (0) (0) (0) 24
    have st2a := st2.al (.cells #[.int .i64 (0), .int .i64 (0), .int .i64 (0)] 24)
    have ra0 := st2a.here.c0
    have ra1 := st2a.here.c1
    have ra2 := st2a.here.c2
    clear st2 r20 r21 r22
    go_wp2_with fail
    refine (K2.out _).mono ?_
    rintro e w3 ⟨rfl, b3⟩
    have st3 := (st2a.b b3).al (.cells #[.int .i64 (0), .int .i64 (0), .int .i64 (0)] 24)
    have d3 := (d2.b b3).al (.cells #[.int .i64 (0), .int .i64 (0), .int .i64 (0)] 24)
    have e3 := C3.new w3 (0) (0) (0) 24
    have r30 := st3.here.c0
    have r31 := st3.here.c1
    have r32 := st3.here.c2
    have d30 := d3.c0
    have d31 := d3.c1
    have d32 := d3.c2
    have e30 := e3.c0
    have e31 := e3.c1
    have e32 := e3.c2
    have ld := d2.lt
    have ld3 := b3.size
    clear st2a b3 ra0 ra1 ra2 d2 e3
    go_wp2
    go_ret
    exact ⟨ret_bool (by first | rfl | simp), st3.bel⟩
  · obtain ⟨y0, y1, y2⟩ := H.s_yes hv
    have hsv := H.s_valid hv
    have hself := H.s_self hv
    have hok := (H.sk_of hv).1
    have hx1 := (H.sk_of hv).2
    have hb := H.er_bd hok
    simp only [hv, y0, y1, y2] at k1 k2
    have K1 := Lib.hid k1
    have K2 := Lib.hid k2
    clear k1 k2 y0 y1 y2
    have hv2 : H.sk (min x (H.er o p c t)) p t t 77 = true := H.sk_yes ⟨hself.1, by omega, by omega⟩
    obtain ⟨y0, y1, y2⟩ := H.s_yes hv2
    have k3 := fun w' => SA_impl (min x (H.er o p c t)) p t t 77 w'
    simp only [hv2, y0, y1, y2, hself.2] at k3
    have K3 := Lib.hid k3
    clear k3 hv2 y0 y1 y2
    by_cases h77 : x ≤ 77
    · have g77 : ¬ 77 < x := by omega
      have hv3 : H.sk o p c t x = true := H.sk_yes ⟨hok, by omega, by omega⟩
      obtain ⟨z0, z1, z2⟩ := H.s_yes hv3
      have k4 := fun w' => SA_impl o p c t x w'
      simp only [hv3, z0, z1, z2] at k4
      have hm : min x (H.er o p c t) = min 77 (min x (H.er o p c t)) := by omega
      rw [hm] at k4
      have K4 := Lib.hid k4
      clear k4 hv hv3 z0 z1 z2 hm hsv hself hok hb
      generalize H.er o p c t = n at *
      generalize min 77 (min x n) = V at *
      generalize min x n = U at *
      go_wp2_with fail
      refine (K1.out _).mono ?_
      rintro e w2 ⟨rfl, b2⟩
      have st2 := st1.b b2
      have r20 := st2.here.c0
      have r21 := st2.here.c1
      have r22 := st2.here.c2
      clear st1 b2 r10 r11 r12
      have d2 := C3.new w2 (U) (p) (t) 24
      have st2a := st2.al (.cells #[.int .i64 (U), .int .i64 (p), .int .i64 (t)] 24)
      have ra0 := st2a.here.c0
      have ra1 := st2a.here.c1
      have ra2 := st2a.here.c2
      clear st2 r20 r21 r22
      go_wp2_with fail
      refine (K2.out _).mono ?_
      rintro e w3 ⟨rfl, b3⟩
      have st3 := (st2a.b b3).al (.cells #[.int .i64 (U), .int .i64 (p), .int .i64 (t)] 24)
      have d3 := (d2.b b3).al (.cells #[.int .i64 (U), .int .i64 (p), .int .i64 (t)] 24)
      have e3 := C3.new w3 (U) (p) (t) 24
      have r30 := st3.here.c0
      have r31 := st3.here.c1
      have r32 := st3.here.c2
      have d30 := d3.c0
      have d31 := d3.c1
      have d32 := d3.c2
      have e30 := e3.c0
      have e31 := e3.c1
      have e32 := e3.c2
      have ld := d2.lt
      have ld3 := b3.size
      clear st2a b3 ra0 ra1 ra2 d2 e3
      go_wp2_with fail
      refine (K3.out _).mono ?_
      rintro e w5 ⟨rfl, b5⟩
      have st5 := (st3.b b5).al (.cells #[.int .i64 V, .int .i64 p, .int .i64 t] 24)
      have f5 := C3.new w5 V p t 24
      have r50 := st5.here.c0
      have r51 := st5.here.c1
      have r52 := st5.here.c2
      clear st3 b5 d3 r30 r31 r32 d30 d31 d32 e30 e31 e32
      go_wp2_with fail
      all_goals
        (first | (exfalso; omega; done) | skip)
      all_goals
        refine (K4.out _).mono ?_
        rintro e w6 ⟨rfl, b6⟩
        have st6 := (st5.b b6).al (.cells #[.int .i64 V, .int .i64 p, .int .i64 t] 24)
        have f6 := (f5.b b6).al (.cells #[.int .i64 V, .int .i64 p, .int .i64 t] 24)
        have g6 := C3.new w6 V p t 24
        have f60 := f6.c0
        have f61 := f6.c1
        have f62 := f6.c2
        have g60 := g6.c0
        have g61 := g6.c1
        have g62 := g6.c2
        have lf := f5.lt
        have lf6 := b6.size
        clear st5 b6 f5 g6 f6 r50 r51 r52
        go_upto_region 10 with (fail)
        have hfin := st6.bel
        clear st6 lf lf6
        generalize w6.alloc (Obj.cells #[Value.int IntKind.i64 V, Value.int IntKind.i64 p, Value.int IntKind.i64 t] 24) = WE at *
        go_wp2
        go_ret
        exact ⟨ret_bool (by first | rfl | simp), hfin⟩
    · have g77 : 77 < x := by omega
      have hv3 : H.sk o p c t 77 = true := H.sk_yes ⟨hok, by omega, by omega⟩
      obtain ⟨z0, z1, z2⟩ := H.s_yes hv3
      have k4 := fun w' => SA_impl o p c t 77 w'
      simp only [hv3, z0, z1, z2] at k4
      have hm : min 77 (H.er o p c t) = min 77 (min x (H.er o p c t)) := by omega
      rw [hm] at k4
      have K4 := Lib.hid k4
      clear k4 hv hv3 z0 z1 z2 hm hsv hself hok hb
      generalize H.er o p c t = n at *
      generalize min 77 (min x n) = V at *
      generalize min x n = U at *
      go_wp2_with fail
      refine (K1.out _).mono ?_
      rintro e w2 ⟨rfl, b2⟩
      have st2 := st1.b b2
      have r20 := st2.here.c0
      have r21 := st2.here.c1
      have r22 := st2.here.c2
      clear st1 b2 r10 r11 r12
      have d2 := C3.new w2 (U) (p) (t) 24
      have st2a := st2.al (.cells #[.int .i64 (U), .int .i64 (p), .int .i64 (t)] 24)
      have ra0 := st2a.here.c0
      have ra1 := st2a.here.c1
      have ra2 := st2a.here.c2
      clear st2 r20 r21 r22
      go_wp2_with fail
      refine (K2.out _).mono ?_
      rintro e w3 ⟨rfl, b3⟩
      have st3 := (st2a.b b3).al (.cells #[.int .i64 (U), .int .i64 (p), .int .i64 (t)] 24)
      have d3 := (d2.b b3).al (.cells #[.int .i64 (U), .int .i64 (p), .int .i64 (t)] 24)
      have e3 := C3.new w3 (U) (p) (t) 24
      have r30 := st3.here.c0
      have r31 := st3.here.c1
      have r32 := st3.here.c2
      have d30 := d3.c0
      have d31 := d3.c1
      have d32 := d3.c2
      have e30 := e3.c0
      have e31 := e3.c1
      have e32 := e3.c2
      have ld := d2.lt
      have ld3 := b3.size
      clear st2a b3 ra0 ra1 ra2 d2 e3
      go_wp2_with fail
      refine (K3.out _).mono ?_
      rintro e w5 ⟨rfl, b5⟩
      have st5 := (st3.b b5).al (.cells #[.int .i64 V, .int .i64 p, .int .i64 t] 24)
      have f5 := C3.new w5 V p t 24
      have r50 := st5.here.c0
      have r51 := st5.here.c1
      have r52 := st5.here.c2
      clear st3 b5 d3 r30 r31 r32 d30 d31 d32 e30 e31 e32
      go_wp2_with fail
      all_goals
        (first | (exfalso; omega; done) | skip)
      all_goals
        refine (K4.out _).mono ?_
        rintro e w6 ⟨rfl, b6⟩
        have st6 := (st5.b b6).al (.cells #[.int .i64 V, .int .i64 p, .int .i64 t] 24)
        have f6 := (f5.b b6).al (.cells #[.int .i64 V, .int .i64 p, .int .i64 t] 24)
        have g6 := C3.new w6 V p t 24
        have f60 := f6.c0
        have f61 := f6.c1
        have f62 := f6.c2
        have g60 := g6.c0
        have g61 := g6.c1
        have g62 := g6.c2
        have lf := f5.lt
        have lf6 := b6.size
        clear st5 b6 f5 g6 f6 r50 r51 r52
        go_upto_region 10 with (fail)
        have hfin := st6.bel
        clear st6 lf lf6
        generalize w6.alloc (Obj.cells #[Value.int IntKind.i64 V, Value.int IntKind.i64 p, Value.int IntKind.i64 t] 24) = WE at *
        go_wp2
        go_ret
        exact ⟨ret_bool (by first | rfl | simp), hfin⟩

/-! ### THE ROW's STEP: WRITTEN OUT: LEAVE IT -/
set_option maxRecDepth 100000 in
theorem lifted (os : Os) (started : os.Started) (H : Type) (enc : TypeId × Value → H) :
    ReturnsInHanded {} Try.checked os 12 .any (Rows.fnSeenAgainTwiceSpec.pre6 enc Try.prog Try.f12 Rows.fnSeenAgainTwiceRow.domain false) (Rows.fnSeenAgainTwiceSpec.post enc Try.prog Try.f12 false true false false) := by
  refine returnsInHanded_of_change (C := Try.checked) own started (by kernel_rfl) Try.func12
    (ChangeSpec.witness6 (enc := enc) (C := Try.checked) false ⟨#[], #[.slice none 0 0], []⟩ 8 (by kernel_rfl) (by kernel_rfl) (by kernel_rfl) (by kernel_rfl)) ?_
  intro W base args ds gs before hval0 hW hcnd _
  have hval : ∀ (j : Nat) t v, Try.f12.params[j]? = some t → args[j]? = some v → Value.okWide Try.prog W .any base t v := hval0
  have hW' := hW
  obtain ⟨p, q, hA0, hV, rfl, hfz, hnd⟩ := hW
  have hA : DataW.TrodAll enc Try.prog W 0 (fun _ => true) true Try.f12.params.toList args.toList ds p := hA0
  rw [Try.params12] at hA hval
  obtain ⟨v0, vs0, d0, ds0, p0, q0, hargs, rfl, rfl, h0, r0⟩ := trodAll_cons hA
  obtain ⟨rfl, rfl, rfl⟩ := trodAll_nil r0
  obtain rfl : args = #[v0] := by cases args; simp_all
  obtain ⟨rfl, rfl⟩ := trodVars_none hV
  obtain ⟨a0, len0, cap0, rfl⟩ := okWide_slice Try.underlying22 (hval 0 22 v0 rfl rfl)
  have k0 := h0
  have lt0 : ∀ x ∈ p0, x.block < W.heap.size := by obtain ⟨m, hm⟩ := k0; exact DataW.trod_lt m _ _ _ hm
  obtain ⟨z0, w0⟩ : ∃ zs, IsRow .u8 W a0 len0 cap0 zs := by
    obtain ⟨fuel, hf⟩ := h0
    rcases open_ints Try.underlying22 Try.underlying5 (by kernel_rfl) hf with ⟨hcs, _⟩ | ⟨x, l, c, zs, hcs, _, hl, hm, hz, _, hcell, hwz⟩
    · simp [Value.cells] at hcs
      obtain ⟨rfl, rfl, rfl⟩ := hcs
      exact ⟨[], .inl ⟨rfl, rfl, rfl, rfl⟩⟩
    · simp [Value.cells] at hcs
      obtain ⟨rfl, rfl, rfl⟩ := hcs
      exact ⟨zs, .inr ⟨_, rfl, hl, hm, by simpa using hz, hcell, hwz⟩⟩
  clear hA0 hval0
  refine (walk a0 len0 cap0 z0 W w0).mono fun e W' ⟨he, bel⟩ => ?_
  subst he
  exact ⟨_, rfl, _, _, _, [], _, [], hW', trodAll_mk1 (shut_bool Try.underlying4 _), (trodAll_cons_mk (Below.trod laidOut (by kernel_rfl) (of_decide_eq_true (by kernel_rfl)) k0 bel lt0) trodAll_mk0), rfl, bel.frame _, fun h => by cases h⟩

theorem over : Rows.fnSeenAgainTwiceRow.holds Try.pinned (OpenSpec.ofChange Rows.fnSeenAgainTwiceSpec) :=
  OpenClaim.holds_of_wide 12 Try.f12 rfl rfl rfl rfl rfl rfl rfl ⟨rfl, rfl, rfl, rfl, rfl⟩ rfl rfl rfl rfl rfl (by kernel_rfl) Try.func12 (by kernel_rfl)
    (of_decide_eq_true (by kernel_rfl)) (by unfold Func.isWrapper; first | (rw [if_pos (by decide +kernel)]; kernel_rfl) | (rw [if_neg (by decide +kernel)]; exact ⟨rfl, rfl⟩))
    (fun os started H enc _ => lifted os started H enc)

/-- ████ THE STATEMENT ████ -/
theorem proved : Rows.FnSeenAgainTwiceSaid := over
#print axioms proved
end Go.Proofs.Ytinckfakmipmlaa.fnSeenAgainTwice
