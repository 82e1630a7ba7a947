/-
  PROVED: FnAgreedSpanOne: for every input the law returns true, and the input reads as it did. No condition.
  The frame is as the kit prints it (proof-skeleton.mjs); the walk is mine.
-/
import Derived.Test.YtpllodjahanpkaaRows
import Derived.Test.YtpllodjahanpkaaSt
import Derived.Test.YtpllodjahanpkaaISpan
import Derived.Test.YtpllodjahanpkaaIAg
import Derived.Test.YtpllodjahanpkaaDrawV
import Derived.WalkKit
import Derived.WalkSpells
import Derived.ProofKit
import Derived.OpenShut
import Derived.ShutString
import Derived.ChangeOld
import Derived.Below
namespace Go.Proofs.Ytpllodjahanpkaa.fnAgreedSpanOne
open Go.ChangeShapes Go.WideShapes Go.ChangeAt Go.RowKit
open Go.ChangeMaps (open_string shut_string)
set_option linter.unusedVariables false

theorem own : ownKnob Try.prog.godebug = none := by kernel_rfl
theorem laidOut : laidOutB Try.prog = true := by kernel_rfl

/-- WHAT THE WALK IS TOLD OF A SLICE OF INTEGERS THAT CAME IN: it is nil; or it leads to a row of 'cap' cells, the numbers 'zs' (the first 'len' are its elements, the rest its spare room), each fitting its kind. -/
def IsRow (k : IntKind) (w : World) (a : Option Addr) (len cap : Nat) (zs : List Int) : Prop :=
  (a = none ∧ len = 0 ∧ cap = 0 ∧ zs = []) ∨
  ∃ x, a = some x ∧ len ≤ cap ∧ cap ≤ maxLen ∧ zs.length = cap ∧ (∀ i, i < zs.length → w.cell? (x.add i) = some (.int k (zs.getD i 0))) ∧ ∀ n ∈ zs, (Lit.int k n).wf = true

/-! ### STEP 1: THE WALK: the Go text returns true, AND WRITES NOTHING THAT WAS THERE: 'Below w.heap.size w w'' (Derived/Below.lean: '.refl', '.alloc', '.drew', '.setCell' at a new block, '.trans'). Open each 'IsRow' by 'rcases' AHEAD of 'go_enter'; part every test ahead of the walk. -/
theorem ag_one {l : List (Int × Int)} (h : V.vs l = true) : V.agB (V.tk l 1) = true ∧ V.rlo (V.tk l 1) = V.lo l 0 ∧ V.rhi (V.tk l 1) = V.hi l 0 := by
  have hl := (V.vs_of h).1
  have hv := V.vs_take h (k := 1) (by omega) (by omega)
  have hlen : (V.tk l 1).length = 1 := by unfold V.tk; rw [List.length_take]; omega
  have hp := V.most_pos hv
  have hb : V.agB (V.tk l 1) = true := V.agB_yes hv (by omega)
  obtain ⟨e1, e2⟩ := V.r_yes hb
  have A := V.agr hv
  have h0 : V.lo (V.tk l 1) 0 = V.lo l 0 ∧ V.hi (V.tk l 1) 0 = V.hi l 0 := V.lo_take (by omega)
  obtain ⟨i, i1, i2, i3⟩ := A.end_
  obtain rfl : i = 0 := by omega
  obtain ⟨j, j1, j2⟩ := V.most_has hv
  obtain rfl : j = 0 := by omega
  have hlo : V.low (V.tk l 1) = V.lo (V.tk l 1) 0 := by
    have h1 := i2.1
    rcases Int.lt_or_le (V.lo (V.tk l 1) 0) (V.low (V.tk l 1)) with c | c
    · have := A.least _ c; omega
    · omega
  exact ⟨hb, by rw [e1, hlo, h0.1], by rw [e2, ← i3, h0.2]⟩
set_option maxHeartbeats 4000000 in
theorem walk (a0 : Option Addr) (len0 cap0 : Nat) (z0 : List Int) (w : World) (w0 : IsRow .u8 w a0 len0 cap0 z0) :
    Calls Try.prog 8 #[.slice a0 len0 cap0] w fun e w' => e = .returned (.bool true) ∧ Below w.heap.size w w' := by
  by_cases hl : 1048576 < len0
  · have hl' : (1048576 : Int) < (len0 : Int) := by omega
    clear w0 hl
    go_enter Try.func8, Try.ntmps8
    go_wp2
    go_ret
    exact ⟨rfl, Below.refl _ _⟩
  have hl' : ¬ (1048576 : Int) < (len0 : Int) := by omega
  obtain ⟨hc, hcap⟩ := code_of w0 (by omega)
  clear w0 hl
  go_enter Try.func8, Try.ntmps8
  go_wp2_with fail
  refine (DrawAgreedSpan_any w a0 len0 cap0 hc hcap).mono ?_
  rintro e w1 ⟨a, c, l, rfl, hl8, hlc, hcm, hS, hsm, bl, hfr⟩
  clear hc hcap
  have st := St.mk hS bl
  clear hS bl hfr hsm
  unfold maxLen at hcm
  have hbd := V.r_bd l
  go_wp2_with fail
  refine (ag_impl _ _ _ _ _ _ st.here (Nat.le_refl _)).mono ?_
  rintro e w2 ⟨rfl, b2⟩
  have st2 := (st.b b2).al (Obj.cells #[.int .i64 (V.rlo l), .int .i64 (V.rhi l)] 31)
  have x2 := Bx.new w2 (V.rlo l) (V.rhi l) 31
  clear st b2
  go_wp2_with fail
  refine (ag_spec _ _ _ _ _ _ st2.here (Nat.le_refl _)).mono ?_
  rintro e w3 ⟨rfl, b3⟩
  have st3 := (st2.b b3).al (Obj.cells #[.int .i64 (V.rlo l), .int .i64 (V.rhi l)] 31)
  have x3 := (x2.b b3).al (Obj.cells #[.int .i64 (V.rlo l), .int .i64 (V.rhi l)] 31)
  have y3 := Bx.new w3 (V.rlo l) (V.rhi l) 31
  have c0 := (x2.b b3).c0
  have c1 := (x2.b b3).c1
  have clt := (x2.b b3).lt
  clear st2 b3 x2
  rcases hv : V.vs l with _ | _
  · go_wp2_with fail
    refine (vs_impl _ _ _ _ _ _ st3.here (Nat.le_refl _)).mono ?_
    rintro e w4 ⟨rfl, b4⟩
    have st4 := st3.b b4
    have d0 := (x3.b b4).c0
    have d1 := (x3.b b4).c1
    have d2 := (y3.b b4).c0
    have d3 := (y3.b b4).c1
    clear st3 b4 c0 c1 clt x3 y3
    go_wp2
    go_ret
    exact ⟨ret_bool (by first | rfl | simp), st4.bel⟩
  · have hl1 := (V.vs_of hv).1
    obtain ⟨o1, o2, o3⟩ := ag_one hv
    have HO := Lib.hid (And.intro o1 (And.intro o2 o3))
    have hlc1 : (1 : Int) ≤ (c : Int) := by omega
    have hlc2 : (1 : Int) ≤ (l.length : Int) := by omega
    have hl0 : (0 : Int) < (l.length : Int) := by omega
    clear o1 o2 o3
    go_wp2_with fail
    refine (vs_impl _ _ _ _ _ _ st3.here (Nat.le_refl _)).mono ?_
    rintro e w4 ⟨rfl, b4⟩
    have st4 := st3.b b4
    clear st3 b4 c0 c1 clt x3 y3
    go_wp2_with fail
    refine (ag_impl _ _ _ _ _ _ (st4.take 1 (by omega)).here (Nat.le_refl _)).mono ?_
    rw [HO.out.1, HO.out.2.1, HO.out.2.2]
    rintro e w5 ⟨rfl, b5⟩
    have st5 := st4.b b5
    obtain ⟨b, off, rfl, hb, hc⟩ := st5.here.at_ 0 (by omega)
    have q0 : w5.cell? ⟨b, off, none⟩ = some (.int .i64 (V.lo l 0)) := by simpa using (hc 0 (by omega)).1
    have q1 : w5.cell? ⟨b, off + 1, none⟩ = some (.int .i64 (V.hi l 0)) := by simpa using (hc 0 (by omega)).2
    have st6 := st5.al (Obj.cells #[.int .i64 (V.lo l 0), .int .i64 (V.hi l 0)] 31)
    clear st4 b5 hc
    go_wp2
    go_quiet (fail)
    go_wp2
    go_ret
    exact ⟨ret_bool (by first | rfl | simp), below_drewN st6.bel _⟩

/-! ### THE ROW's STEP: WRITTEN OUT: LEAVE IT -/
set_option maxRecDepth 100000 in
theorem lifted (os : Os) (started : os.Started) (H : Type) (enc : TypeId × Value → H) :
    ReturnsInHanded {} Try.checked os 8 .any (Rows.fnAgreedSpanOneSpec.pre6 enc Try.prog Try.f8 Rows.fnAgreedSpanOneRow.domain false) (Rows.fnAgreedSpanOneSpec.post enc Try.prog Try.f8 false true false false) := by
  refine returnsInHanded_of_change (C := Try.checked) own started (by kernel_rfl) Try.func8
    (ChangeSpec.witness6 (enc := enc) (C := Try.checked) false ⟨#[], #[.slice none 0 0], []⟩ 8 (by kernel_rfl) (by kernel_rfl) (by kernel_rfl) (by kernel_rfl)) ?_
  intro W base args ds gs before hval0 hW hcnd _
  have hval : ∀ (j : Nat) t v, Try.f8.params[j]? = some t → args[j]? = some v → Value.okWide Try.prog W .any base t v := hval0
  have hW' := hW
  obtain ⟨p, q, hA0, hV, rfl, hfz, hnd⟩ := hW
  have hA : DataW.TrodAll enc Try.prog W 0 (fun _ => true) true Try.f8.params.toList args.toList ds p := hA0
  rw [Try.params8] at hA hval
  obtain ⟨v0, vs0, d0, ds0, p0, q0, hargs, rfl, rfl, h0, r0⟩ := trodAll_cons hA
  obtain ⟨rfl, rfl, rfl⟩ := trodAll_nil r0
  obtain rfl : args = #[v0] := by cases args; simp_all
  obtain ⟨rfl, rfl⟩ := trodVars_none hV
  obtain ⟨a0, len0, cap0, rfl⟩ := okWide_slice Try.underlying22 (hval 0 22 v0 rfl rfl)
  have k0 := h0
  have lt0 : ∀ x ∈ p0, x.block < W.heap.size := by obtain ⟨m, hm⟩ := k0; exact DataW.trod_lt m _ _ _ hm
  obtain ⟨z0, w0⟩ : ∃ zs, IsRow .u8 W a0 len0 cap0 zs := by
    obtain ⟨fuel, hf⟩ := h0
    rcases open_ints Try.underlying22 Try.underlying5 (by kernel_rfl) hf with ⟨hcs, _⟩ | ⟨x, l, c, zs, hcs, _, hl, hm, hz, _, hcell, hwz⟩
    · simp [Value.cells] at hcs
      obtain ⟨rfl, rfl, rfl⟩ := hcs
      exact ⟨[], .inl ⟨rfl, rfl, rfl, rfl⟩⟩
    · simp [Value.cells] at hcs
      obtain ⟨rfl, rfl, rfl⟩ := hcs
      exact ⟨zs, .inr ⟨_, rfl, hl, hm, by simpa using hz, hcell, hwz⟩⟩
  clear hA0 hval0
  refine (walk a0 len0 cap0 z0 W w0).mono fun e W' ⟨he, bel⟩ => ?_
  subst he
  exact ⟨_, rfl, _, _, _, [], _, [], hW', trodAll_mk1 (shut_bool Try.underlying4 _), (trodAll_cons_mk (Below.trod laidOut (by kernel_rfl) (of_decide_eq_true (by kernel_rfl)) k0 bel lt0) trodAll_mk0), rfl, bel.frame _, fun h => by cases h⟩

theorem over : Rows.fnAgreedSpanOneRow.holds Try.pinned (OpenSpec.ofChange Rows.fnAgreedSpanOneSpec) :=
  OpenClaim.holds_of_wide 8 Try.f8 rfl rfl rfl rfl rfl rfl rfl ⟨rfl, rfl, rfl, rfl, rfl⟩ rfl rfl rfl rfl rfl (by kernel_rfl) Try.func8 (by kernel_rfl)
    (of_decide_eq_true (by kernel_rfl)) (by unfold Func.isWrapper; first | (rw [if_pos (by decide +kernel)]; kernel_rfl) | (rw [if_neg (by decide +kernel)]; exact ⟨rfl, rfl⟩))
    (fun os started H enc _ => lifted os started H enc)

/-- ████ THE STATEMENT ████ -/
theorem proved : Rows.FnAgreedSpanOneSaid := over
#print axioms proved
end Go.Proofs.Ytpllodjahanpkaa.fnAgreedSpanOne
