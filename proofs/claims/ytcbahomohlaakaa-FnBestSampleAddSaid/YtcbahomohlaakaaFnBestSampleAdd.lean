/-
  PROVED: FnBestSampleAdd: for every input the law returns true, and the input reads as it did. No condition.
  The frame is as the kit prints it (proof-skeleton.mjs); the walk is mine.
-/
import Derived.Test.YtcbahomohlaakaaRows
import Derived.Test.YtcbahomohlaakaaAddI
import Derived.Test.YtcbahomohlaakaaISample
import Derived.Test.YtcbahomohlaakaaDrawQ
import Derived.WalkKit
import Derived.WalkSpells
import Derived.ProofKit
import Derived.OpenShut
import Derived.ShutString
import Derived.ChangeOld
import Derived.Below
namespace Go.Proofs.Ytcbahomohlaakaa.fnBestSampleAdd
open Go.ChangeShapes Go.WideShapes Go.ChangeAt Go.RowKit
open Go.ChangeMaps (open_string shut_string)
set_option linter.unusedVariables false

theorem own : ownKnob Try.prog.godebug = none := by kernel_rfl
theorem laidOut : laidOutB Try.prog = true := by kernel_rfl

/-- WHAT THE WALK IS TOLD OF A SLICE OF INTEGERS THAT CAME IN: it is nil; or it leads to a row of 'cap' cells, the numbers 'zs' (the first 'len' are its elements, the rest its spare room), each fitting its kind. -/
def IsRow (k : IntKind) (w : World) (a : Option Addr) (len cap : Nat) (zs : List Int) : Prop :=
  (a = none ∧ len = 0 ∧ cap = 0 ∧ zs = []) ∨
  ∃ x, a = some x ∧ len ≤ cap ∧ cap ≤ maxLen ∧ zs.length = cap ∧ (∀ i, i < zs.length → w.cell? (x.add i) = some (.int k (zs.getD i 0))) ∧ ∀ n ∈ zs, (Lit.int k n).wf = true

/-! ### STEP 1: THE WALK: the Go text returns true, AND WRITES NOTHING THAT WAS THERE: 'Below w.heap.size w w'' (Derived/Below.lean: '.refl', '.alloc', '.drew', '.setCell' at a new block, '.trans'). Open each 'IsRow' by 'rcases' AHEAD of 'go_enter'; part every test ahead of the walk. -/
/-- A new sample without delay is the best one. -/
theorem al_best {l : List Q.Sm} {x z : Int} (h : adok l (x, 0, z) = true) : Q.vq (adx l (x, 0, z)) = true ∧ Q.bo (adx l (x, 0, z)) = x ∧ Q.bd (adx l (x, 0, z)) = 0 ∧ Q.bt (adx l (x, 0, z)) = z := by
  have h1 := adok_of h
  rw [adx_yes h]
  have hv := h1.2
  have hX : ∃ m, (Q.al l (x, 0, z)).length = m + 1 ∧ Q.of (Q.al l (x, 0, z)) m = x ∧ Q.de (Q.al l (x, 0, z)) m = 0 ∧ Q.tm (Q.al l (x, 0, z)) m = z := by
    have hq := q_snoc_eq l x 0 z
    by_cases h2 : 8 < l.length + 1
    · rw [Q.al_full h2]
      have hd : ∀ i, ((l ++ [(x, 0, z)]).drop 1).getD i (0, 0, 0) = (l ++ [(x, 0, z)]).getD (1 + i) (0, 0, 0) := fun i => by rw [List.getD_eq_getElem?_getD, List.getD_eq_getElem?_getD, List.getElem?_drop]
      refine ⟨l.length - 1, by rw [List.length_drop, List.length_append]; show l.length + 1 - 1 = l.length - 1 + 1; omega, ?_, ?_, ?_⟩
      · unfold Q.of; rw [hd, show 1 + (l.length - 1) = l.length by omega]; exact hq.1
      · unfold Q.de; rw [hd, show 1 + (l.length - 1) = l.length by omega]; exact hq.2.1
      · unfold Q.tm; rw [hd, show 1 + (l.length - 1) = l.length by omega]; exact hq.2.2
    · rw [Q.al_part h2]
      exact ⟨l.length, by rw [List.length_append]; rfl, hq.1, hq.2.1, hq.2.2⟩
  generalize Q.al l (x, 0, z) = X at *
  obtain ⟨m, hm, e0, e1, e2⟩ := hX
  have hb := Q.bestTo_is X (X.length - 1)
  have hbb : Q.best X = m := by
    show Q.bestTo X (X.length - 1) = m
    rcases Nat.lt_or_ge (Q.bestTo X (X.length - 1)) m with hlt | hge
    · have := hb.last m (by omega) hlt
      have := ((Q.vq_of hv).2 (Q.bestTo X (X.length - 1)) (by omega)).1.2.1.1
      omega
    · have := hb.le; omega
  have hy := Q.b_yes hv
  rw [hy.1, hy.2.1, hy.2.2, hbb]
  exact ⟨hv, e0, e1, e2⟩
set_option maxRecDepth 100000 in
set_option maxHeartbeats 16000000 in
theorem walk (a0 : Option Addr) (len0 cap0 : Nat) (z0 : List Int) (w : World) (w0 : IsRow .u8 w a0 len0 cap0 z0) :
    Calls Try.prog 3 #[.slice a0 len0 cap0] w fun e w' => e = .returned (.bool true) ∧ Below w.heap.size w w' := by
  by_cases hl : 1048576 < len0
  · have hl' : (1048576 : Int) < (len0 : Int) := by omega
    clear w0 hl
    go_enter Try.func3, Try.ntmps3
    go_wp2
    go_ret
    exact ⟨rfl, Below.refl _ _⟩
  have hl' : ¬ (1048576 : Int) < (len0 : Int) := by omega
  obtain ⟨hc, hcap⟩ := code_of w0 (by omega)
  clear w0 hl
  go_enter Try.func3, Try.ntmps3
  go_wp2_with fail
  refine (DrawBestSample_any w a0 len0 cap0 hc hcap).mono ?_
  rintro e w1 ⟨a, c, l, rfl, hl9, hlc, hcm, hS, hsm, bl, hfr⟩
  clear hc hcap
  obtain ⟨m, hm⟩ : ∃ m, l.length = m + 1 := ⟨l.length - 1, by omega⟩
  have HM := Lib.hid hm
  have hsmm := hsm m (by omega)
  rw [hm] at hS hlc ⊢
  have st := Sq.mk hS bl
  have hm8 : m ≤ 8 := by omega
  clear hS bl hfr hsm hcm hm
  go_wp2_with fail
  refine (BS_impl _ _ _ _ _ _ st.here (Nat.le_refl _)).mono ?_
  rintro e w2 ⟨rfl, b2⟩
  have st2 := (st.b b2).al (Obj.cells #[.int .i64 (Q.bo l), .int .i64 (Q.bd l), .int .i64 (Q.bt l)] 26)
  have x2 := B3.new w2 (Q.bo l) (Q.bd l) (Q.bt l) 26
  clear st b2
  go_wp2_with fail
  refine (BS_spec _ _ _ _ _ _ st2.here (Nat.le_refl _)).mono ?_
  rintro e w3 ⟨rfl, b3⟩
  have st3 := (st2.b b3).al (Obj.cells #[.int .i64 (Q.bo l), .int .i64 (Q.bd l), .int .i64 (Q.bt l)] 26)
  have c0 := (x2.b b3).c0
  have c1 := (x2.b b3).c1
  have c2 := (x2.b b3).c2
  have clt := (x2.b b3).lt
  clear st2 b3 x2
  rcases hv : Q.vq l with _ | _
  · go_wp2
    go_ret
    exact ⟨ret_bool (by first | rfl | simp), st3.bel⟩
  · generalize Q.bo l = q0 at *
    generalize Q.bd l = q1 at *
    generalize Q.bt l = q2 at *
    have HV := Lib.hid hv
    obtain ⟨b, off, rfl, hb, hcl⟩ := st3.here.at_ m (by omega)
    have ct := (hcl m (by omega)).2.2
    obtain ⟨t, ht⟩ : ∃ t, Q.tm l m = t := ⟨_, rfl⟩
    rw [ht] at ct hsmm
    have htb := hsmm.2.2
    obtain ⟨W3, hW3⟩ : ∃ W3, w3.alloc (Obj.cells #[.int .i64 q0, .int .i64 q1, .int .i64 q2] 26) = W3 := ⟨_, rfl⟩
    have e1 : IntKind.i64.wrap ((m : Int) + 1 - 1) = (m : Int) := by rw [show (m : Int) + 1 - 1 = (m : Int) by omega]; exact IntWalk.i64_in _ (by omega)
    have x4 := B3.new (w3.alloc (Obj.cells #[.int .i64 q0, .int .i64 q1, .int .i64 q2] 26)) 5 0 (t + 1) 26
    have st4 := st3.al (Obj.cells #[.int .i64 5, .int .i64 0, .int .i64 (t + 1)] 26)
    have hal := @al_best l 5 (t + 1)
    have hxl := adx_len l (5, 0, t + 1)
    have k1 := fun w' (h : Sms w'.heap.size w' (some ⟨b, off, none⟩) (m + 1) l) => AI_all (m + 1) c (some ⟨b, off, none⟩) l 5 0 (t + 1) w' h
    generalize adx l (5, 0, t + 1) = X at *
    generalize adok l (5, 0, t + 1) = okb at *
    have K1 := Lib.hid k1
    have HAL := Lib.hid hal
    have S4 := st4.here
    have bl4 := st4.bel
    clear hal k1 hv hcl ht hW3 st3 st4
    go_wp2_with fail
    refine (K1.out _ S4).mono ?_
    rintro e w5 ⟨a5, c5, rfl, O5, b5⟩
    have x5 := x4.b b5
    have M5 := (O5.sms (by omega)).1
    have bl5 := bl4.trans (b5.mono bl4.size)
    have hlt5 := x5.lt
    clear S4 bl4 K1 O5 b5 x4 c0 c1 c2 ct
    simp only [World.size_alloc] at x5 hlt5
    generalize w3.heap.size + 1 = E at *
    have kb := BS_impl _ X.length c5 a5 X w5 M5 (Nat.le_refl _)
    rcases okb with _ | _
    · have KB := Lib.hid kb
      clear kb
      go_wp2_with fail
      refine KB.out.mono ?_
      rintro e w6 ⟨rfl, b6⟩
      have HB := Lib.hid ((bl5.trans (b6.mono bl5.size)).alloc (Nat.le_trans bl5.size b6.size) (.cells #[.int .i64 (Q.bo X), .int .i64 (Q.bd X), .int .i64 (Q.bt X)] 26))
      clear bl5 b6 M5 x5 KB
      go_wp2
      go_ret
      exact ⟨ret_bool (by first | rfl | (simp; done)), HB.out⟩
    · obtain ⟨hv5, y0, y1, y2⟩ := HAL.out rfl
      simp only [hv5, y0, y1, y2] at kb
      have KB := Lib.hid kb
      clear kb hv5 y0 y1 y2
      go_wp2_with fail
      refine KB.out.mono ?_
      rintro e w6 ⟨rfl, b6⟩
      have HB := Lib.hid ((bl5.trans (b6.mono bl5.size)).alloc (Nat.le_trans bl5.size b6.size) (.cells #[.int .i64 5, .int .i64 0, .int .i64 (t + 1)] 26))
      have x6 := x5.b b6
      have d0 := x6.c0
      have d1 := x6.c1
      have d2 := x6.c2
      have dl := x6.lt
      clear bl5 b6 M5 x5 x6 KB
      go_wp2
      go_ret
      exact ⟨ret_bool (by first | rfl | (simp; done)), HB.out⟩

/-! ### THE ROW's STEP: WRITTEN OUT: LEAVE IT -/
set_option maxRecDepth 100000 in
theorem lifted (os : Os) (started : os.Started) (H : Type) (enc : TypeId × Value → H) :
    ReturnsInHanded {} Try.checked os 3 .any (Rows.fnBestSampleAddSpec.pre6 enc Try.prog Try.f3 Rows.fnBestSampleAddRow.domain false) (Rows.fnBestSampleAddSpec.post enc Try.prog Try.f3 false true false false) := by
  refine returnsInHanded_of_change (C := Try.checked) own started (by kernel_rfl) Try.func3
    (ChangeSpec.witness6 (enc := enc) (C := Try.checked) false ⟨#[], #[.slice none 0 0], []⟩ 8 (by kernel_rfl) (by kernel_rfl) (by kernel_rfl) (by kernel_rfl)) ?_
  intro W base args ds gs before hval0 hW hcnd _
  have hval : ∀ (j : Nat) t v, Try.f3.params[j]? = some t → args[j]? = some v → Value.okWide Try.prog W .any base t v := hval0
  have hW' := hW
  obtain ⟨p, q, hA0, hV, rfl, hfz, hnd⟩ := hW
  have hA : DataW.TrodAll enc Try.prog W 0 (fun _ => true) true Try.f3.params.toList args.toList ds p := hA0
  rw [Try.params3] at hA hval
  obtain ⟨v0, vs0, d0, ds0, p0, q0, hargs, rfl, rfl, h0, r0⟩ := trodAll_cons hA
  obtain ⟨rfl, rfl, rfl⟩ := trodAll_nil r0
  obtain rfl : args = #[v0] := by cases args; simp_all
  obtain ⟨rfl, rfl⟩ := trodVars_none hV
  obtain ⟨a0, len0, cap0, rfl⟩ := okWide_slice Try.underlying22 (hval 0 22 v0 rfl rfl)
  have k0 := h0
  have lt0 : ∀ x ∈ p0, x.block < W.heap.size := by obtain ⟨m, hm⟩ := k0; exact DataW.trod_lt m _ _ _ hm
  obtain ⟨z0, w0⟩ : ∃ zs, IsRow .u8 W a0 len0 cap0 zs := by
    obtain ⟨fuel, hf⟩ := h0
    rcases open_ints Try.underlying22 Try.underlying5 (by kernel_rfl) hf with ⟨hcs, _⟩ | ⟨x, l, c, zs, hcs, _, hl, hm, hz, _, hcell, hwz⟩
    · simp [Value.cells] at hcs
      obtain ⟨rfl, rfl, rfl⟩ := hcs
      exact ⟨[], .inl ⟨rfl, rfl, rfl, rfl⟩⟩
    · simp [Value.cells] at hcs
      obtain ⟨rfl, rfl, rfl⟩ := hcs
      exact ⟨zs, .inr ⟨_, rfl, hl, hm, by simpa using hz, hcell, hwz⟩⟩
  clear hA0 hval0
  refine (walk a0 len0 cap0 z0 W w0).mono fun e W' ⟨he, bel⟩ => ?_
  subst he
  exact ⟨_, rfl, _, _, _, [], _, [], hW', trodAll_mk1 (shut_bool Try.underlying4 _), (trodAll_cons_mk (Below.trod laidOut (by kernel_rfl) (of_decide_eq_true (by kernel_rfl)) k0 bel lt0) trodAll_mk0), rfl, bel.frame _, fun h => by cases h⟩

theorem over : Rows.fnBestSampleAddRow.holds Try.pinned (OpenSpec.ofChange Rows.fnBestSampleAddSpec) :=
  OpenClaim.holds_of_wide 3 Try.f3 rfl rfl rfl rfl rfl rfl rfl ⟨rfl, rfl, rfl, rfl, rfl⟩ rfl rfl rfl rfl rfl (by kernel_rfl) Try.func3 (by kernel_rfl)
    (of_decide_eq_true (by kernel_rfl)) (by unfold Func.isWrapper; first | (rw [if_pos (by decide +kernel)]; kernel_rfl) | (rw [if_neg (by decide +kernel)]; exact ⟨rfl, rfl⟩))
    (fun os started H enc _ => lifted os started H enc)

/-- ████ THE STATEMENT ████ -/
theorem proved : Rows.FnBestSampleAddSaid := over
#print axioms proved
end Go.Proofs.Ytcbahomohlaakaa.fnBestSampleAdd
