/-
  PROVED: FnBestSample: for every input the law returns true, and the input reads as it did. No condition.
  The frame is as the kit prints it (proof-skeleton.mjs); the walk is mine.
-/
import Derived.Test.YtpllodjahanpkacRows
import Derived.Test.YtpllodjahanpkacSq
import Derived.Test.YtpllodjahanpkacISample
import Derived.Test.YtpllodjahanpkacDrawQ
import Derived.WalkKit
import Derived.WalkSpells
import Derived.ProofKit
import Derived.OpenShut
import Derived.ShutString
import Derived.ChangeOld
import Derived.Below
namespace Go.Proofs.Ytpllodjahanpkac.fnBestSample
open Go.ChangeShapes Go.WideShapes Go.ChangeAt Go.RowKit
open Go.ChangeMaps (open_string shut_string)
set_option linter.unusedVariables false

theorem own : ownKnob Try.prog.godebug = none := by kernel_rfl
theorem laidOut : laidOutB Try.prog = true := by kernel_rfl

/-- WHAT THE WALK IS TOLD OF A SLICE OF INTEGERS THAT CAME IN: it is nil; or it leads to a row of 'cap' cells, the numbers 'zs' (the first 'len' are its elements, the rest its spare room), each fitting its kind. -/
def IsRow (k : IntKind) (w : World) (a : Option Addr) (len cap : Nat) (zs : List Int) : Prop :=
  (a = none ∧ len = 0 ∧ cap = 0 ∧ zs = []) ∨
  ∃ x, a = some x ∧ len ≤ cap ∧ cap ≤ maxLen ∧ zs.length = cap ∧ (∀ i, i < zs.length → w.cell? (x.add i) = some (.int k (zs.getD i 0))) ∧ ∀ n ∈ zs, (Lit.int k n).wf = true

/-! ### STEP 1: THE WALK: the Go text returns true, AND WRITES NOTHING THAT WAS THERE: 'Below w.heap.size w w'' (Derived/Below.lean: '.refl', '.alloc', '.drew', '.setCell' at a new block, '.trans'). Open each 'IsRow' by 'rcases' AHEAD of 'go_enter'; part every test ahead of the walk. -/
set_option maxRecDepth 100000 in
set_option maxHeartbeats 8000000 in
theorem walk (a0 : Option Addr) (len0 cap0 : Nat) (z0 : List Int) (w : World) (w0 : IsRow .u8 w a0 len0 cap0 z0) :
    Calls Try.prog 6 #[.slice a0 len0 cap0] w fun e w' => e = .returned (.bool true) ∧ Below w.heap.size w w' := by
  by_cases hl : 1048576 < len0
  · have hl' : (1048576 : Int) < (len0 : Int) := by omega
    clear w0 hl
    go_enter Try.func6, Try.ntmps6
    go_wp2
    go_ret
    exact ⟨rfl, Below.refl _ _⟩
  have hl' : ¬ (1048576 : Int) < (len0 : Int) := by omega
  obtain ⟨hc, hcap⟩ := code_of w0 (by omega)
  clear w0 hl
  go_enter Try.func6, Try.ntmps6
  go_wp2_with fail
  refine (DrawBestSample_any w a0 len0 cap0 hc hcap).mono ?_
  rintro e w1 ⟨a, c, l, rfl, hl9, hlc, hcm, hS, hsm, bl, hfr⟩
  clear hc hcap
  have st := Sq.mk hS bl
  clear hS bl hfr hsm hcm
  go_wp2_with fail
  refine (BS_impl _ _ _ _ _ _ st.here (Nat.le_refl _)).mono ?_
  rintro e w2 ⟨rfl, b2⟩
  have st2 := (st.b b2).al (Obj.cells #[.int .i64 (Q.bo l), .int .i64 (Q.bd l), .int .i64 (Q.bt l)] 29)
  have x2 := B3.new w2 (Q.bo l) (Q.bd l) (Q.bt l) 29
  clear st b2
  go_wp2_with fail
  refine (BS_spec _ _ _ _ _ _ st2.here (Nat.le_refl _)).mono ?_
  rintro e w3 ⟨rfl, b3⟩
  have st3 := (st2.b b3).al (Obj.cells #[.int .i64 (Q.bo l), .int .i64 (Q.bd l), .int .i64 (Q.bt l)] 29)
  have x3 := (x2.b b3).al (Obj.cells #[.int .i64 (Q.bo l), .int .i64 (Q.bd l), .int .i64 (Q.bt l)] 29)
  have c0 := (x2.b b3).c0
  have c1 := (x2.b b3).c1
  have c2 := (x2.b b3).c2
  have clt := (x2.b b3).lt
  clear st2 b3 x2
  rcases hv : Q.vq l with _ | _
  · go_wp2
    go_ret
    exact ⟨ret_bool (by first | rfl | simp), st3.bel⟩
  · have hq := (Q.vq_of hv).1
    obtain ⟨y0, y1, y2⟩ := Q.b_yes hv
    have hbl := Q.best_lt (l := l) (by omega)
    have HB := Lib.hid (Q.bestTo_is l (l.length - 1))
    have HASC := Lib.hid (fun i j (h : i < j) (h2 : j < l.length) => Q.asc (Q.vq_of hv).2 j i h h2)
    simp only [y0, y1, y2] at st3 x3 c0 c1 c2 ⊢
    clear y0 y1 y2
    go_wp2
    generalize w2.heap.size = D at *
    go_loopw [8, 9] (fun x i wr => ∃ k : Nat, k ≤ l.length ∧ i = .int .i64 k ∧ x = .bool (decide (Q.best l < k)) ∧ Sq w wr a l.length l ∧ B3 wr D (Q.of l (Q.best l)) (Q.de l (Q.best l)) (Q.tm l (Q.best l))) (fun _ i _ => l.length - (intOf i).toNat)
    case atStart => exact ⟨0, Nat.zero_le _, rfl, by simp, st3, x3⟩
    case round =>
      obtain ⟨k, hk, rfl, rfl, st4, x4⟩ := hrel
      clear st3 x3 c0 c1 c2
      have d0 := x4.c0
      have d1 := x4.c1
      have d2 := x4.c2
      by_cases hlt : k < l.length
      · obtain ⟨b, off, rfl, hb, hc⟩ := st4.here.at_ k hlt
        obtain ⟨q0, q1, q2⟩ := hc k hlt
        have hmin : decide (Q.de l k < Q.de l (Q.best l)) = false := decide_eq_false (by have := HB.out.min_ k (by omega); unfold Q.best; omega)
        clear hc
        rcases Nat.lt_trichotomy k (Q.best l) with h | h | h
        · have ht := HASC.out k _ h hbl
          have e1 : decide (Q.tm l (Q.best l) < Q.tm l k) = false := decide_eq_false (by omega)
          have e2 : (Q.tm l k == Q.tm l (Q.best l)) = false := by rw [beq_eq_false_iff_ne]; omega
          have e3 : decide (Q.best l < k) = false := decide_eq_false (by omega)
          have E4 := Lib.hid (show decide (Q.best l < k + 1) = false from decide_eq_false (by omega))
          rw [e3]
          clear ht h e3
          generalize Q.best l = j at *
          go_wp2_with fail
          go_quiet (fail)
          go_wp2_with fail
          go_quiet (fail)
          go_wp2
          go_roundw
          case rel => exact ⟨k + 1, by omega, by go_num, (by rw [E4.out]; first | done | rfl | simp), st4.dr _, x4.dr _⟩
          case measure => simp [intOf]; omega
        · have e1 : decide (Q.tm l (Q.best l) < Q.tm l k) = false := decide_eq_false (by rw [h]; omega)
          have e3 : decide (Q.best l < k) = false := decide_eq_false (by omega)
          have E4 := Lib.hid (show decide (Q.best l < k + 1) = true from decide_eq_true (by omega))
          rw [e3]
          clear e3
          generalize Q.best l = j at *
          subst h
          go_wp2_with fail
          go_quiet (fail)
          go_wp2_with fail
          go_quiet (fail)
          go_wp2
          go_roundw
          case rel => exact ⟨k + 1, by omega, by go_num, (by rw [E4.out]; first | done | rfl | simp), st4.dr _, x4.dr _⟩
          case measure => simp [intOf]; omega
        · have ht := HASC.out _ k h hlt
          have e1 : decide (Q.tm l (Q.best l) < Q.tm l k) = true := decide_eq_true ht
          have e2 : (Q.de l k == Q.de l (Q.best l)) = false := by rw [beq_eq_false_iff_ne]; have := HB.out.last k (by omega) h; unfold Q.best; omega
          have e3 : decide (Q.best l < k) = true := decide_eq_true h
          have E4 := Lib.hid (show decide (Q.best l < k + 1) = true from decide_eq_true (by omega))
          rw [e3]
          clear ht h e3
          generalize Q.best l = j at *
          go_wp2_with fail
          go_quiet (fail)
          go_wp2_with fail
          go_quiet (fail)
          go_wp2
          go_roundw
          case rel => exact ⟨k + 1, by omega, by go_num, (by rw [E4.out]; first | done | rfl | simp), st4.dr _, x4.dr _⟩
          case measure => simp [intOf]; omega
      · obtain rfl : k = l.length := by omega
        have e3 : decide (Q.best l < l.length) = true := decide_eq_true hbl
        rw [e3]
        clear e3
        go_wp2
        go_ret
        exact ⟨ret_bool (by first | rfl | simp), st4.bel⟩

/-! ### THE ROW's STEP: WRITTEN OUT: LEAVE IT -/
set_option maxRecDepth 100000 in
theorem lifted (os : Os) (started : os.Started) (H : Type) (enc : TypeId × Value → H) :
    ReturnsInHanded {} Try.checked os 6 .any (Rows.fnBestSampleSpec.pre6 enc Try.prog Try.f6 Rows.fnBestSampleRow.domain false) (Rows.fnBestSampleSpec.post enc Try.prog Try.f6 false true false false) := by
  refine returnsInHanded_of_change (C := Try.checked) own started (by kernel_rfl) Try.func6
    (ChangeSpec.witness6 (enc := enc) (C := Try.checked) false ⟨#[], #[.slice none 0 0], []⟩ 8 (by kernel_rfl) (by kernel_rfl) (by kernel_rfl) (by kernel_rfl)) ?_
  intro W base args ds gs before hval0 hW hcnd _
  have hval : ∀ (j : Nat) t v, Try.f6.params[j]? = some t → args[j]? = some v → Value.okWide Try.prog W .any base t v := hval0
  have hW' := hW
  obtain ⟨p, q, hA0, hV, rfl, hfz, hnd⟩ := hW
  have hA : DataW.TrodAll enc Try.prog W 0 (fun _ => true) true Try.f6.params.toList args.toList ds p := hA0
  rw [Try.params6] at hA hval
  obtain ⟨v0, vs0, d0, ds0, p0, q0, hargs, rfl, rfl, h0, r0⟩ := trodAll_cons hA
  obtain ⟨rfl, rfl, rfl⟩ := trodAll_nil r0
  obtain rfl : args = #[v0] := by cases args; simp_all
  obtain ⟨rfl, rfl⟩ := trodVars_none hV
  obtain ⟨a0, len0, cap0, rfl⟩ := okWide_slice Try.underlying22 (hval 0 22 v0 rfl rfl)
  have k0 := h0
  have lt0 : ∀ x ∈ p0, x.block < W.heap.size := by obtain ⟨m, hm⟩ := k0; exact DataW.trod_lt m _ _ _ hm
  obtain ⟨z0, w0⟩ : ∃ zs, IsRow .u8 W a0 len0 cap0 zs := by
    obtain ⟨fuel, hf⟩ := h0
    rcases open_ints Try.underlying22 Try.underlying5 (by kernel_rfl) hf with ⟨hcs, _⟩ | ⟨x, l, c, zs, hcs, _, hl, hm, hz, _, hcell, hwz⟩
    · simp [Value.cells] at hcs
      obtain ⟨rfl, rfl, rfl⟩ := hcs
      exact ⟨[], .inl ⟨rfl, rfl, rfl, rfl⟩⟩
    · simp [Value.cells] at hcs
      obtain ⟨rfl, rfl, rfl⟩ := hcs
      exact ⟨zs, .inr ⟨_, rfl, hl, hm, by simpa using hz, hcell, hwz⟩⟩
  clear hA0 hval0
  refine (walk a0 len0 cap0 z0 W w0).mono fun e W' ⟨he, bel⟩ => ?_
  subst he
  exact ⟨_, rfl, _, _, _, [], _, [], hW', trodAll_mk1 (shut_bool Try.underlying4 _), (trodAll_cons_mk (Below.trod laidOut (by kernel_rfl) (of_decide_eq_true (by kernel_rfl)) k0 bel lt0) trodAll_mk0), rfl, bel.frame _, fun h => by cases h⟩

theorem over : Rows.fnBestSampleRow.holds Try.pinned (OpenSpec.ofChange Rows.fnBestSampleSpec) :=
  OpenClaim.holds_of_wide 6 Try.f6 rfl rfl rfl rfl rfl rfl rfl ⟨rfl, rfl, rfl, rfl, rfl⟩ rfl rfl rfl rfl rfl (by kernel_rfl) Try.func6 (by kernel_rfl)
    (of_decide_eq_true (by kernel_rfl)) (by unfold Func.isWrapper; first | (rw [if_pos (by decide +kernel)]; kernel_rfl) | (rw [if_neg (by decide +kernel)]; exact ⟨rfl, rfl⟩))
    (fun os started H enc _ => lifted os started H enc)

/-- ████ THE STATEMENT ████ -/
theorem proved : Rows.FnBestSampleSaid := over
#print axioms proved
end Go.Proofs.Ytpllodjahanpkac.fnBestSample
