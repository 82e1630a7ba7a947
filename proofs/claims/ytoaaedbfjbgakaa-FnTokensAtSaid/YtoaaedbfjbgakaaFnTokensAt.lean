/-
  PROVED: FnTokensAt: for every input the law returns true, and the input reads as it did. No condition.
  The frame is as the kit prints it (proof-skeleton.mjs); the walk is mine.
-/
import Derived.Test.YtoaaedbfjbgakaaRows
import Derived.Test.YtoaaedbfjbgakaaMapB
import Derived.Test.YtoaaedbfjbgakaaSpecB
import Derived.Test.YtoaaedbfjbgakaaDrawBt
import Derived.Test.YtoaaedbfjbgakaaBWait
import Derived.Test.YtoaaedbfjbgakaaJoin
import Derived.WalkKit
import Derived.ProofKit
import Derived.OpenShut
import Derived.ShutString
import Derived.ChangeOld
import Derived.Below
namespace Go.Proofs.Ytoaaedbfjbgakaa.fnTokensAt
open Go.ChangeShapes Go.WideShapes Go.ChangeAt Go.RowKit
open Go.ChangeMaps (open_string shut_string)
set_option linter.unusedVariables false

theorem own : ownKnob Try.prog.godebug = none := by kernel_rfl
theorem laidOut : laidOutB Try.prog = true := by kernel_rfl

/-- WHAT THE WALK IS TOLD OF A SLICE OF INTEGERS THAT CAME IN: it is nil; or it leads to a row of 'cap' cells, the numbers 'zs' (the first 'len' are its elements, the rest its spare room), each fitting its kind. -/
def IsRow (k : IntKind) (w : World) (a : Option Addr) (len cap : Nat) (zs : List Int) : Prop :=
  (a = none ∧ len = 0 ∧ cap = 0 ∧ zs = []) ∨
  ∃ x, a = some x ∧ len ≤ cap ∧ cap ≤ maxLen ∧ zs.length = cap ∧ (∀ i, i < zs.length → w.cell? (x.add i) = some (.int k (zs.getD i 0))) ∧ ∀ n ∈ zs, (Lit.int k n).wf = true

/-! ### STEP 1: THE WALK: the Go text returns true, AND WRITES NOTHING THAT WAS THERE: 'Below w.heap.size w w'' (Derived/Below.lean: '.refl', '.alloc', '.drew', '.setCell' at a new block, '.trans'). Open each 'IsRow' by 'rcases' AHEAD of 'go_enter'; part every test ahead of the walk. -/
theorem later_ok {l : List Q.Sm} (hv : B.bv l = true) {x t : Int} (ht : 0 ≤ t) (h8 : t + 8 ≤ 3786479999) (h : ∀ j, j < l.length → ¬ (Q.of l j = x ∧ t < Q.tm l j)) : B.ta l x (t + 8) = min (B.ta l x t + 1) 5 := by
  rw [B.ta_yes hv ⟨ht, by omega⟩, B.ta_yes hv ⟨by omega, h8⟩]
  rcases hf : B.fnd l x with _ | p
  · have e : B.bk l x = (x, 5, 0) := by unfold B.bk; rw [hf]; rfl
    rw [e, B.tk_new ht, B.tk_new (by omega)]; rfl
  · have e : B.bk l x = p := by unfold B.bk; rw [hf]; rfl
    obtain ⟨hp, hx⟩ := B.fnd_mem hf
    obtain ⟨j, hj, hje⟩ := List.mem_iff_getElem.1 hp
    rw [B.getp l j hj] at hje
    have := h j hj
    have hok := B.rng hv hj
    unfold B.ok1 at hok
    rw [e, ← hje]
    rw [← hje] at hx
    dsimp only at hx
    unfold B.tk
    dsimp only
    omega
set_option maxRecDepth 100000 in
set_option maxHeartbeats 4000000 in
theorem walk (a0 : Option Addr) (len0 cap0 : Nat) (z0 : List Int) (w : World) (w0 : IsRow .u8 w a0 len0 cap0 z0) :
    Calls Try.prog 7 #[.slice a0 len0 cap0] w fun e w' => e = .returned (.bool true) ∧ Below w.heap.size w w' := by
  by_cases hl : 1048576 < len0
  · have hl' : (1048576 : Int) < (len0 : Int) := by omega
    clear w0 hl
    go_enter Try.func7, Try.ntmps7
    go_wp2
    go_ret
    exact ⟨rfl, Below.refl _ _⟩
  have hl' : ¬ (1048576 : Int) < (len0 : Int) := by omega
  obtain ⟨hc, hcap⟩ := code_of w0 (by omega)
  clear w0 hl
  go_enter Try.func7, Try.ntmps7
  go_wp2_with fail
  refine (DrawTokensAt_any w a0 len0 cap0 hc hcap).mono ?_
  rintro e w1 ⟨a, c, l, x, t, rfl, hx, ht, hl9, hlc, hcm, hS, bl⟩
  clear hc hcap
  have st1 : Sq w w1 a l.length l := ⟨hS, bl⟩
  clear hS bl hlc hcm
  have hwx : (Lit.int .i64 x).wf = true := wfC (by omega)
  have k1 := fun n c a w' (h : Sms w'.heap.size w' a n l) => TA_impl n c a l x t w' h hwx
  have k2 := fun n c a w' (h : Sms w'.heap.size w' a n l) => TA_spec n c a l x t w' h
  have k3 := fun n c a w' (h : Sms w'.heap.size w' a n l) => TA_impl n c a l x (t + 8) w' h hwx
  by_cases hv : (B.bv l = true ∧ (0 ≤ t ∧ t ≤ 3786479999)) ∧ ¬ (3786479999 < t + 8)
  · have hn0 : ¬ B.ta l x t < 0 := by
      rw [B.ta_yes hv.1.1 hv.1.2]
      have := B.tk_pos (B.bk_ok hv.1.1 x).2.1.1 t
      omega
    have hn5 : B.ta l x t ≤ 5 := by
      rw [B.ta_yes hv.1.1 hv.1.2]
      exact B.tk_le _ _
    have hlat := @later_ok l hv.1.1 x t hv.1.2.1 (by omega)
    have h8 := hv.2
    generalize B.ta l x t = T at *
    generalize B.ta l x (t + 8) = L at *
    have K1 := Lib.hid k1
    have K2 := Lib.hid k2
    have K3 := Lib.hid k3
    have HL := Lib.hid hlat
    clear k1 k2 k3 hv hwx hx hlat
    go_wp2_with fail
    refine (K1.out _ _ _ _ st1.here).mono ?_
    rintro e w2 ⟨rfl, b2⟩
    have st2 := st1.b b2
    clear st1 b2
    go_wp2_with fail
    refine (K2.out _ _ _ _ st2.here).mono ?_
    rintro e w3 ⟨rfl, b3⟩
    have st3 := st2.b b3
    clear st2 b3
    go_wp2_with fail
    refine (K3.out _ _ _ _ st3.here).mono ?_
    rintro e w4 ⟨rfl, b4⟩
    have st4 := st3.b b4
    clear st3 b4
    go_wp2_with fail
    go_loopw [8, 9] (fun b i wr => ∃ (k : Nat) (f : Bool), k ≤ l.length ∧ b = .bool f ∧ i = .int .i64 k ∧ (f = false → ∀ j, j < k → ¬ (Q.of l j = x ∧ t < Q.tm l j)) ∧ Sq w wr a l.length l) (fun _ i _ => l.length - (intOf i).toNat)
    case atStart => exact ⟨0, false, Nat.zero_le _, rfl, rfl, fun _ j hj => absurd hj (by omega), st4⟩
    case round =>
      obtain ⟨k, f, hk, rfl, rfl, hf, st5⟩ := hrel
      clear st4
      by_cases hlt : k < l.length
      · obtain ⟨b, off, rfl, hb, hc⟩ := st5.here.at_ k hlt
        obtain ⟨d0, d1, d2⟩ := hc k hlt
        clear hc d1
        rcases f with _ | _
        · have hf' := hf rfl
          clear hf
          by_cases e : Q.of l k = x
          · by_cases q : t < Q.tm l k
            · have HS := Lib.hid st5
              rw [e] at d0
              generalize Q.tm l k = z at *
              clear hf' e st5
              go_wp2
              go_roundw
              case rel => exact ⟨k + 1, true, by omega, rfl, by go_num, fun h => absurd h (by decide), HS.out⟩
              case measure => simp [intOf]; omega
            · have HF := Lib.hid (show ∀ j, j < k + 1 → ¬ (Q.of l j = x ∧ t < Q.tm l j) from fun j hj => by
                rcases Nat.lt_or_ge j k with hj | hj
                · exact hf' j hj
                · obtain rfl : j = k := by omega
                  exact fun h => q h.2)
              have HS := Lib.hid st5
              rw [e] at d0
              generalize Q.tm l k = z at *
              clear hf' e st5
              go_wp2
              go_roundw
              case rel => exact ⟨k + 1, false, by omega, rfl, by go_num, fun _ => HF.out, HS.out⟩
              case measure => simp [intOf]; omega
          · have HF := Lib.hid (show ∀ j, j < k + 1 → ¬ (Q.of l j = x ∧ t < Q.tm l j) from fun j hj => by
              rcases Nat.lt_or_ge j k with hj | hj
              · exact hf' j hj
              · obtain rfl : j = k := by omega
                exact fun h => e h.1)
            have HS := Lib.hid st5
            have e' : (Q.of l k == x) = false := beq_eq_false_iff_ne.2 e
            generalize Q.of l k = y at *
            clear hf' e st5 d2
            go_wp2
            go_roundw
            case rel => exact ⟨k + 1, false, by omega, rfl, by go_num, fun _ => HF.out, HS.out⟩
            case measure => simp [intOf]; omega
        · have HS := Lib.hid st5
          clear hf st5 d0 d2
          go_wp2
          go_roundw
          case rel => exact ⟨k + 1, true, by omega, rfl, by go_num, fun h => absurd h (by decide), HS.out⟩
          case measure => simp [intOf]; omega
      · obtain rfl : k = l.length := by omega
        have HB := Lib.hid st5.bel
        clear st5
        rcases f with _ | _
        · have e := HL.out (hf rfl)
          clear hf
          by_cases h4 : T ≤ 4
          · obtain rfl : L = T + 1 := by rw [e]; omega
            clear e
            have hm : min (T + 1) 5 = T + 1 := by omega
            go_wp2
            go_ret
            exact ⟨ret_bool (by first | rfl | simp), HB.out⟩
          · obtain rfl : T = 5 := by omega
            obtain rfl : L = 5 := by rw [e]; rfl
            clear e
            go_wp2
            go_ret
            exact ⟨ret_bool (by first | rfl | simp), HB.out⟩
        · clear hf
          go_wp2
          go_ret
          exact ⟨ret_bool (by first | rfl | simp), HB.out⟩
  · have hn0 : B.ta l x t < 0 ∨ 3786479999 < t + 8 := by
      by_cases h : B.bv l = true ∧ (0 ≤ t ∧ t ≤ 3786479999)
      · right
        by_cases h8 : 3786479999 < t + 8
        · exact h8
        · exact absurd ⟨h, h8⟩ hv
      · left
        unfold B.ta
        rw [if_neg h]
        decide
    generalize B.ta l x t = n at *
    have K1 := Lib.hid k1
    have K2 := Lib.hid k2
    clear k1 k2 k3 hv hwx hx
    clear hl9
    by_cases hn1 : n < 0
    · clear hn0
      go_wp2_with fail
      refine (K1.out _ _ _ _ st1.here).mono ?_
      rintro e w2 ⟨rfl, b2⟩
      have st2 := st1.b b2
      clear st1 b2
      go_wp2_with fail
      refine (K2.out _ _ _ _ st2.here).mono ?_
      rintro e w3 ⟨rfl, b3⟩
      have st3 := st2.b b3
      clear st2 b3
      go_wp2_with fail
      refine (K2.out _ _ _ _ st3.here).mono ?_
      rintro e w4 ⟨rfl, b4⟩
      have HB := Lib.hid (st3.b b4).bel
      clear st3 b4
      go_wp2
      go_ret
      exact ⟨ret_bool (by first | rfl | simp), HB.out⟩
    · have hn2 : 3786479999 < t + 8 := by omega
      clear hn0
      go_wp2_with fail
      refine (K1.out _ _ _ _ st1.here).mono ?_
      rintro e w2 ⟨rfl, b2⟩
      have st2 := st1.b b2
      clear st1 b2
      go_wp2_with fail
      refine (K2.out _ _ _ _ st2.here).mono ?_
      rintro e w3 ⟨rfl, b3⟩
      have st3 := st2.b b3
      clear st2 b3
      go_wp2_with fail
      refine (K2.out _ _ _ _ st3.here).mono ?_
      rintro e w4 ⟨rfl, b4⟩
      have HB := Lib.hid (st3.b b4).bel
      clear st3 b4
      go_wp2
      go_ret
      exact ⟨ret_bool (by first | rfl | simp), HB.out⟩

/-! ### THE ROW's STEP: WRITTEN OUT: LEAVE IT -/
set_option maxRecDepth 100000 in
theorem lifted (os : Os) (started : os.Started) (H : Type) (enc : TypeId × Value → H) :
    ReturnsInHanded {} Try.checked os 7 .any (Rows.fnTokensAtSpec.pre6 enc Try.prog Try.f7 Rows.fnTokensAtRow.domain false) (Rows.fnTokensAtSpec.post enc Try.prog Try.f7 false true false false) := by
  refine returnsInHanded_of_change (C := Try.checked) own started (by kernel_rfl) Try.func7
    (ChangeSpec.witness6 (enc := enc) (C := Try.checked) false ⟨#[], #[.slice none 0 0], []⟩ 8 (by kernel_rfl) (by kernel_rfl) (by kernel_rfl) (by kernel_rfl)) ?_
  intro W base args ds gs before hval0 hW hcnd _
  have hval : ∀ (j : Nat) t v, Try.f7.params[j]? = some t → args[j]? = some v → Value.okWide Try.prog W .any base t v := hval0
  have hW' := hW
  obtain ⟨p, q, hA0, hV, rfl, hfz, hnd⟩ := hW
  have hA : DataW.TrodAll enc Try.prog W 0 (fun _ => true) true Try.f7.params.toList args.toList ds p := hA0
  rw [Try.params7] at hA hval
  obtain ⟨v0, vs0, d0, ds0, p0, q0, hargs, rfl, rfl, h0, r0⟩ := trodAll_cons hA
  obtain ⟨rfl, rfl, rfl⟩ := trodAll_nil r0
  obtain rfl : args = #[v0] := by cases args; simp_all
  obtain ⟨rfl, rfl⟩ := trodVars_none hV
  obtain ⟨a0, len0, cap0, rfl⟩ := okWide_slice Try.underlying29 (hval 0 29 v0 rfl rfl)
  have k0 := h0
  have lt0 : ∀ x ∈ p0, x.block < W.heap.size := by obtain ⟨m, hm⟩ := k0; exact DataW.trod_lt m _ _ _ hm
  obtain ⟨z0, w0⟩ : ∃ zs, IsRow .u8 W a0 len0 cap0 zs := by
    obtain ⟨fuel, hf⟩ := h0
    rcases open_ints Try.underlying29 Try.underlying5 (by kernel_rfl) hf with ⟨hcs, _⟩ | ⟨x, l, c, zs, hcs, _, hl, hm, hz, _, hcell, hwz⟩
    · simp [Value.cells] at hcs
      obtain ⟨rfl, rfl, rfl⟩ := hcs
      exact ⟨[], .inl ⟨rfl, rfl, rfl, rfl⟩⟩
    · simp [Value.cells] at hcs
      obtain ⟨rfl, rfl, rfl⟩ := hcs
      exact ⟨zs, .inr ⟨_, rfl, hl, hm, by simpa using hz, hcell, hwz⟩⟩
  clear hA0 hval0
  refine (walk a0 len0 cap0 z0 W w0).mono fun e W' ⟨he, bel⟩ => ?_
  subst he
  exact ⟨_, rfl, _, _, _, [], _, [], hW', trodAll_mk1 (shut_bool Try.underlying4 _), (trodAll_cons_mk (Below.trod laidOut (by kernel_rfl) (of_decide_eq_true (by kernel_rfl)) k0 bel lt0) trodAll_mk0), rfl, bel.frame _, fun h => by cases h⟩

theorem closed : joinedFacts Try.pinned.checked.prog 7 Try.f7 Rows.fnTokensAtSpec Rows.fnTokensAtRow = true := by
  unfold joinedFacts
  rw [mayJ, liftsJ, makeJ]
  kernel_rfl

theorem over : Rows.fnTokensAtRow.holds Try.pinned (OpenSpec.ofChange Rows.fnTokensAtSpec) :=
  OpenClaim.holds_of_wide 7 Try.f7 rfl rfl rfl rfl rfl rfl rfl ⟨rfl, rfl, rfl, rfl, rfl⟩ rfl rfl rfl rfl rfl (by kernel_rfl) Try.func7 closed
    (of_decide_eq_true (by kernel_rfl)) (by unfold Func.isWrapper; first | (rw [if_pos (by decide +kernel)]; kernel_rfl) | (rw [if_neg (by decide +kernel)]; exact ⟨rfl, rfl⟩))
    (fun os started H enc _ => lifted os started H enc)

/-- ████ THE STATEMENT ████ -/
theorem proved : Rows.FnTokensAtSaid := over
#print axioms proved
end Go.Proofs.Ytoaaedbfjbgakaa.fnTokensAt
