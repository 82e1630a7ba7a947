/-
  PROVED: FnJitterOf: for every input the law returns true, and the input reads as it did. No condition.
  The frame is as the kit prints it (proof-skeleton.mjs); the walk is mine.
-/
import Derived.Test.YtpllodjahanpkacRows
import Derived.Test.YtpllodjahanpkacSq
import Derived.Test.YtpllodjahanpkacISample
import Derived.Test.YtpllodjahanpkacDrawQ
import Derived.WalkKit
import Derived.WalkSpells
import Derived.ProofKit
import Derived.OpenShut
import Derived.ShutString
import Derived.ChangeOld
import Derived.Below
namespace Go.Proofs.Ytpllodjahanpkac.fnJitterOf
open Go.ChangeShapes Go.WideShapes Go.ChangeAt Go.RowKit
open Go.ChangeMaps (open_string shut_string)
set_option linter.unusedVariables false

theorem own : ownKnob Try.prog.godebug = none := by kernel_rfl
theorem laidOut : laidOutB Try.prog = true := by kernel_rfl

/-- WHAT THE WALK IS TOLD OF A SLICE OF INTEGERS THAT CAME IN: it is nil; or it leads to a row of 'cap' cells, the numbers 'zs' (the first 'len' are its elements, the rest its spare room), each fitting its kind. -/
def IsRow (k : IntKind) (w : World) (a : Option Addr) (len cap : Nat) (zs : List Int) : Prop :=
  (a = none ∧ len = 0 ∧ cap = 0 ∧ zs = []) ∨
  ∃ x, a = some x ∧ len ≤ cap ∧ cap ≤ maxLen ∧ zs.length = cap ∧ (∀ i, i < zs.length → w.cell? (x.add i) = some (.int k (zs.getD i 0))) ∧ ∀ n ∈ zs, (Lit.int k n).wf = true

/-! ### STEP 1: THE WALK: the Go text returns true, AND WRITES NOTHING THAT WAS THERE: 'Below w.heap.size w w'' (Derived/Below.lean: '.refl', '.alloc', '.drew', '.setCell' at a new block, '.trans'). Open each 'IsRow' by 'rcases' AHEAD of 'go_enter'; part every test ahead of the walk. -/
def mnTo (l : List Q.Sm) : Nat → Int
  | 0 => Q.of l 0
  | k + 1 => min (mnTo l k) (Q.of l k)
def mxTo (l : List Q.Sm) : Nat → Int
  | 0 => Q.of l 0
  | k + 1 => max (mxTo l k) (Q.of l k)
theorem mn_le (l : List Q.Sm) : ∀ k i, i < k → mnTo l k ≤ Q.of l i ∧ Q.of l i ≤ mxTo l k
  | 0, i, h => by omega
  | k + 1, i, h => by
    unfold mnTo mxTo
    rcases Nat.lt_or_ge i k with a | a
    · have := mn_le l k i a; omega
    · obtain rfl : i = k := by omega
      omega
theorem mn_bd {l : List Q.Sm} (h : ∀ i, i < l.length → -1000000 ≤ Q.of l i ∧ Q.of l i ≤ 1000000) (h0 : 0 < l.length) : ∀ k, k ≤ l.length → (-1000000 ≤ mnTo l k ∧ mnTo l k ≤ 1000000) ∧ (-1000000 ≤ mxTo l k ∧ mxTo l k ≤ 1000000)
  | 0, _ => ⟨h 0 h0, h 0 h0⟩
  | k + 1, hk => by
    have := mn_bd h h0 k (by omega)
    have := h k (by omega)
    unfold mnTo mxTo
    omega
theorem sum_le {l : List Q.Sm} {b : Int} {d : Int} : ∀ k, (∀ i, i < k → Q.abs (Q.of l i - b) ≤ d) → Q.sumTo l b k ≤ k * d
  | 0, _ => by simp [Q.sumTo]
  | k + 1, h => by
    have := sum_le (l := l) (b := b) (d := d) k (fun i hi => h i (by omega))
    have := h k (by omega)
    show Q.sumTo l b k + Q.abs (Q.of l k - b) ≤ ((k + 1 : Nat) : Int) * d
    have : ((k + 1 : Nat) : Int) * d = k * d + d := by push_cast; rw [Int.add_mul, Int.one_mul]
    omega
theorem sum_nn (l : List Q.Sm) (b : Int) : ∀ k, 0 ≤ Q.sumTo l b k
  | 0 => by simp [Q.sumTo]
  | k + 1 => by have := sum_nn l b k; have := Q.abs_nn (Q.of l k - b); show 0 ≤ Q.sumTo l b k + Q.abs (Q.of l k - b); omega
theorem jf_le {l : List Q.Sm} (h : Q.vq l = true) : 0 ≤ Q.jf l ∧ Q.jf l ≤ mxTo l l.length - mnTo l l.length := by
  have hq := (Q.vq_of h).1
  have hbl := Q.best_lt (l := l) (by omega)
  have hs := sum_le (l := l) (b := Q.of l (Q.best l)) (d := mxTo l l.length - mnTo l l.length) l.length (fun i hi => by
    have := mn_le l l.length i hi
    have := mn_le l l.length _ hbl
    unfold Q.abs
    split <;> omega)
  have hn := sum_nn l (Q.of l (Q.best l)) l.length
  rw [Q.jf_yes h]
  unfold Q.jit
  have hp : (0 : Int) < (l.length : Int) := by omega
  refine ⟨Int.ediv_nonneg hn (by omega), ?_⟩
  have := Int.ediv_le_ediv hp hs
  rw [Int.mul_ediv_cancel_left _ (by omega)] at this
  exact this
theorem jf_one {l : List Q.Sm} (h : Q.vq l = true) : Q.jf (qtk l 1) = 0 := by
  have hq := (Q.vq_of h).1
  have hv := vq_take h (k := 1) (by omega) (by omega)
  have hlen := qtk_len (l := l) (k := 1) (by omega)
  have hbl := Q.best_lt (l := qtk l 1) (by omega)
  have hb : Q.best (qtk l 1) = 0 := by omega
  rw [Q.jf_yes hv]
  unfold Q.jit
  rw [hlen, hb]
  simp [Q.sumTo, Q.abs]
set_option maxRecDepth 100000 in
set_option maxHeartbeats 4000000 in
theorem walk (a0 : Option Addr) (len0 cap0 : Nat) (z0 : List Int) (w : World) (w0 : IsRow .u8 w a0 len0 cap0 z0) :
    Calls Try.prog 8 #[.slice a0 len0 cap0] w fun e w' => e = .returned (.bool true) ∧ Below w.heap.size w w' := by
  by_cases hl : 1048576 < len0
  · have hl' : (1048576 : Int) < (len0 : Int) := by omega
    clear w0 hl
    go_enter Try.func8, Try.ntmps8
    go_wp2
    go_ret
    exact ⟨rfl, Below.refl _ _⟩
  have hl' : ¬ (1048576 : Int) < (len0 : Int) := by omega
  obtain ⟨hc, hcap⟩ := code_of w0 (by omega)
  clear w0 hl
  go_enter Try.func8, Try.ntmps8
  go_wp2_with fail
  refine (DrawJitterOf_any w a0 len0 cap0 hc hcap).mono ?_
  rintro e w1 ⟨a, c, l, rfl, hl9, hlc, hcm, hS, hsm, bl, hfr⟩
  clear hc hcap
  have st := Sq.mk hS bl
  clear hS bl hfr hsm hcm
  rcases hv : Q.vq l with _ | _
  · have hk : Q.jf l = -1 := Q.jf_no hv
    go_wp2_with fail
    refine (JF_impl _ _ _ _ _ _ st.here (Nat.le_refl _)).mono ?_
    rintro e w2 ⟨rfl, b2⟩
    have st2 := st.b b2
    clear st b2
    go_wp2_with fail
    refine (JF_spec _ _ _ _ _ _ st2.here).mono ?_
    rintro e w3 ⟨rfl, q3⟩
    have st3 := st2.same q3
    clear st2 q3
    go_wp2_with fail
    refine (JF_spec _ _ _ _ _ _ st3.here).mono ?_
    rintro e w4 ⟨rfl, q4⟩
    have st4 := st3.same q4
    clear st3 q4
    go_wp2
    go_ret
    exact ⟨ret_bool (by first | rfl | simp), st4.bel⟩
  · have hq := (Q.vq_of hv).1
    obtain ⟨k0, k1⟩ := jf_le hv
    have HBD := Lib.hid (mn_bd (l := l) (fun i hi => ((Q.vq_of hv).2 i hi).1.1) (by omega))
    have hone := jf_one hv
    have HONE := Lib.hid hone
    have hl0 : (0 : Int) < (l.length : Int) := by omega
    have hl1 : (1 : Int) ≤ (l.length : Int) := by omega
    have hcc : (1 : Int) ≤ (c : Int) := by omega
    have hc1 : 1 ≤ l.length := by omega
    clear hone
    go_wp2_with fail
    refine (JF_impl _ _ _ _ _ _ st.here (Nat.le_refl _)).mono ?_
    rintro e w2 ⟨rfl, b2⟩
    have st2 := st.b b2
    clear st b2
    go_wp2_with fail
    refine (JF_spec _ _ _ _ _ _ st2.here).mono ?_
    rintro e w3 ⟨rfl, q3⟩
    have st3 := st2.same q3
    clear st2 q3
    obtain ⟨b, off, rfl, hb, hc⟩ := st3.here.at_ 0 (by omega)
    have e0 : w3.cell? ⟨b, off, none⟩ = some (.int .i64 (Q.of l 0)) := by simpa using (hc 0 (by omega)).1
    have HC := Lib.hid hc
    clear hc
    go_wp2
    go_loop [5, 6, 7] (fun x y i => ∃ k : Nat, k ≤ l.length ∧ i = .int .i64 k ∧ x = .int .i64 (mnTo l k) ∧ y = .int .i64 (mxTo l k)) (fun _ _ i => l.length - (intOf i).toNat)
    case atStart => exact ⟨0, Nat.zero_le _, rfl, rfl, rfl⟩
    case round =>
      obtain ⟨k, hk, rfl, rfl, rfl⟩ := hrel
      clear e0
      have hbk := HBD.out k hk
      by_cases hlt : k < l.length
      · have q0 := (HC.out k hlt).1
        go_wp2
        go_round
        case rel => exact ⟨k + 1, by omega, by go_num, by (show _ = Value.int .i64 (min (mnTo l k) (Q.of l k))); simp; split <;> omega, by (show _ = Value.int .i64 (max (mxTo l k) (Q.of l k))); simp; split <;> omega⟩
        case measure => simp [intOf]; omega
      · obtain rfl : k = l.length := by omega
        go_wp2_with fail
        refine (JF_impl _ _ _ _ _ _ (st3.take 1 (by omega)).here (Nat.le_refl _)).mono ?_
        rw [HONE.out]
        rintro e w4 ⟨rfl, b4⟩
        have st4 := st3.b b4
        clear st3 b4
        go_wp2
        go_ret
        exact ⟨ret_bool (by first | rfl | simp), st4.bel⟩

/-! ### THE ROW's STEP: WRITTEN OUT: LEAVE IT -/
set_option maxRecDepth 100000 in
theorem lifted (os : Os) (started : os.Started) (H : Type) (enc : TypeId × Value → H) :
    ReturnsInHanded {} Try.checked os 8 .any (Rows.fnJitterOfSpec.pre6 enc Try.prog Try.f8 Rows.fnJitterOfRow.domain false) (Rows.fnJitterOfSpec.post enc Try.prog Try.f8 false true false false) := by
  refine returnsInHanded_of_change (C := Try.checked) own started (by kernel_rfl) Try.func8
    (ChangeSpec.witness6 (enc := enc) (C := Try.checked) false ⟨#[], #[.slice none 0 0], []⟩ 8 (by kernel_rfl) (by kernel_rfl) (by kernel_rfl) (by kernel_rfl)) ?_
  intro W base args ds gs before hval0 hW hcnd _
  have hval : ∀ (j : Nat) t v, Try.f8.params[j]? = some t → args[j]? = some v → Value.okWide Try.prog W .any base t v := hval0
  have hW' := hW
  obtain ⟨p, q, hA0, hV, rfl, hfz, hnd⟩ := hW
  have hA : DataW.TrodAll enc Try.prog W 0 (fun _ => true) true Try.f8.params.toList args.toList ds p := hA0
  rw [Try.params8] at hA hval
  obtain ⟨v0, vs0, d0, ds0, p0, q0, hargs, rfl, rfl, h0, r0⟩ := trodAll_cons hA
  obtain ⟨rfl, rfl, rfl⟩ := trodAll_nil r0
  obtain rfl : args = #[v0] := by cases args; simp_all
  obtain ⟨rfl, rfl⟩ := trodVars_none hV
  obtain ⟨a0, len0, cap0, rfl⟩ := okWide_slice Try.underlying22 (hval 0 22 v0 rfl rfl)
  have k0 := h0
  have lt0 : ∀ x ∈ p0, x.block < W.heap.size := by obtain ⟨m, hm⟩ := k0; exact DataW.trod_lt m _ _ _ hm
  obtain ⟨z0, w0⟩ : ∃ zs, IsRow .u8 W a0 len0 cap0 zs := by
    obtain ⟨fuel, hf⟩ := h0
    rcases open_ints Try.underlying22 Try.underlying5 (by kernel_rfl) hf with ⟨hcs, _⟩ | ⟨x, l, c, zs, hcs, _, hl, hm, hz, _, hcell, hwz⟩
    · simp [Value.cells] at hcs
      obtain ⟨rfl, rfl, rfl⟩ := hcs
      exact ⟨[], .inl ⟨rfl, rfl, rfl, rfl⟩⟩
    · simp [Value.cells] at hcs
      obtain ⟨rfl, rfl, rfl⟩ := hcs
      exact ⟨zs, .inr ⟨_, rfl, hl, hm, by simpa using hz, hcell, hwz⟩⟩
  clear hA0 hval0
  refine (walk a0 len0 cap0 z0 W w0).mono fun e W' ⟨he, bel⟩ => ?_
  subst he
  exact ⟨_, rfl, _, _, _, [], _, [], hW', trodAll_mk1 (shut_bool Try.underlying4 _), (trodAll_cons_mk (Below.trod laidOut (by kernel_rfl) (of_decide_eq_true (by kernel_rfl)) k0 bel lt0) trodAll_mk0), rfl, bel.frame _, fun h => by cases h⟩

theorem over : Rows.fnJitterOfRow.holds Try.pinned (OpenSpec.ofChange Rows.fnJitterOfSpec) :=
  OpenClaim.holds_of_wide 8 Try.f8 rfl rfl rfl rfl rfl rfl rfl ⟨rfl, rfl, rfl, rfl, rfl⟩ rfl rfl rfl rfl rfl (by kernel_rfl) Try.func8 (by kernel_rfl)
    (of_decide_eq_true (by kernel_rfl)) (by unfold Func.isWrapper; first | (rw [if_pos (by decide +kernel)]; kernel_rfl) | (rw [if_neg (by decide +kernel)]; exact ⟨rfl, rfl⟩))
    (fun os started H enc _ => lifted os started H enc)

/-- ████ THE STATEMENT ████ -/
theorem proved : Rows.FnJitterOfSaid := over
#print axioms proved
end Go.Proofs.Ytpllodjahanpkac.fnJitterOf
