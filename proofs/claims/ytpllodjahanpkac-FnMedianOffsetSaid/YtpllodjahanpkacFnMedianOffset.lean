/-
  PROVED: FnMedianOffset: for every input the law returns true, and the input reads as it did. No condition.
  The frame is as the kit prints it (proof-skeleton.mjs); the walk is mine.
-/
import Derived.Test.YtpllodjahanpkacRows
import Derived.Test.YtpllodjahanpkacSq
import Derived.Test.YtpllodjahanpkacMedian
import Derived.Test.YtpllodjahanpkacDrawQ
import Derived.WalkKit
import Derived.WalkSpells
import Derived.ProofKit
import Derived.OpenShut
import Derived.ShutString
import Derived.ChangeOld
import Derived.Below
namespace Go.Proofs.Ytpllodjahanpkac.fnMedianOffset
open Go.ChangeShapes Go.WideShapes Go.ChangeAt Go.RowKit
open Go.ChangeMaps (open_string shut_string)
set_option linter.unusedVariables false

theorem own : ownKnob Try.prog.godebug = none := by kernel_rfl
theorem laidOut : laidOutB Try.prog = true := by kernel_rfl

/-- WHAT THE WALK IS TOLD OF A SLICE OF INTEGERS THAT CAME IN: it is nil; or it leads to a row of 'cap' cells, the numbers 'zs' (the first 'len' are its elements, the rest its spare room), each fitting its kind. -/
def IsRow (k : IntKind) (w : World) (a : Option Addr) (len cap : Nat) (zs : List Int) : Prop :=
  (a = none ∧ len = 0 ∧ cap = 0 ∧ zs = []) ∨
  ∃ x, a = some x ∧ len ≤ cap ∧ cap ≤ maxLen ∧ zs.length = cap ∧ (∀ i, i < zs.length → w.cell? (x.add i) = some (.int k (zs.getD i 0))) ∧ ∀ n ∈ zs, (Lit.int k n).wf = true

/-! ### STEP 1: THE WALK: the Go text returns true, AND WRITES NOTHING THAT WAS THERE: 'Below w.heap.size w w'' (Derived/Below.lean: '.refl', '.alloc', '.drew', '.setCell' at a new block, '.trans'). Open each 'IsRow' by 'rcases' AHEAD of 'go_enter'; part every test ahead of the walk. -/
def loTo (l : List Q.Sm) (m : Int) : Nat → Nat
  | 0 => 0
  | k + 1 => loTo l m k + (if Q.of l k ≤ m then 1 else 0)
def hiTo (l : List Q.Sm) (m : Int) : Nat → Nat
  | 0 => 0
  | k + 1 => hiTo l m k + (if m ≤ Q.of l k then 1 else 0)
theorem lo_bd (l : List Q.Sm) (m : Int) : ∀ k, loTo l m k ≤ k
  | 0 => Nat.le_refl _
  | k + 1 => by have := lo_bd l m k; unfold loTo; split <;> omega
theorem hi_bd (l : List Q.Sm) (m : Int) : ∀ k, hiTo l m k ≤ k
  | 0 => Nat.le_refl _
  | k + 1 => by have := hi_bd l m k; unfold hiTo; split <;> omega
theorem lo_count (l : List Q.Sm) (m : Int) : ∀ k, k ≤ l.length → loTo l m k = (offs (l.take k)).countP (fun x => decide (x ≤ m))
  | 0, _ => by simp [loTo, offs]
  | k + 1, h => by
    rw [offs_take l k (by omega), List.countP_append, ← lo_count l m k (by omega)]
    simp [loTo, List.countP_cons]
theorem hi_count (l : List Q.Sm) (m : Int) : ∀ k, k ≤ l.length → hiTo l m k = (offs (l.take k)).countP (fun x => decide (m ≤ x))
  | 0, _ => by simp [hiTo, offs]
  | k + 1, h => by
    rw [offs_take l k (by omega), List.countP_append, ← hi_count l m k (by omega)]
    simp [hiTo, List.countP_cons]
theorem asc_get {S : List Int} (h : S.Pairwise (· ≤ ·)) {i j : Nat} (hij : i ≤ j) (hj : j < S.length) : L.g S i ≤ L.g S j := by
  rcases Nat.lt_or_ge i j with c | c
  · have := List.pairwise_iff_getElem.1 h i j (by omega) hj c
    have gi := L.g_get S i (by omega)
    have gj := L.g_get S j hj
    rw [List.getElem?_eq_getElem (by omega)] at gi
    rw [List.getElem?_eq_getElem hj] at gj
    injection gi with gi
    injection gj with gj
    rw [gi, gj] at this; exact this
  · obtain rfl : i = j := by omega
    exact Int.le_refl _
theorem count_all {S : List Int} {p : Int → Bool} (h : ∀ i, i < S.length → p (L.g S i) = true) : S.countP p = S.length := by
  rw [List.countP_eq_length]
  intro a ha
  obtain ⟨i, hi, e⟩ := List.getElem_of_mem ha
  have gi := L.g_get S i hi
  rw [List.getElem?_eq_getElem hi, e] at gi
  injection gi with gi
  rw [gi]; exact h i hi
theorem cnt_lo {S : List Int} (h : S.Pairwise (· ≤ ·)) {m : Nat} (hm : m < S.length) : m + 1 ≤ S.countP (fun x => decide (x ≤ L.g S m)) := by
  have e : S.take (m + 1) ++ S.drop (m + 1) = S := List.take_append_drop _ _
  have h1 : (S.take (m + 1)).countP (fun x => decide (x ≤ L.g S m)) = (S.take (m + 1)).length := count_all (fun i hi => by
    rw [List.length_take] at hi
    have : L.g (S.take (m + 1)) i = L.g S i := by unfold L.g; rw [List.getD_eq_getElem?_getD, List.getD_eq_getElem?_getD, List.getElem?_take_of_lt (by omega)]
    rw [this]; exact decide_eq_true (asc_get h (by omega) hm))
  have h2 : S.countP (fun x => decide (x ≤ L.g S m)) = (S.take (m + 1)).countP (fun x => decide (x ≤ L.g S m)) + (S.drop (m + 1)).countP (fun x => decide (x ≤ L.g S m)) := by rw [← List.countP_append, e]
  rw [h2, h1, List.length_take]; omega
theorem cnt_hi {S : List Int} (h : S.Pairwise (· ≤ ·)) {m : Nat} (hm : m < S.length) : S.length - m ≤ S.countP (fun x => decide (L.g S m ≤ x)) := by
  have e : S.take m ++ S.drop m = S := List.take_append_drop _ _
  have h1 : (S.drop m).countP (fun x => decide (L.g S m ≤ x)) = (S.drop m).length := count_all (fun i hi => by
    rw [List.length_drop] at hi
    have : L.g (S.drop m) i = L.g S (m + i) := by unfold L.g; rw [List.getD_eq_getElem?_getD, List.getD_eq_getElem?_getD, List.getElem?_drop]
    rw [this]; exact decide_eq_true (asc_get h (by omega) (by omega)))
  have h2 : S.countP (fun x => decide (L.g S m ≤ x)) = (S.take m).countP (fun x => decide (L.g S m ≤ x)) + (S.drop m).countP (fun x => decide (L.g S m ≤ x)) := by rw [← List.countP_append, e]
  rw [h2, h1, List.length_drop]; omega
theorem med_mid {l : List Q.Sm} (h : Q.vq l = true) : l.length ≤ 2 * loTo l (med l) l.length ∧ l.length ≤ 2 * hiTo l (med l) l.length ∧ ∃ i, i < l.length ∧ Q.of l i = med l := by
  have hq := (Q.vq_of h).1
  have hs := srt_asc (offs l)
  have hp := srt_perm (offs l)
  have hlen : (srt (offs l)).length = l.length := by rw [srt_len, offs_len]
  have hm : (l.length - 1) / 2 < (srt (offs l)).length := by omega
  have e := med_yes h
  have a := cnt_lo hs hm
  have b := cnt_hi hs hm
  rw [← e] at a b
  rw [hp.countP_eq] at a b
  rw [lo_count l _ _ (Nat.le_refl _), hi_count l _ _ (Nat.le_refl _), List.take_length]
  refine ⟨by omega, by omega, ?_⟩
  have hmem : med l ∈ offs l := by
    rw [e]
    have := L.g_get _ _ hm
    exact hp.mem_iff.1 (List.mem_of_getElem? this)
  obtain ⟨i, hi, ei⟩ := List.getElem_of_mem hmem
  rw [offs_len] at hi
  refine ⟨i, hi, ?_⟩
  have g1 : (offs l)[i]? = some (med l) := by rw [List.getElem?_eq_getElem (by rw [offs_len]; exact hi), ei]
  have g2 : (offs l)[i]? = some (Q.of l i) := by unfold offs; rw [List.getElem?_map, Q.get l i hi]; rfl
  rw [g1] at g2
  injection g2 with g2
  exact g2.symm
theorem lo_in {l : List Q.Sm} {m : Int} {k : Nat} (h : Q.of l k ≤ m) : loTo l m (k + 1) = loTo l m k + 1 := by
  show loTo l m k + (if Q.of l k ≤ m then 1 else 0) = _
  rw [if_pos h]
theorem lo_out {l : List Q.Sm} {m : Int} {k : Nat} (h : ¬ Q.of l k ≤ m) : loTo l m (k + 1) = loTo l m k := by
  show loTo l m k + (if Q.of l k ≤ m then 1 else 0) = _
  rw [if_neg h]; rfl
theorem hi_in {l : List Q.Sm} {m : Int} {k : Nat} (h : m ≤ Q.of l k) : hiTo l m (k + 1) = hiTo l m k + 1 := by
  show hiTo l m k + (if m ≤ Q.of l k then 1 else 0) = _
  rw [if_pos h]
theorem hi_out {l : List Q.Sm} {m : Int} {k : Nat} (h : ¬ m ≤ Q.of l k) : hiTo l m (k + 1) = hiTo l m k := by
  show hiTo l m k + (if m ≤ Q.of l k then 1 else 0) = _
  rw [if_neg h]; rfl
set_option maxRecDepth 100000 in
set_option maxHeartbeats 8000000 in
theorem walk (a0 : Option Addr) (len0 cap0 : Nat) (z0 : List Int) (w : World) (w0 : IsRow .u8 w a0 len0 cap0 z0) :
    Calls Try.prog 4 #[.slice a0 len0 cap0] w fun e w' => e = .returned (.bool true) ∧ Below w.heap.size w w' := by
  by_cases hl : 1048576 < len0
  · have hl' : (1048576 : Int) < (len0 : Int) := by omega
    clear w0 hl
    go_enter Try.func4, Try.ntmps4
    go_wp2
    go_ret
    exact ⟨rfl, Below.refl _ _⟩
  have hl' : ¬ (1048576 : Int) < (len0 : Int) := by omega
  obtain ⟨hc, hcap⟩ := code_of w0 (by omega)
  clear w0 hl
  go_enter Try.func4, Try.ntmps4
  go_wp2_with fail
  refine (DrawMedianOffset_any w a0 len0 cap0 hc hcap).mono ?_
  rintro e w1 ⟨a, c, l, rfl, hl9, hlc, hcm, hS, hsm, bl, hfr⟩
  clear hc hcap
  have st := Sq.mk hS bl
  clear hS bl hfr hsm hcm
  go_wp2_with fail
  refine (MD_impl _ _ _ _ _ _ st.here (Nat.le_refl _)).mono ?_
  rintro e w2 ⟨rfl, b2⟩
  have st2 := st.b b2
  clear st b2
  go_wp2_with fail
  refine (MD_spec _ _ _ _ _ _ st2.here (Nat.le_refl _)).mono ?_
  rintro e w3 ⟨rfl, b3⟩
  have st3 := st2.b b3
  clear st2 b3
  rcases hv : Q.vq l with _ | _
  · go_wp2_with fail
    refine (vq_impl _ _ _ _ _ _ st3.here (Nat.le_refl _)).mono ?_
    rw [hv]
    rintro e w4 ⟨rfl, b4⟩
    have st4 := st3.b b4
    clear st3 b4
    go_wp2_with fail
    refine (MD_spec _ _ _ _ _ _ st4.here (Nat.le_refl _)).mono ?_
    rintro e w5 ⟨rfl, b5⟩
    have st5 := st4.b b5
    clear st4 b5
    go_wp2
    go_ret
    exact ⟨ret_bool (by first | rfl | simp), st5.bel⟩
  · obtain ⟨m1, m2, m3⟩ := med_mid hv
    have HM3 := Lib.hid m3
    have HLB := Lib.hid (fun k => And.intro (lo_bd l (med l) k) (hi_bd l (med l) k))
    clear m3
    go_wp2_with fail
    refine (vq_impl _ _ _ _ _ _ st3.here (Nat.le_refl _)).mono ?_
    rw [hv]
    rintro e w4 ⟨rfl, b4⟩
    have st4 := st3.b b4
    clear st3 b4
    obtain ⟨b, off, rfl, hb, hc⟩ := st4.here.at_ 0 (by omega)
    have HC := Lib.hid hc
    clear hc
    go_wp2
    generalize hmm : med l = M at *
    go_loop [5, 6, 7, 8] (fun x y s i => ∃ (k : Nat) (t : Bool), k ≤ l.length ∧ i = .int .i64 k ∧ x = .int .i64 (loTo l M k) ∧ y = .int .i64 (hiTo l M k) ∧ s = .bool t ∧ (t = false → ∀ i, i < k → Q.of l i ≠ M)) (fun _ _ _ i => l.length - (intOf i).toNat)
    case atStart => exact ⟨0, false, Nat.zero_le _, rfl, rfl, rfl, rfl, fun _ i hi => by omega⟩
    case round =>
      obtain ⟨k, t, hk, rfl, rfl, rfl, rfl, ht⟩ := hrel
      have HT := Lib.hid ht
      have hlb := HLB.out k
      clear ht
      by_cases hlt : k < l.length
      · have q0 := (HC.out k hlt).1
        rcases Int.lt_trichotomy (Q.of l k) M with h | h | h
        · have E1 := Lib.hid (lo_in (l := l) (m := M) (k := k) (by omega))
          have E2 := Lib.hid (hi_out (l := l) (m := M) (k := k) (by omega))
          have h1 : decide (Q.of l k ≤ M) = true := decide_eq_true (by omega)
          have h2 : decide (M ≤ Q.of l k) = false := decide_eq_false (by omega)
          have h3 : (Q.of l k == M) = false := by rw [beq_eq_false_iff_ne]; omega
          have HNE := Lib.hid (show Q.of l k ≠ M by omega)
          clear h
          cases t
          · go_wp2
            go_round
            case rel => exact ⟨k + 1, false, by omega, by go_num, by rw [E1.out]; go_num, by rw [E2.out], rfl, fun _ i hi => (by
              rcases Nat.lt_or_ge i k with x | x
              · exact HT.out (by first | rfl | trivial) i x
              · obtain rfl : i = k := by omega
                exact HNE.out)⟩
            case measure => simp [intOf]; omega
          · go_wp2
            go_round
            case rel => exact ⟨k + 1, true, by omega, by go_num, by rw [E1.out]; go_num, by rw [E2.out], rfl, fun h => (by cases h)⟩
            case measure => simp [intOf]; omega
        · have E1 := Lib.hid (lo_in (l := l) (m := M) (k := k) (by omega))
          have E2 := Lib.hid (hi_in (l := l) (m := M) (k := k) (by omega))
          have h1 : decide (Q.of l k ≤ M) = true := decide_eq_true (by omega)
          have h2 : decide (M ≤ Q.of l k) = true := decide_eq_true (by omega)
          have h3 : (Q.of l k == M) = true := by rw [beq_iff_eq]; exact h
          clear h
          cases t
          · go_wp2
            go_round
            case rel => exact ⟨k + 1, true, by omega, by go_num, by rw [E1.out]; go_num, by rw [E2.out]; go_num, rfl, fun h => (by cases h)⟩
            case measure => simp [intOf]; omega
          · go_wp2
            go_round
            case rel => exact ⟨k + 1, true, by omega, by go_num, by rw [E1.out]; go_num, by rw [E2.out]; go_num, rfl, fun h => (by cases h)⟩
            case measure => simp [intOf]; omega
        · have E1 := Lib.hid (lo_out (l := l) (m := M) (k := k) (by omega))
          have E2 := Lib.hid (hi_in (l := l) (m := M) (k := k) (by omega))
          have h1 : decide (Q.of l k ≤ M) = false := decide_eq_false (by omega)
          have h2 : decide (M ≤ Q.of l k) = true := decide_eq_true (by omega)
          have h3 : (Q.of l k == M) = false := by rw [beq_eq_false_iff_ne]; omega
          have HNE := Lib.hid (show Q.of l k ≠ M by omega)
          clear h
          cases t
          · go_wp2
            go_round
            case rel => exact ⟨k + 1, false, by omega, by go_num, by rw [E1.out], by rw [E2.out]; go_num, rfl, fun _ i hi => (by
              rcases Nat.lt_or_ge i k with x | x
              · exact HT.out (by first | rfl | trivial) i x
              · obtain rfl : i = k := by omega
                exact HNE.out)⟩
            case measure => simp [intOf]; omega
          · go_wp2
            go_round
            case rel => exact ⟨k + 1, true, by omega, by go_num, by rw [E1.out], by rw [E2.out]; go_num, rfl, fun h => (by cases h)⟩
            case measure => simp [intOf]; omega
      · obtain rfl : k = l.length := by omega
        cases t
        · obtain ⟨i, i1, i2⟩ := HM3.out
          exact absurd i2 (HT.out (by first | rfl | trivial) i i1)
        · have n1 : (l.length : Int) ≤ 2 * (loTo l M l.length : Int) := by omega
          have n2 : (l.length : Int) ≤ 2 * (hiTo l M l.length : Int) := by omega
          go_wp2
          go_ret
          exact ⟨ret_bool (by first | rfl | simp), st4.bel⟩

/-! ### THE ROW's STEP: WRITTEN OUT: LEAVE IT -/
set_option maxRecDepth 100000 in
theorem lifted (os : Os) (started : os.Started) (H : Type) (enc : TypeId × Value → H) :
    ReturnsInHanded {} Try.checked os 4 .any (Rows.fnMedianOffsetSpec.pre6 enc Try.prog Try.f4 Rows.fnMedianOffsetRow.domain false) (Rows.fnMedianOffsetSpec.post enc Try.prog Try.f4 false true false false) := by
  refine returnsInHanded_of_change (C := Try.checked) own started (by kernel_rfl) Try.func4
    (ChangeSpec.witness6 (enc := enc) (C := Try.checked) false ⟨#[], #[.slice none 0 0], []⟩ 8 (by kernel_rfl) (by kernel_rfl) (by kernel_rfl) (by kernel_rfl)) ?_
  intro W base args ds gs before hval0 hW hcnd _
  have hval : ∀ (j : Nat) t v, Try.f4.params[j]? = some t → args[j]? = some v → Value.okWide Try.prog W .any base t v := hval0
  have hW' := hW
  obtain ⟨p, q, hA0, hV, rfl, hfz, hnd⟩ := hW
  have hA : DataW.TrodAll enc Try.prog W 0 (fun _ => true) true Try.f4.params.toList args.toList ds p := hA0
  rw [Try.params4] at hA hval
  obtain ⟨v0, vs0, d0, ds0, p0, q0, hargs, rfl, rfl, h0, r0⟩ := trodAll_cons hA
  obtain ⟨rfl, rfl, rfl⟩ := trodAll_nil r0
  obtain rfl : args = #[v0] := by cases args; simp_all
  obtain ⟨rfl, rfl⟩ := trodVars_none hV
  obtain ⟨a0, len0, cap0, rfl⟩ := okWide_slice Try.underlying22 (hval 0 22 v0 rfl rfl)
  have k0 := h0
  have lt0 : ∀ x ∈ p0, x.block < W.heap.size := by obtain ⟨m, hm⟩ := k0; exact DataW.trod_lt m _ _ _ hm
  obtain ⟨z0, w0⟩ : ∃ zs, IsRow .u8 W a0 len0 cap0 zs := by
    obtain ⟨fuel, hf⟩ := h0
    rcases open_ints Try.underlying22 Try.underlying5 (by kernel_rfl) hf with ⟨hcs, _⟩ | ⟨x, l, c, zs, hcs, _, hl, hm, hz, _, hcell, hwz⟩
    · simp [Value.cells] at hcs
      obtain ⟨rfl, rfl, rfl⟩ := hcs
      exact ⟨[], .inl ⟨rfl, rfl, rfl, rfl⟩⟩
    · simp [Value.cells] at hcs
      obtain ⟨rfl, rfl, rfl⟩ := hcs
      exact ⟨zs, .inr ⟨_, rfl, hl, hm, by simpa using hz, hcell, hwz⟩⟩
  clear hA0 hval0
  refine (walk a0 len0 cap0 z0 W w0).mono fun e W' ⟨he, bel⟩ => ?_
  subst he
  exact ⟨_, rfl, _, _, _, [], _, [], hW', trodAll_mk1 (shut_bool Try.underlying4 _), (trodAll_cons_mk (Below.trod laidOut (by kernel_rfl) (of_decide_eq_true (by kernel_rfl)) k0 bel lt0) trodAll_mk0), rfl, bel.frame _, fun h => by cases h⟩

theorem over : Rows.fnMedianOffsetRow.holds Try.pinned (OpenSpec.ofChange Rows.fnMedianOffsetSpec) :=
  OpenClaim.holds_of_wide 4 Try.f4 rfl rfl rfl rfl rfl rfl rfl ⟨rfl, rfl, rfl, rfl, rfl⟩ rfl rfl rfl rfl rfl (by kernel_rfl) Try.func4 (by kernel_rfl)
    (of_decide_eq_true (by kernel_rfl)) (by unfold Func.isWrapper; first | (rw [if_pos (by decide +kernel)]; kernel_rfl) | (rw [if_neg (by decide +kernel)]; exact ⟨rfl, rfl⟩))
    (fun os started H enc _ => lifted os started H enc)

/-- ████ THE STATEMENT ████ -/
theorem proved : Rows.FnMedianOffsetSaid := over
#print axioms proved
end Go.Proofs.Ytpllodjahanpkac.fnMedianOffset
