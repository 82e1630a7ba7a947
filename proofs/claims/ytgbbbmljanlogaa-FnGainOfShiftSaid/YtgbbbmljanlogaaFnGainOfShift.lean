/-
  PROVED: FnGainOfShift: for every input the law returns true, and the input reads as it did. No condition.
  The frame is as the kit prints it (proof-skeleton.mjs); the walk is mine.
-/
import Derived.Test.YtgbbbmljanlogaaRows
import Derived.Test.YtgbbbmljanlogaaGain
import Derived.Test.YtgbbbmljanlogaaDrawU
import Derived.Test.YtgbbbmljanlogaaSt
import Derived.Test.YtgbbbmljanlogaaOwnL
import Derived.Test.YtgbbbmljanlogaaShiftL
import Derived.Test.YtgbbbmljanlogaaJoin
import Derived.WalkKit
import Derived.ProofKit
import Derived.OpenShut
import Derived.ShutString
import Derived.ChangeOld
import Derived.Below
namespace Go.Proofs.Ytgbbbmljanlogaa.fnGainOfShift
open Go.ChangeShapes Go.WideShapes Go.ChangeAt Go.RowKit
open Go.ChangeMaps (open_string shut_string)
set_option linter.unusedVariables false

theorem own : ownKnob Try.prog.godebug = none := by kernel_rfl
theorem laidOut : laidOutB Try.prog = true := by kernel_rfl

/-- WHAT THE WALK IS TOLD OF A SLICE OF INTEGERS THAT CAME IN: it is nil; or it leads to a row of 'cap' cells, the numbers 'zs' (the first 'len' are its elements, the rest its spare room), each fitting its kind. -/
def IsRow (k : IntKind) (w : World) (a : Option Addr) (len cap : Nat) (zs : List Int) : Prop :=
  (a = none ∧ len = 0 ∧ cap = 0 ∧ zs = []) ∨
  ∃ x, a = some x ∧ len ≤ cap ∧ cap ≤ maxLen ∧ zs.length = cap ∧ (∀ i, i < zs.length → w.cell? (x.add i) = some (.int k (zs.getD i 0))) ∧ ∀ n ∈ zs, (Lit.int k n).wf = true

/-! ### STEP 1: THE WALK: the Go text returns true, AND WRITES NOTHING THAT WAS THERE: 'Below w.heap.size w w'' (Derived/Below.lean: '.refl', '.alloc', '.drew', '.setCell' at a new block, '.trans'). Open each 'IsRow' by 'rcases' AHEAD of 'go_enter'; part every test ahead of the walk. -/
set_option maxRecDepth 100000 in
set_option maxHeartbeats 8000000 in
theorem walk (a0 : Option Addr) (len0 cap0 : Nat) (z0 : List Int) (w : World) (w0 : IsRow .u8 w a0 len0 cap0 z0) :
    Calls Try.prog 6 #[.slice a0 len0 cap0] w fun e w' => e = .returned (.bool true) ∧ Below w.heap.size w w' := by
  by_cases hl : 1048576 < len0
  · have hl' : (1048576 : Int) < (len0 : Int) := by omega
    clear w0 hl
    go_enter Try.func6, Try.ntmps6
    go_wp2
    go_ret
    exact ⟨rfl, Below.refl _ _⟩
  have hl' : ¬ (1048576 : Int) < (len0 : Int) := by omega
  obtain ⟨hc, hcap⟩ := code_of w0 (by omega)
  clear w0 hl
  go_enter Try.func6, Try.ntmps6
  go_wp2_with fail
  refine (DrawGainOf_any w a0 len0 cap0 hc hcap).mono ?_
  rintro e w1 ⟨a, c, l, rfl, hl18, hlc, hcm, hS, bl⟩
  clear hc hcap
  obtain ⟨n, hn⟩ : ∃ n, l.length = n := ⟨_, rfl⟩
  have HN := Lib.hid hn
  rw [hn] at hS hl18 hlc ⊢
  clear hn
  have st1 : St w w1 a n l := ⟨hS, bl⟩
  clear hS bl hlc hcm
  have k1 := fun n c a w' (h : Sps w'.heap.size w' a n l) => GN_impl n c a l w' h
  have k2 := fun n c a w' (h : Sps w'.heap.size w' a n l) => GN_spec n c a l w' h
  unfold Gtold at k1 k2
  cases hok : G.gok l
  · rw [hok] at k1 k2
    generalize G.gn l = gn at *
    have K1 := Lib.hid k1
    have K2 := Lib.hid k2
    clear k1 k2 hok
    go_wp2_with fail
    refine (K1.out _ _ _ _ st1.here).mono ?_
    rintro e w2 ⟨rfl, b2⟩
    have st2 := st1.b b2
    clear st1 b2
    go_wp2_with fail
    refine (K2.out _ _ _ _ st2.here).mono ?_
    rintro e w3 ⟨rfl, b3⟩
    have HB := Lib.hid (st2.b b3).bel
    clear st2 b3
    go_wp2
    go_ret
    exact ⟨ret_bool (by simp), HB.out⟩
  have hgk := G.gok_of hok
  have HGK := Lib.hid hok
  have hrng := fun i (hi : i < l.length) => (G.rng hgk.2.1 hi).1
  have h16 : n ≤ 16 := by rw [← HN.out]; exact (G.vl_of hgk.2.1).1
  have h2n : 2 ≤ n := by rw [← HN.out]; exact hgk.1
  rw [hok] at k1 k2
  have HUP := Lib.hid (fun hlast => G.gn_up (c := 6) hok (by omega) hlast)
  have KU := Lib.hid (fun n c a w' (h : Sps w'.heap.size w' a n (G.up 6 l)) => GN_impl n c a (G.up 6 l) w' h)
  unfold Gtold at KU
  generalize G.gn l = gn at *
  have K1 := Lib.hid k1
  have K2 := Lib.hid k2
  have HR := Lib.hid hrng
  clear k1 k2 hok hgk hrng
  obtain ⟨m, rfl⟩ : ∃ m, n = m + 1 := ⟨n - 1, by omega⟩
  have hrm := HR.out m (by rw [HN.out]; omega)
  have e1 : wrap64 (m : Int) = (m : Int) := IntWalk.wrap64_in _ (by omega)
  have e3 : IntKind.i64.wrap (m : Int) = (m : Int) := IntWalk.i64_in _ (by omega)
  have e4 : IntKind.i64.wrap ((m : Int) + 1 - 1) = (m : Int) := by rw [show (m : Int) + 1 - 1 = m by omega]; exact e3
  have hm0 : (m : Int) < (m : Int) + 1 := by omega
  have p0 : (0 : Int) ≤ (m : Int) := by omega
  go_wp2_with fail
  refine (K1.out _ _ _ _ st1.here).mono ?_
  rintro e w2 ⟨rfl, b2⟩
  have st2 := st1.b b2
  clear st1 b2
  go_wp2_with fail
  refine (K2.out _ _ _ _ st2.here).mono ?_
  rintro e w3 ⟨rfl, b3⟩
  have st3 := st2.b b3
  clear st2 b3
  obtain ⟨b, off, rfl, hb, hc⟩ := st3.here.at_ 0 (by omega)
  have hcm := (hc m (by omega)).1
  clear hc hb
  have e6 : IntKind.i64.wrap (V.lo l m + 6) = V.lo l m + 6 := IntWalk.i64_in _ (by omega)
  by_cases hbig : 100000000 < V.lo l m + 6
  · have HB := Lib.hid st3.bel
    clear st3
    go_wp2
    go_ret
    exact ⟨ret_bool (by simp), HB.out⟩
  · have hup := HUP.out (by rw [HN.out, Nat.add_sub_cancel]; omega)
    have HG2 := Lib.hid hup
    have S3 := st3.here
    have bl3 := st3.bel
    have O3 := Prs.made 34 w3
    have al3 := (Below.refl w3.heap.size w3).alloc (Nat.le_refl _) (.cells #[] 34)
    have S3' := S3.below al3
    have hle3 : w3.heap.size ≤ (w3.alloc (.cells #[] 34)).heap.size := al3.size
    clear hup S3 st3
    go_wp2_with (at_builtin; refine wpList_l rfl _ _ rfl w3.heap.size rfl rfl O3 S3' (by show 0 + _ ≤ _; omega) hle3 l (List.nil_append l) ?_)
    intro a4 c4 w4 O4 b4 _
    rw [HN.out]
    have bl4 := bl3.trans ((al3.trans b4).mono bl3.size)
    have hD : w3.heap.size ≤ w4.heap.size := (al3.trans b4).size
    have O4 : Prs 34 w3.heap.size w4 a4 c4 (upl 6 l 0) := by rw [upl_zero]; exact O4
    have hww : w.heap.size ≤ w3.heap.size := bl3.size
    clear O3 al3 S3' b4 bl3 hle3 hcm
    generalize w3.heap.size = D at *
    obtain ⟨g, ge, hgD, hgt, _⟩ := O4.form (by rw [upl_zero, HN.out]; omega)
    subst ge
    go_wp2_with fail
    go_loopw [9] (fun i wr => ∃ k : Nat, k ≤ m + 1 ∧ i = .int .i64 k ∧ Prs 34 D wr (some ⟨g, 0, none⟩) c4 (upl 6 l k) ∧ Below w.heap.size w wr ∧ D ≤ wr.heap.size) (fun i _ => m + 1 - (intOf i).toNat)
    case atStart => exact ⟨0, Nat.zero_le _, rfl, O4, bl4, hD⟩
    case round =>
      obtain ⟨k, hk, rfl, O, bl, hD'⟩ := hrel
      clear O4 bl4 hD hgt
      by_cases hlt : k < m + 1
      · have hlk : k < l.length := by rw [HN.out]; exact hlt
        have hul := upl_len 6 l k (Nat.le_of_lt hlk)
        have hua := upl_at 6 l k hlk
        have hus := upl_set 6 l k hlk
        obtain ⟨g', ge, -, hgt, hcf⟩ := O.form (by omega)
        injection ge with ge
        injection ge with ge
        subst ge
        obtain ⟨⟨hcell, -⟩, ⟨hfro, -⟩⟩ := hcf k (by omega)
        rw [hua.1] at hcell
        have hx := HR.out k hlk
        have hset := O.set0 (j := k) (x := V.lo l k + 6) (by omega)
        rw [hus] at hset
        obtain ⟨x, hx0⟩ : ∃ x, V.lo l k = x := ⟨_, rfl⟩
        rw [hx0] at hcell hx hset
        have e9 : IntKind.i64.wrap (x + 6) = x + 6 := IntWalk.i64_in _ (by omega)
        have hbs : Below D wr (wr.setCell ⟨g, k * 2, none⟩ (.int .i64 (x + 6))) := (Below.refl D wr).setCell (p := ⟨g, k * 2, none⟩) hgD _
        have HF := Lib.hid (And.intro hset (And.intro (bl.trans (hbs.mono hww)) (Nat.le_trans hD' hbs.size)))
        clear hul hua hus hset hx0 O bl hbs hlk hcf
        go_wp2
        go_roundw
        case rel => exact ⟨k + 1, by omega, by go_num, HF.out.1, HF.out.2.1, HF.out.2.2⟩
        case measure => simp [intOf]; omega
      · have hkl : k = m + 1 := by omega
        subst hkl
        rw [← HN.out, upl_all] at O
        have hMS := prs_sps' O (by rw [G.up_len, HN.out]; omega)
        rw [G.up_len, HN.out] at hMS
        have k5 := KU.out (m + 1) c4 _ _ hMS
        rw [HG2.out.1, HG2.out.2] at k5
        have K5 := Lib.hid k5
        have HB := Lib.hid bl
        clear k5 hMS O bl hD'
        go_wp2_with fail
        refine K5.out.mono ?_
        rintro e w5 ⟨rfl, b5⟩
        have HB5 := Lib.hid (HB.out.trans (b5.mono HB.out.size))
        clear b5
        go_wp2
        go_ret
        exact ⟨ret_bool (by first | rfl | simp), HB5.out⟩

/-! ### THE ROW's STEP: WRITTEN OUT: LEAVE IT -/
set_option maxRecDepth 100000 in
theorem lifted (os : Os) (started : os.Started) (H : Type) (enc : TypeId × Value → H) :
    ReturnsInHanded {} Try.checked os 6 .any (Rows.fnGainOfShiftSpec.pre6 enc Try.prog Try.f6 Rows.fnGainOfShiftRow.domain false) (Rows.fnGainOfShiftSpec.post enc Try.prog Try.f6 false true false false) := by
  refine returnsInHanded_of_change (C := Try.checked) own started (by kernel_rfl) Try.func6
    (ChangeSpec.witness6 (enc := enc) (C := Try.checked) false ⟨#[], #[.slice none 0 0], []⟩ 8 (by kernel_rfl) (by kernel_rfl) (by kernel_rfl) (by kernel_rfl)) ?_
  intro W base args ds gs before hval0 hW hcnd _
  have hval : ∀ (j : Nat) t v, Try.f6.params[j]? = some t → args[j]? = some v → Value.okWide Try.prog W .any base t v := hval0
  have hW' := hW
  obtain ⟨p, q, hA0, hV, rfl, hfz, hnd⟩ := hW
  have hA : DataW.TrodAll enc Try.prog W 0 (fun _ => true) true Try.f6.params.toList args.toList ds p := hA0
  rw [Try.params6] at hA hval
  obtain ⟨v0, vs0, d0, ds0, p0, q0, hargs, rfl, rfl, h0, r0⟩ := trodAll_cons hA
  obtain ⟨rfl, rfl, rfl⟩ := trodAll_nil r0
  obtain rfl : args = #[v0] := by cases args; simp_all
  obtain ⟨rfl, rfl⟩ := trodVars_none hV
  obtain ⟨a0, len0, cap0, rfl⟩ := okWide_slice Try.underlying22 (hval 0 22 v0 rfl rfl)
  have k0 := h0
  have lt0 : ∀ x ∈ p0, x.block < W.heap.size := by obtain ⟨m, hm⟩ := k0; exact DataW.trod_lt m _ _ _ hm
  obtain ⟨z0, w0⟩ : ∃ zs, IsRow .u8 W a0 len0 cap0 zs := by
    obtain ⟨fuel, hf⟩ := h0
    rcases open_ints Try.underlying22 Try.underlying5 (by kernel_rfl) hf with ⟨hcs, _⟩ | ⟨x, l, c, zs, hcs, _, hl, hm, hz, _, hcell, hwz⟩
    · simp [Value.cells] at hcs
      obtain ⟨rfl, rfl, rfl⟩ := hcs
      exact ⟨[], .inl ⟨rfl, rfl, rfl, rfl⟩⟩
    · simp [Value.cells] at hcs
      obtain ⟨rfl, rfl, rfl⟩ := hcs
      exact ⟨zs, .inr ⟨_, rfl, hl, hm, by simpa using hz, hcell, hwz⟩⟩
  clear hA0 hval0
  refine (walk a0 len0 cap0 z0 W w0).mono fun e W' ⟨he, bel⟩ => ?_
  subst he
  exact ⟨_, rfl, _, _, _, [], _, [], hW', trodAll_mk1 (shut_bool Try.underlying4 _), (trodAll_cons_mk (Below.trod laidOut (by kernel_rfl) (of_decide_eq_true (by kernel_rfl)) k0 bel lt0) trodAll_mk0), rfl, bel.frame _, fun h => by cases h⟩

theorem closed : joinedFacts Try.pinned.checked.prog 6 Try.f6 Rows.fnGainOfShiftSpec Rows.fnGainOfShiftRow = true := by
  unfold joinedFacts
  rw [mayJ, liftsJ, makeJ]
  kernel_rfl

theorem over : Rows.fnGainOfShiftRow.holds Try.pinned (OpenSpec.ofChange Rows.fnGainOfShiftSpec) :=
  OpenClaim.holds_of_wide 6 Try.f6 rfl rfl rfl rfl rfl rfl rfl ⟨rfl, rfl, rfl, rfl, rfl⟩ rfl rfl rfl rfl rfl (by kernel_rfl) Try.func6 closed
    (of_decide_eq_true (by kernel_rfl)) (by unfold Func.isWrapper; first | (rw [if_pos (by decide +kernel)]; kernel_rfl) | (rw [if_neg (by decide +kernel)]; exact ⟨rfl, rfl⟩))
    (fun os started H enc _ => lifted os started H enc)

/-- ████ THE STATEMENT ████ -/
theorem proved : Rows.FnGainOfShiftSaid := over
#print axioms proved
end Go.Proofs.Ytgbbbmljanlogaa.fnGainOfShift
