/-
  PROVED: FnJitterOfShift: for every input the law returns true, and the input reads as it did. No condition.
  The frame is as the kit prints it (proof-skeleton.mjs); the walk is mine.
-/
import Derived.Test.YtcbahomohlaakaaRows
import Derived.Test.YtcbahomohlaakaaShiftQ
import Derived.WalkKit
import Derived.ProofKit
import Derived.OpenShut
import Derived.ShutString
import Derived.ChangeOld
import Derived.Below
namespace Go.Proofs.Ytcbahomohlaakaa.fnJitterOfShift
open Go.ChangeShapes Go.WideShapes Go.ChangeAt Go.RowKit
open Go.ChangeMaps (open_string shut_string)
set_option linter.unusedVariables false

theorem own : ownKnob Try.prog.godebug = none := by kernel_rfl
theorem laidOut : laidOutB Try.prog = true := by kernel_rfl

/-- WHAT THE WALK IS TOLD OF A SLICE OF INTEGERS THAT CAME IN: it is nil; or it leads to a row of 'cap' cells, the numbers 'zs' (the first 'len' are its elements, the rest its spare room), each fitting its kind. -/
def IsRow (k : IntKind) (w : World) (a : Option Addr) (len cap : Nat) (zs : List Int) : Prop :=
  (a = none ∧ len = 0 ∧ cap = 0 ∧ zs = []) ∨
  ∃ x, a = some x ∧ len ≤ cap ∧ cap ≤ maxLen ∧ zs.length = cap ∧ (∀ i, i < zs.length → w.cell? (x.add i) = some (.int k (zs.getD i 0))) ∧ ∀ n ∈ zs, (Lit.int k n).wf = true

/-! ### STEP 1: THE WALK: the Go text returns true, AND WRITES NOTHING THAT WAS THERE: 'Below w.heap.size w w'' (Derived/Below.lean: '.refl', '.alloc', '.drew', '.setCell' at a new block, '.trans'). Open each 'IsRow' by 'rcases' AHEAD of 'go_enter'; part every test ahead of the walk. -/
set_option maxRecDepth 100000 in
set_option maxHeartbeats 16000000 in
theorem walk (a0 : Option Addr) (len0 cap0 : Nat) (z0 : List Int) (w : World) (w0 : IsRow .u8 w a0 len0 cap0 z0) :
    Calls Try.prog 4 #[.slice a0 len0 cap0] w fun e w' => e = .returned (.bool true) ∧ Below w.heap.size w w' := by
  by_cases hl : 1048576 < len0
  · have hl' : (1048576 : Int) < (len0 : Int) := by omega
    clear w0 hl
    go_enter Try.func4, Try.ntmps4
    go_wp2
    go_ret
    exact ⟨rfl, Below.refl _ _⟩
  have hl' : ¬ (1048576 : Int) < (len0 : Int) := by omega
  obtain ⟨hc, hcap⟩ := code_of w0 (by omega)
  clear w0 hl
  go_enter Try.func4, Try.ntmps4
  go_wp2_with fail
  refine (DrawJitterOf_any w a0 len0 cap0 hc hcap).mono ?_
  rintro e w1 ⟨a, c, l, rfl, hl9, hlc, hcm, hS, hsm, bl, hfr⟩
  clear hc hcap
  have k1 := fun w' (h : Sms w'.heap.size w' a l.length l) => JF_impl _ l.length c a l w' h (Nat.le_refl _)
  have k2 := fun w' (h : Sms w'.heap.size w' a l.length l) => JF_spec _ l.length c a l w' h
  clear hfr hsm
  unfold maxLen at hcm
  rcases hv : Q.vq l with _ | _
  · simp only [Q.jf_no hv] at k1 k2
    have K1 := Lib.hid k1
    have K2 := Lib.hid k2
    clear k1 k2 hv
    go_wp2_with fail
    refine (K1.out _ hS).mono ?_
    rintro e w2 ⟨rfl, b2⟩
    have S2 := (hS.below b2).more b2.size
    have bl2 := bl.trans (b2.mono bl.size)
    clear hS bl b2 K1
    go_wp2_with fail
    refine (K2.out _ S2).mono ?_
    rintro e w3 ⟨rfl, q3⟩
    have S3 := (S2.same q3).more (show w2.heap.size ≤ w3.heap.size from (q3.below (B := 0)).size)
    have bl3 := bel_same bl2 q3
    clear S2 bl2 q3
    go_wp2_with fail
    refine (K2.out _ S3).mono ?_
    rintro e w4 ⟨rfl, q4⟩
    have HB := Lib.hid (bel_same bl3 q4)
    clear S3 bl3 q4
    go_wp2
    go_ret
    exact ⟨ret_bool (by first | rfl | simp), HB.out⟩
  · simp only [Q.jf_yes hv] at k1 k2
    have hJ := jit_in hv
    have hl8 := (Q.vq_of hv).1.2
    have hbd : ∀ i, i < l.length → -1000000 ≤ Q.of l i ∧ Q.of l i ≤ 1000000 := fun i hi => ((Q.vq_of hv).2 i hi).1.1
    have hfin : (∀ i, i < l.length → Q.of l i + 3 ≤ 1000000) → Q.vq (mpq (· + 3) l) = true ∧ Q.jit (mpq (· + 3) l) = Q.jit l ∧ med (mpq (· + 3) l) = med l + 3 := fun h => by
      have hv' : Q.vq (mpq (· + 3) l) = true := vq_mpq hv (fun i hi => by have := hbd i hi; have := h i hi; show _ ∧ _; constructor <;> (show _ ≤ _; omega))
      refine ⟨hv', ?_, med_mpq (f := (· + 3)) (fun a b hab => by show a + 3 ≤ b + 3; omega) hv hv'⟩
      have hb := best_mpq' (f := (· + 3)) hv
      unfold Q.jit
      rw [hb.1, mpq_len, (mpq_at _ l _ hb.2).1, sum_mpq (b := Q.of l (Q.best l)) (fun i hi => by show Q.abs (Q.of l i + 3 - (Q.of l (Q.best l) + 3)) = _; congr 1; omega) _ (Nat.le_refl _)]
    have hMl := med_in hv
    have k3 := fun w' (h : Sms w'.heap.size w' a l.length l) => MD_impl _ l.length c a l w' h (Nat.le_refl _)
    have HFIN := Lib.hid hfin
    have HBD := Lib.hid hbd
    have K1 := Lib.hid k1
    have K2 := Lib.hid k2
    have K3 := Lib.hid k3
    have hJ0 : ¬ Q.jit l < 0 := by omega
    clear k1 k2 k3 hv hfin hbd
    generalize hJe : Q.jit l = J at *
    generalize hMe : med l = M at *
    have HJE := Lib.hid (And.intro hJe hMe)
    clear hJe hMe
    go_wp2_with fail
    refine (K1.out _ hS).mono ?_
    rintro e w2 ⟨rfl, b2⟩
    have S2 := (hS.below b2).more b2.size
    have bl2 := bl.trans (b2.mono bl.size)
    clear hS bl b2 K1
    go_wp2_with fail
    refine (K2.out _ S2).mono ?_
    rintro e w3 ⟨rfl, q3⟩
    have S3 := (S2.same q3).more (show w2.heap.size ≤ w3.heap.size from (q3.below (B := 0)).size)
    have bl3 := bel_same bl2 q3
    clear S2 bl2 q3 K2
    have O3 := OwQ.made w3
    have al3 := (Below.refl w3.heap.size w3).alloc (Nat.le_refl _) (.cells #[] 26)
    have S3' := S3.below al3
    have hle3 : w3.heap.size ≤ (w3.alloc (.cells #[] 26)).heap.size := al3.size
    go_wp2_with (at_builtin; refine wpList_q rfl _ _ rfl w3.heap.size rfl rfl O3 S3' (by show 0 + _ ≤ _; omega) hle3 l (List.nil_append l) ?_)
    intro a4 c4 w4 O4 b4 _
    have S4 := S3'.below b4
    have bl4 := bl3.trans ((al3.trans b4).mono bl3.size)
    have hD : w3.heap.size ≤ w4.heap.size := (al3.trans b4).size
    have O4 : OwQ w3.heap.size w4 a4 c4 (upq (· + 3) l 0) := by rw [upq_zero]; exact O4
    have hww : w.heap.size ≤ w3.heap.size := bl3.size
    clear O3 al3 S3' b4 S3 bl3 hle3
    generalize w3.heap.size = D at *
    obtain ⟨g, cap, ge, hgD, _⟩ := World.ownsRow.form (show w4.ownsRow D 26 3 (.slice a4 (upq (· + 3) l 0).length c4) (upq (· + 3) l 0).length (v3 (upq (· + 3) l 0)) from O4) (by rw [upq_zero]; omega)
    injection ge with ge1 ge2 ge3
    subst ge1
    clear ge2 ge3
    go_wp2_with fail
    go_loopw [6] (fun i wr => ∃ k : Nat, k ≤ l.length ∧ i = .int .i64 k ∧ OwQ D wr (some ⟨g, 0, none⟩) c4 (upq (· + 3) l k) ∧ Sms D wr a l.length l ∧ Below w.heap.size w wr ∧ D ≤ wr.heap.size ∧ (∀ i, i < k → Q.of l i + 3 ≤ 1000000)) (fun i _ => l.length - (intOf i).toNat)
    case atStart => exact ⟨0, Nat.zero_le _, rfl, O4, S4, bl4, hD, fun i hi => absurd hi (Nat.not_lt_zero _)⟩
    case round =>
      obtain ⟨k, hk, rfl, O, S, bl, hD', hall⟩ := hrel
      have HALL := Lib.hid hall
      clear O4 S4 bl4 hD hall
      by_cases hlt : k < l.length
      · have hul := upq_len (· + 3) l k hk
        have hua := upq_at (· + 3) l k hlt
        have hus := upq_set (· + 3) l k hlt
        have hcell := World.ownsRow.cellAt O (k * 3) (by omega)
        rw [(v3_get (upq (· + 3) l k) k (by omega)).1, hua.1] at hcell
        have hfro := World.ownsRow.frozenAt O (k * 3)
        have hx := HBD.out k hlt
        have hset := O.set1 (j := k) (x := Q.of l k + 3) (by omega)
        rw [hus] at hset
        obtain ⟨x, hx0⟩ : ∃ x, Q.of l k = x := ⟨_, rfl⟩
        rw [hx0] at hcell hx hset
        have HX := Lib.hid hx0
        have e1 : IntKind.i64.wrap (x + 3) = x + 3 := IntWalk.i64_in _ (by omega)
        have hbs : Below D wr (wr.setCell ⟨g, k * 3, none⟩ (.int .i64 (x + 3))) := (Below.refl D wr).setCell (p := ⟨g, k * 3, none⟩) hgD _
        have HF := Lib.hid (And.intro hset (And.intro (S.below hbs) (And.intro (bl.trans (hbs.mono hww)) (Nat.le_trans hD' hbs.size))))
        have HBL := Lib.hid bl
        clear hul hua hus hset hx0 O S bl hbs
        by_cases hbig : 1000000 < x + 3
        · go_wp2
          go_ret
          exact ⟨ret_bool (by first | rfl | simp), HBL.out⟩
        · have HA2 := Lib.hid (show ∀ i, i < k + 1 → Q.of l i + 3 ≤ 1000000 from fun i hi => by
            rcases Nat.lt_or_ge i k with h | h
            · exact HALL.out i h
            · obtain rfl : i = k := by omega
              rw [HX.out]; omega)
          go_wp2
          go_roundw
          case rel => exact ⟨k + 1, by omega, by go_num, HF.out.1, HF.out.2.1, HF.out.2.2.1, HF.out.2.2.2, HA2.out⟩
          case measure => simp [intOf]; omega
      · have hkl : k = l.length := by omega
        rw [hkl, upq_all] at O
        rw [hkl] at HALL
        obtain ⟨hv', hj', hm'⟩ := HFIN.out HALL.out
        have hMS := (O.sms (by rw [mpq_len]; omega)).1
        rw [mpq_len] at hMS
        have S5 := S.more hD'
        have hj2 := hj'
        have hm2 := hm'
        generalize mpq (· + 3) l = Y at *
        have kj := fun w' (h : Sms w'.heap.size w' (some ⟨g, 0, none⟩) l.length Y) => JF_impl _ l.length c4 (some ⟨g, 0, none⟩) Y w' h (Nat.le_refl _)
        have km := fun w' (h : Sms w'.heap.size w' (some ⟨g, 0, none⟩) l.length Y) => MD_impl _ l.length c4 (some ⟨g, 0, none⟩) Y w' h (Nat.le_refl _)
        simp only [Q.jf_yes hv', hj2] at kj
        simp only [hm2] at km
        have KJ := Lib.hid kj
        have KM := Lib.hid km
        have e1 : IntKind.i64.wrap (M + 3) = M + 3 := IntWalk.i64_in _ (by omega)
        clear kj km hj2 hm2 hv' hj' hm' O S hkl
        go_wp2_with fail
        refine (KJ.out _ hMS).mono ?_
        rintro e w5 ⟨rfl, b5⟩
        have S6 := (S5.below b5).more b5.size
        have M6 := (hMS.below b5).more b5.size
        have bl6 := bl.trans (b5.mono bl.size)
        clear S5 hMS bl b5 KJ
        go_wp2_with fail
        refine (KM.out _ M6).mono ?_
        rintro e w6 ⟨rfl, b6⟩
        have S7 := (S6.below b6).more b6.size
        have bl7 := bl6.trans (b6.mono bl6.size)
        clear S6 M6 bl6 b6 KM
        go_wp2_with fail
        refine (K3.out _ S7).mono ?_
        rintro e w7 ⟨rfl, b7⟩
        have HB := Lib.hid (bl7.trans (b7.mono bl7.size))
        clear S7 bl7 b7
        go_wp2
        go_ret
        exact ⟨ret_bool (by first | rfl | (simp; done)), HB.out⟩

/-! ### THE ROW's STEP: WRITTEN OUT: LEAVE IT -/
set_option maxRecDepth 100000 in
theorem lifted (os : Os) (started : os.Started) (H : Type) (enc : TypeId × Value → H) :
    ReturnsInHanded {} Try.checked os 4 .any (Rows.fnJitterOfShiftSpec.pre6 enc Try.prog Try.f4 Rows.fnJitterOfShiftRow.domain false) (Rows.fnJitterOfShiftSpec.post enc Try.prog Try.f4 false true false false) := by
  refine returnsInHanded_of_change (C := Try.checked) own started (by kernel_rfl) Try.func4
    (ChangeSpec.witness6 (enc := enc) (C := Try.checked) false ⟨#[], #[.slice none 0 0], []⟩ 8 (by kernel_rfl) (by kernel_rfl) (by kernel_rfl) (by kernel_rfl)) ?_
  intro W base args ds gs before hval0 hW hcnd _
  have hval : ∀ (j : Nat) t v, Try.f4.params[j]? = some t → args[j]? = some v → Value.okWide Try.prog W .any base t v := hval0
  have hW' := hW
  obtain ⟨p, q, hA0, hV, rfl, hfz, hnd⟩ := hW
  have hA : DataW.TrodAll enc Try.prog W 0 (fun _ => true) true Try.f4.params.toList args.toList ds p := hA0
  rw [Try.params4] at hA hval
  obtain ⟨v0, vs0, d0, ds0, p0, q0, hargs, rfl, rfl, h0, r0⟩ := trodAll_cons hA
  obtain ⟨rfl, rfl, rfl⟩ := trodAll_nil r0
  obtain rfl : args = #[v0] := by cases args; simp_all
  obtain ⟨rfl, rfl⟩ := trodVars_none hV
  obtain ⟨a0, len0, cap0, rfl⟩ := okWide_slice Try.underlying22 (hval 0 22 v0 rfl rfl)
  have k0 := h0
  have lt0 : ∀ x ∈ p0, x.block < W.heap.size := by obtain ⟨m, hm⟩ := k0; exact DataW.trod_lt m _ _ _ hm
  obtain ⟨z0, w0⟩ : ∃ zs, IsRow .u8 W a0 len0 cap0 zs := by
    obtain ⟨fuel, hf⟩ := h0
    rcases open_ints Try.underlying22 Try.underlying5 (by kernel_rfl) hf with ⟨hcs, _⟩ | ⟨x, l, c, zs, hcs, _, hl, hm, hz, _, hcell, hwz⟩
    · simp [Value.cells] at hcs
      obtain ⟨rfl, rfl, rfl⟩ := hcs
      exact ⟨[], .inl ⟨rfl, rfl, rfl, rfl⟩⟩
    · simp [Value.cells] at hcs
      obtain ⟨rfl, rfl, rfl⟩ := hcs
      exact ⟨zs, .inr ⟨_, rfl, hl, hm, by simpa using hz, hcell, hwz⟩⟩
  clear hA0 hval0
  refine (walk a0 len0 cap0 z0 W w0).mono fun e W' ⟨he, bel⟩ => ?_
  subst he
  exact ⟨_, rfl, _, _, _, [], _, [], hW', trodAll_mk1 (shut_bool Try.underlying4 _), (trodAll_cons_mk (Below.trod laidOut (by kernel_rfl) (of_decide_eq_true (by kernel_rfl)) k0 bel lt0) trodAll_mk0), rfl, bel.frame _, fun h => by cases h⟩

theorem over : Rows.fnJitterOfShiftRow.holds Try.pinned (OpenSpec.ofChange Rows.fnJitterOfShiftSpec) :=
  OpenClaim.holds_of_wide 4 Try.f4 rfl rfl rfl rfl rfl rfl rfl ⟨rfl, rfl, rfl, rfl, rfl⟩ rfl rfl rfl rfl rfl (by kernel_rfl) Try.func4 (by kernel_rfl)
    (of_decide_eq_true (by kernel_rfl)) (by unfold Func.isWrapper; first | (rw [if_pos (by decide +kernel)]; kernel_rfl) | (rw [if_neg (by decide +kernel)]; exact ⟨rfl, rfl⟩))
    (fun os started H enc _ => lifted os started H enc)

/-- ████ THE STATEMENT ████ -/
theorem proved : Rows.FnJitterOfShiftSaid := over
#print axioms proved
end Go.Proofs.Ytcbahomohlaakaa.fnJitterOfShift
