/-
  PROVED: FnBestSampleJitter: for every input the law returns true, and the input reads as it did. No condition.
  The frame is as the kit prints it (proof-skeleton.mjs); the walk is mine.
-/
import Derived.Test.YtcbahomohlaakaaRows
import Derived.Test.YtcbahomohlaakaaShiftQ
import Derived.Test.YtcbahomohlaakaaISample
import Derived.Test.YtcbahomohlaakaaDrawQ
import Derived.WalkKit
import Derived.WalkSpells
import Derived.Deep.Cut
import Derived.ProofKit
import Derived.OpenShut
import Derived.ShutString
import Derived.ChangeOld
import Derived.Below
namespace Go.Proofs.Ytcbahomohlaakaa.fnBestSampleJitter
open Go.ChangeShapes Go.WideShapes Go.ChangeAt Go.RowKit
open Go.ChangeMaps (open_string shut_string)
set_option linter.unusedVariables false

theorem own : ownKnob Try.prog.godebug = none := by kernel_rfl
theorem laidOut : laidOutB Try.prog = true := by kernel_rfl

/-- WHAT THE WALK IS TOLD OF A SLICE OF INTEGERS THAT CAME IN: it is nil; or it leads to a row of 'cap' cells, the numbers 'zs' (the first 'len' are its elements, the rest its spare room), each fitting its kind. -/
def IsRow (k : IntKind) (w : World) (a : Option Addr) (len cap : Nat) (zs : List Int) : Prop :=
  (a = none ∧ len = 0 ∧ cap = 0 ∧ zs = []) ∨
  ∃ x, a = some x ∧ len ≤ cap ∧ cap ≤ maxLen ∧ zs.length = cap ∧ (∀ i, i < zs.length → w.cell? (x.add i) = some (.int k (zs.getD i 0))) ∧ ∀ n ∈ zs, (Lit.int k n).wf = true

/-! ### STEP 1: THE WALK: the Go text returns true, AND WRITES NOTHING THAT WAS THERE: 'Below w.heap.size w w'' (Derived/Below.lean: '.refl', '.alloc', '.drew', '.setCell' at a new block, '.trans'). Open each 'IsRow' by 'rcases' AHEAD of 'go_enter'; part every test ahead of the walk. -/
theorem cell_alQ {w : World} (o : Obj) {b j : Nat} {x : Value} (h : w.cell? ⟨b, j, none⟩ = some x) : (w.alloc o).cell? ⟨b, j, none⟩ = some x :=
  (((Below.refl w.heap.size w).alloc (Nat.le_refl _) o).cell (p := ⟨b, j, none⟩) (World.block_lt_of_cell? _ _ h)).trans h
/-- Samples with equal offsets. -/
theorem twelve {l : List Q.Sm} (hv : Q.vq l = true) : Q.vq (mpq (fun _ => 12) l) = true ∧ Q.jit (mpq (fun _ => 12) l) = 0 ∧ med (mpq (fun _ => 12) l) = 12 ∧ (ws (mpq (fun _ => 12) l) 0).length = l.length := by
  have h1 := (Q.vq_of hv).1
  have hv' : Q.vq (mpq (fun _ => 12) l) = true := vq_mpq hv (fun i hi => by show (-1000000 : Int) ≤ 12 ∧ (12 : Int) ≤ 1000000; omega)
  have hj : Q.jit (mpq (fun _ => 12) l) = 0 := by
    have hb := best_mpq' (f := (fun _ => 12)) hv
    unfold Q.jit
    rw [hb.1, mpq_len, (mpq_at _ l _ hb.2).1, sum_zero (fun i _ => rfl) _ (Nat.le_refl _)]
    exact Int.zero_ediv _
  have hm : med (mpq (fun _ => 12) l) = 12 := med_mpq (f := (fun _ => 12)) (fun _ _ _ => Int.le_refl _) hv hv'
  refine ⟨hv', hj, hm, ?_⟩
  rw [ws_yes (wok_yes ⟨hv', by omega, by omega⟩), hj, hm]
  unfold wk
  rw [List.take_length, List.filter_eq_self.2 (fun p hp => ?_), mpq_len]
  obtain ⟨q, _, rfl⟩ := List.mem_map.1 hp
  exact decide_eq_true (by show Q.abs (12 - 12) ≤ 3 * 0 + 0; decide)
set_option maxRecDepth 100000 in
set_option maxHeartbeats 16000000 in
theorem walk (a0 : Option Addr) (len0 cap0 : Nat) (z0 : List Int) (w : World) (w0 : IsRow .u8 w a0 len0 cap0 z0) :
    Calls Try.prog 9 #[.slice a0 len0 cap0] w fun e w' => e = .returned (.bool true) ∧ Below w.heap.size w w' := by
  by_cases hl : 1048576 < len0
  · have hl' : (1048576 : Int) < (len0 : Int) := by omega
    clear w0 hl
    go_enter Try.func9, Try.ntmps9
    go_wp2
    go_ret
    exact ⟨rfl, Below.refl _ _⟩
  have hl' : ¬ (1048576 : Int) < (len0 : Int) := by omega
  obtain ⟨hc, hcap⟩ := code_of w0 (by omega)
  clear w0 hl
  go_enter Try.func9, Try.ntmps9
  go_wp2_with fail
  refine (DrawBestSample_any w a0 len0 cap0 hc hcap).mono ?_
  rintro e w1 ⟨a, c, l, rfl, hl9, hlc, hcm, hS, hsm, bl, hfr⟩
  clear hc hcap
  have st := Sq.mk hS bl
  clear hS bl hfr hsm
  unfold maxLen at hcm
  go_wp2_with fail
  refine (BS_impl _ _ _ _ _ _ st.here (Nat.le_refl _)).mono ?_
  rintro e w2 ⟨rfl, b2⟩
  have st2 := (st.b b2).al (Obj.cells #[.int .i64 (Q.bo l), .int .i64 (Q.bd l), .int .i64 (Q.bt l)] 26)
  have x2 := B3.new w2 (Q.bo l) (Q.bd l) (Q.bt l) 26
  clear st b2
  go_wp2_with fail
  refine (BS_spec _ _ _ _ _ _ st2.here (Nat.le_refl _)).mono ?_
  rintro e w3 ⟨rfl, b3⟩
  have st3 := (st2.b b3).al (Obj.cells #[.int .i64 (Q.bo l), .int .i64 (Q.bd l), .int .i64 (Q.bt l)] 26)
  have c0 := (x2.b b3).c0
  have c1 := (x2.b b3).c1
  have c2 := (x2.b b3).c2
  have clt := (x2.b b3).lt
  clear st2 b3 x2
  rcases hv : Q.vq l with _ | _
  · go_wp2
    go_ret
    exact ⟨ret_bool (by first | rfl | simp), st3.bel⟩
  · have hTW := twelve hv
    have hl8 := (Q.vq_of hv).1.2
    have HTW := Lib.hid hTW
    clear hTW hv
    generalize Q.bo l = q0 at *
    generalize Q.bd l = q1 at *
    generalize Q.bt l = q2 at *
    have S3w := st3.here
    have bl3w := st3.bel
    have z0 : (w3.alloc (Obj.cells #[.int .i64 q0, .int .i64 q1, .int .i64 q2] 26)).cell? ⟨w2.heap.size, 0, none⟩ = some (.int .i64 q0) := cell_alQ _ c0
    have z1 : (w3.alloc (Obj.cells #[.int .i64 q0, .int .i64 q1, .int .i64 q2] 26)).cell? ⟨w2.heap.size, 1, none⟩ = some (.int .i64 q1) := cell_alQ _ c1
    have z2 : (w3.alloc (Obj.cells #[.int .i64 q0, .int .i64 q1, .int .i64 q2] 26)).cell? ⟨w2.heap.size, 2, none⟩ = some (.int .i64 q2) := cell_alQ _ c2
    clear st3
    go_upto_region 8 with (fail)
    clear c0 c1 c2 z0 z1 z2
    generalize w3.alloc (Obj.cells #[.int .i64 q0, .int .i64 q1, .int .i64 q2] 26) = w3 at *
    have S3 := S3w
    have bl3 := bl3w
    clear S3w bl3w
    have O3 := OwQ.made w3
    have al3 := (Below.refl w3.heap.size w3).alloc (Nat.le_refl _) (.cells #[] 26)
    have S3' := S3.below al3
    have hle3 : w3.heap.size ≤ (w3.alloc (.cells #[] 26)).heap.size := al3.size
    go_wp2_with (at_builtin; refine wpList_q rfl _ _ rfl w3.heap.size rfl rfl O3 S3' (by show 0 + _ ≤ _; omega) hle3 l (List.nil_append l) ?_)
    intro a4 c4 w4 O4 b4 _
    have S4 := S3'.below b4
    have bl4 := bl3.trans ((al3.trans b4).mono bl3.size)
    have hD : w3.heap.size ≤ w4.heap.size := (al3.trans b4).size
    have O4 : OwQ w3.heap.size w4 a4 c4 (upq (fun _ => 12) l 0) := by rw [upq_zero]; exact O4
    have hww : w.heap.size ≤ w3.heap.size := bl3.size
    clear O3 al3 S3' b4 S3 bl3 hle3
    generalize w3.heap.size = D at *
    obtain ⟨g, cap, ge, hgD, _⟩ := World.ownsRow.form (show w4.ownsRow D 26 3 (.slice a4 (upq (fun _ => 12) l 0).length c4) (upq (fun _ => 12) l 0).length (v3 (upq (fun _ => 12) l 0)) from O4) (by rw [upq_zero]; omega)
    injection ge with ge1 ge2 ge3
    subst ge1
    clear ge2 ge3
    go_wp2_with fail
    go_loopw [9] (fun i wr => ∃ k : Nat, k ≤ l.length ∧ i = .int .i64 k ∧ OwQ D wr (some ⟨g, 0, none⟩) c4 (upq (fun _ => 12) l k) ∧ Sms D wr a l.length l ∧ Below w.heap.size w wr ∧ D ≤ wr.heap.size) (fun i _ => l.length - (intOf i).toNat)
    case atStart => exact ⟨0, Nat.zero_le _, rfl, O4, S4, bl4, hD⟩
    case round =>
      obtain ⟨k, hk, rfl, O, S, bl, hD'⟩ := hrel
      clear O4 S4 bl4 hD
      by_cases hlt : k < l.length
      · have hul := upq_len (fun _ => 12) l k hk
        have hua := upq_at (fun _ => 12) l k hlt
        have hus := upq_set (fun _ => 12) l k hlt
        have hcell := World.ownsRow.cellAt O (k * 3) (by omega)
        rw [(v3_get (upq (fun _ => 12) l k) k (by omega)).1, hua.1] at hcell
        have hfro := World.ownsRow.frozenAt O (k * 3)
        have hset := O.set1 (j := k) (x := 12) (by omega)
        rw [hus] at hset
        have hbs : Below D wr (wr.setCell ⟨g, k * 3, none⟩ (.int .i64 12)) := (Below.refl D wr).setCell (p := ⟨g, k * 3, none⟩) hgD _
        have HF := Lib.hid (And.intro hset (And.intro (S.below hbs) (And.intro (bl.trans (hbs.mono hww)) (Nat.le_trans hD' hbs.size))))
        clear hul hua hus hset O S bl hbs
        go_wp2
        go_roundw
        case rel => exact ⟨k + 1, by omega, by go_num, HF.out.1, HF.out.2.1, HF.out.2.2.1, HF.out.2.2.2⟩
        case measure => simp [intOf]; omega
      · have hkl : k = l.length := by omega
        rw [hkl, upq_all] at O
        obtain ⟨hv', hj2, hm2, hw2⟩ := HTW.out
        have hMS := (O.sms (by rw [mpq_len]; omega)).1
        rw [mpq_len] at hMS
        have S5 := S.more hD'
        generalize mpq (fun _ => 12) l = Y at *
        have kj := fun w' (h : Sms w'.heap.size w' (some ⟨g, 0, none⟩) l.length Y) => JF_impl _ l.length c4 (some ⟨g, 0, none⟩) Y w' h (Nat.le_refl _)
        have km := fun w' (h : Sms w'.heap.size w' (some ⟨g, 0, none⟩) l.length Y) => MD_impl _ l.length c4 (some ⟨g, 0, none⟩) Y w' h (Nat.le_refl _)
        have kw := fun w' (h : Sms w'.heap.size w' (some ⟨g, 0, none⟩) l.length Y) => WS_impl l.length c4 (some ⟨g, 0, none⟩) Y 0 w' h
        simp only [Q.jf_yes hv', hj2] at kj
        simp only [hm2] at km
        generalize ws Y 0 = Z at *
        have HW2 := Lib.hid hw2
        have KJ := Lib.hid kj
        have KM := Lib.hid km
        have KW := Lib.hid kw
        clear kj km kw hj2 hm2 hv' O S hkl hw2 HTW
        go_wp2_with fail
        refine (KJ.out _ hMS).mono ?_
        rintro e w5 ⟨rfl, b5⟩
        have M6 := (hMS.below b5).more b5.size
        have bl6 := bl.trans (b5.mono bl.size)
        clear S5 hMS bl b5 KJ
        go_wp2_with fail
        refine (KM.out _ M6).mono ?_
        rintro e w6 ⟨rfl, b6⟩
        have M7 := (M6.below b6).more b6.size
        have bl7 := bl6.trans (b6.mono bl6.size)
        clear M6 bl6 b6 KM
        go_wp2_with fail
        refine (KW.out _ M7).mono ?_
        rintro e w7 ⟨a7, c7, rfl, O7, b7⟩
        rw [HW2.out]
        have HB := Lib.hid (bl7.trans (b7.mono bl7.size))
        clear M7 bl7 b7 O7
        go_wp2
        go_ret
        exact ⟨ret_bool (by first | rfl | (simp; done)), HB.out⟩

/-! ### THE ROW's STEP: WRITTEN OUT: LEAVE IT -/
set_option maxRecDepth 100000 in
theorem lifted (os : Os) (started : os.Started) (H : Type) (enc : TypeId × Value → H) :
    ReturnsInHanded {} Try.checked os 9 .any (Rows.fnBestSampleJitterSpec.pre6 enc Try.prog Try.f9 Rows.fnBestSampleJitterRow.domain false) (Rows.fnBestSampleJitterSpec.post enc Try.prog Try.f9 false true false false) := by
  refine returnsInHanded_of_change (C := Try.checked) own started (by kernel_rfl) Try.func9
    (ChangeSpec.witness6 (enc := enc) (C := Try.checked) false ⟨#[], #[.slice none 0 0], []⟩ 8 (by kernel_rfl) (by kernel_rfl) (by kernel_rfl) (by kernel_rfl)) ?_
  intro W base args ds gs before hval0 hW hcnd _
  have hval : ∀ (j : Nat) t v, Try.f9.params[j]? = some t → args[j]? = some v → Value.okWide Try.prog W .any base t v := hval0
  have hW' := hW
  obtain ⟨p, q, hA0, hV, rfl, hfz, hnd⟩ := hW
  have hA : DataW.TrodAll enc Try.prog W 0 (fun _ => true) true Try.f9.params.toList args.toList ds p := hA0
  rw [Try.params9] at hA hval
  obtain ⟨v0, vs0, d0, ds0, p0, q0, hargs, rfl, rfl, h0, r0⟩ := trodAll_cons hA
  obtain ⟨rfl, rfl, rfl⟩ := trodAll_nil r0
  obtain rfl : args = #[v0] := by cases args; simp_all
  obtain ⟨rfl, rfl⟩ := trodVars_none hV
  obtain ⟨a0, len0, cap0, rfl⟩ := okWide_slice Try.underlying22 (hval 0 22 v0 rfl rfl)
  have k0 := h0
  have lt0 : ∀ x ∈ p0, x.block < W.heap.size := by obtain ⟨m, hm⟩ := k0; exact DataW.trod_lt m _ _ _ hm
  obtain ⟨z0, w0⟩ : ∃ zs, IsRow .u8 W a0 len0 cap0 zs := by
    obtain ⟨fuel, hf⟩ := h0
    rcases open_ints Try.underlying22 Try.underlying5 (by kernel_rfl) hf with ⟨hcs, _⟩ | ⟨x, l, c, zs, hcs, _, hl, hm, hz, _, hcell, hwz⟩
    · simp [Value.cells] at hcs
      obtain ⟨rfl, rfl, rfl⟩ := hcs
      exact ⟨[], .inl ⟨rfl, rfl, rfl, rfl⟩⟩
    · simp [Value.cells] at hcs
      obtain ⟨rfl, rfl, rfl⟩ := hcs
      exact ⟨zs, .inr ⟨_, rfl, hl, hm, by simpa using hz, hcell, hwz⟩⟩
  clear hA0 hval0
  refine (walk a0 len0 cap0 z0 W w0).mono fun e W' ⟨he, bel⟩ => ?_
  subst he
  exact ⟨_, rfl, _, _, _, [], _, [], hW', trodAll_mk1 (shut_bool Try.underlying4 _), (trodAll_cons_mk (Below.trod laidOut (by kernel_rfl) (of_decide_eq_true (by kernel_rfl)) k0 bel lt0) trodAll_mk0), rfl, bel.frame _, fun h => by cases h⟩

theorem over : Rows.fnBestSampleJitterRow.holds Try.pinned (OpenSpec.ofChange Rows.fnBestSampleJitterSpec) :=
  OpenClaim.holds_of_wide 9 Try.f9 rfl rfl rfl rfl rfl rfl rfl ⟨rfl, rfl, rfl, rfl, rfl⟩ rfl rfl rfl rfl rfl (by kernel_rfl) Try.func9 (by kernel_rfl)
    (of_decide_eq_true (by kernel_rfl)) (by unfold Func.isWrapper; first | (rw [if_pos (by decide +kernel)]; kernel_rfl) | (rw [if_neg (by decide +kernel)]; exact ⟨rfl, rfl⟩))
    (fun os started H enc _ => lifted os started H enc)

/-- ████ THE STATEMENT ████ -/
theorem proved : Rows.FnBestSampleJitterSaid := over
#print axioms proved
end Go.Proofs.Ytcbahomohlaakaa.fnBestSampleJitter
