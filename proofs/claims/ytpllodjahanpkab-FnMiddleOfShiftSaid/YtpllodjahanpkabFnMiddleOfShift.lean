/-
  PROVED: FnMiddleOfShift: for every input the law returns true, and the input reads as it did. No condition.
  The frame is as the kit prints it (proof-skeleton.mjs); the walk is mine.
-/
import Derived.Test.YtpllodjahanpkabRows
import Derived.Test.YtpllodjahanpkabSt
import Derived.Test.YtpllodjahanpkabIAg
import Derived.Test.YtpllodjahanpkabDrawV
import Derived.WalkKit
import Derived.WalkSpells
import Derived.Deep.AppendLies
import Derived.Deep.RegionHeld3
import Derived.ProofKit
import Derived.OpenShut
import Derived.ShutString
import Derived.ChangeOld
import Derived.Below
namespace Go.Proofs.Ytpllodjahanpkab.fnMiddleOfShift
open Go.ChangeShapes Go.WideShapes Go.ChangeAt Go.RowKit
open Go.ChangeMaps (open_string shut_string)
set_option linter.unusedVariables false

theorem own : ownKnob Try.prog.godebug = none := by kernel_rfl
theorem laidOut : laidOutB Try.prog = true := by kernel_rfl

/-- WHAT THE WALK IS TOLD OF A SLICE OF INTEGERS THAT CAME IN: it is nil; or it leads to a row of 'cap' cells, the numbers 'zs' (the first 'len' are its elements, the rest its spare room), each fitting its kind. -/
def IsRow (k : IntKind) (w : World) (a : Option Addr) (len cap : Nat) (zs : List Int) : Prop :=
  (a = none ∧ len = 0 ∧ cap = 0 ∧ zs = []) ∨
  ∃ x, a = some x ∧ len ≤ cap ∧ cap ≤ maxLen ∧ zs.length = cap ∧ (∀ i, i < zs.length → w.cell? (x.add i) = some (.int k (zs.getD i 0))) ∧ ∀ n ∈ zs, (Lit.int k n).wf = true

/-! ### STEP 1: THE WALK: the Go text returns true, AND WRITES NOTHING THAT WAS THERE: 'Below w.heap.size w w'' (Derived/Below.lean: '.refl', '.alloc', '.drew', '.setCell' at a new block, '.trans'). Open each 'IsRow' by 'rcases' AHEAD of 'go_enter'; part every test ahead of the walk. -/
theorem prs_sps {T : TypeId} {B : Nat} {w : World} {a : Option Addr} {c : Nat} {l : List (Int × Int)} (h : Prs T B w a c l) (hl : l.length ≤ 1048576) : Sps w.heap.size w a l.length l := by
  rcases Nat.eq_zero_or_pos l.length with h0 | h0
  · exact ⟨rfl, hl, .inl h0⟩
  · obtain ⟨g, e, _, hlt, hc⟩ := h.form h0
    refine ⟨rfl, hl, .inr ⟨g, 0, e, hlt, fun i hi => ?_⟩⟩
    rw [Nat.zero_add]; exact (hc i hi).1
set_option maxRecDepth 100000 in
set_option maxHeartbeats 8000000 in
theorem walk (a0 : Option Addr) (len0 cap0 : Nat) (z0 : List Int) (w : World) (w0 : IsRow .u8 w a0 len0 cap0 z0) :
    Calls Try.prog 4 #[.slice a0 len0 cap0] w fun e w' => e = .returned (.bool true) ∧ Below w.heap.size w w' := by
  by_cases hl : 1048576 < len0
  · have hl' : (1048576 : Int) < (len0 : Int) := by omega
    clear w0 hl
    go_enter Try.func4, Try.ntmps4
    go_wp2
    go_ret
    exact ⟨rfl, Below.refl _ _⟩
  have hl' : ¬ (1048576 : Int) < (len0 : Int) := by omega
  obtain ⟨hc, hcap⟩ := code_of w0 (by omega)
  clear w0 hl
  go_enter Try.func4, Try.ntmps4
  go_wp2_with fail
  refine (DrawMiddleOf_any w a0 len0 cap0 hc hcap).mono ?_
  rintro e w1 ⟨a, c, l, rfl, hl8, hlc, hcm, hS, hsm, bl, hfr⟩
  clear hc hcap
  have st := St.mk hS bl
  clear hS bl hfr hcm
  have HSM := Lib.hid hsm
  clear hsm
  have hbd := V.r_bd l
  obtain ⟨i0, hi0, hz0, hz1, hz2⟩ := info_parts span_info
  have hI := Lib.hid hi0
  have hZ0 := Lib.hid hz0
  have hZ1 := Lib.hid hz1
  have hZ2 := Lib.hid hz2
  clear hi0 hz0 hz1 hz2
  rcases hv : V.agB l with _ | _
  · go_wp2_with (first | (go_at_call 17; refine (MO_impl _ _ _ _ _ _ (St.here (by first | assumption | exact St.al (by assumption) _ | exact St.al (St.al (by assumption) _) _ | exact St.dr (by assumption) _)) (Nat.le_refl _)).mono ?_; rintro e w' ⟨rfl, hb⟩; have st' := St.b (by first | assumption | exact St.al (by assumption) _ | exact St.al (St.al (by assumption) _) _ | exact St.dr (by assumption) _) hb) | (go_at_call 18; refine (MO_spec _ _ _ _ _ _ (St.here (by first | assumption | exact St.al (by assumption) _ | exact St.al (St.al (by assumption) _) _ | exact St.dr (by assumption) _)) (Nat.le_refl _)).mono ?_; rintro e w' ⟨rfl, hb⟩; have st' := St.b (by first | assumption | exact St.al (by assumption) _ | exact St.al (St.al (by assumption) _) _ | exact St.dr (by assumption) _) hb))
    go_ret
    exact ⟨ret_bool (by simp), St.bel (by assumption)⟩
  · have e1 := V.mid_yes hv
    have e2 := V.r_yes hv
    have m0 : -1000000 ≤ V.mid l := by omega
    have m1 : V.mid l ≤ 1000000 := by omega
    have HSH := Lib.hid (fun h => V.sh_mid hv h)
    clear e1 e2 hbd
    go_wp2_with fail
    refine (MO_impl _ _ _ _ _ _ (st).here (Nat.le_refl _)).mono ?_
    rintro e w2 ⟨rfl, b2⟩
    have st2 := (st).b b2
    clear st b2
    go_wp2_with fail
    refine (MO_spec _ _ _ _ _ _ (st2).here (Nat.le_refl _)).mono ?_
    rintro e w3 ⟨rfl, b3⟩
    have st3 := (st2).b b3
    clear st2 b3
    have P0 : Prs 27 w3.heap.size (w3.alloc (.cells #[] 27)) (some ⟨w3.heap.size, 0, none⟩) 0 [] := World.ownsRow_made _ #[] 0 (Nat.le_refl _) (by unfold maxLen; omega) rfl
    have S0 := st3.here.below ((Below.refl _ _).alloc (Nat.le_refl _) (Obj.cells #[] 27))
    have bl0 := st3.bel.alloc st3.bel.size (Obj.cells #[] 27)
    have hwG := st3.bel.size
    have HH := Lib.hid (And.intro P0 (And.intro S0 bl0))
    clear P0 S0 bl0 st3
    go_wp2
    have hG : w3.heap.size ≤ (w3.alloc (.cells #[] 27)).heap.size := by rw [World.size_alloc]; omega
    generalize w3.heap.size = G at *
    go_loopw [8, 9] (fun o i wr => ∃ (a' : Option Addr) (c' k : Nat), k ≤ l.length ∧ i = .int .i64 k ∧ o = .slice a' (V.sh (l.take k)).length c' ∧ Prs 27 G wr a' c' (V.sh (l.take k)) ∧ Sps G wr a l.length l ∧ Below w.heap.size w wr ∧ G ≤ wr.heap.size ∧ (∀ j, j < k → V.hi l j + 4 ≤ 1000000)) (fun _ i _ => l.length - (intOf i).toNat)
    case atStart => exact ⟨some ⟨G, 0, none⟩, 0, 0, Nat.zero_le _, rfl, rfl, HH.out.1, HH.out.2.1, HH.out.2.2, hG, fun j hj => by omega⟩
    case round =>
      obtain ⟨a', c', k, hk, rfl, rfl, hP, hS4, bl4, hGr, hj⟩ := hrel
      have HJ := Lib.hid hj
      clear HH hj
      by_cases hlt : k < l.length
      · obtain ⟨b, off, rfl, hb, hc⟩ := hS4.at_ k hlt
        have c0 := (hc k hlt).1
        have c1 := (hc k hlt).2
        have hsmk := HSM.out k hlt
        have hxl : (V.sh (l.take k)).length ≤ 8 := by rw [V.sh_len, List.length_take]; omega
        have HE := Lib.hid (V.sh_take l k hlt)
        have HQ := Lib.hid (And.intro hP (And.intro hS4 bl4))
        clear hc hP hS4 bl4
        by_cases hbig : 1000000 < V.hi l k + 4
        · have blx := HQ.out.2.2
          go_wp2
          go_ret
          exact ⟨ret_bool (by first | rfl | simp), blx⟩
        · have hm1 : V.hi l k + 4 ≤ 1000000 := by omega
          generalize hX : V.sh (l.take k) = X at *
          have w1' : IntKind.i64.wrap (V.lo l k + 4) = V.lo l k + 4 := IntWalk.i64_in _ (by omega)
          have w2' : IntKind.i64.wrap (V.hi l k + 4) = V.hi l k + 4 := IntWalk.i64_in _ (by omega)
          have hk0 : (0 : Int) ≤ (k : Int) := by omega
          have hk1 : (k : Int) < (l.length : Int) := by omega
          have hbr : b < wr.heap.size := by omega
          go_wp2_with fail
          go_region_held3 (fun w' => w'.cell? ⟨b, off + k * 2, none⟩ = some (.int .i64 (V.lo l k)) ∧ w'.cell? ⟨b, off + k * 2 + 1, none⟩ = some (.int .i64 (V.hi l k)))
            (first | exact ⟨e0, e1⟩ | go_keep)
            (first | (refine step_append_lies _ (by rfl) _ _ 23 (by rfl) G 27 i0 (.agg #[.int .i64 0, .int .i64 0]) 2 16 Try.underlying23 hI.out hZ0.out hZ1.out hZ2.out (by rfl) (by decide) (.slice a' X.length c') X.length (v2 X) (by rfl) (World.ownsRow.alloc HQ.out.1 _) ⟨wr.heap.size, 0, none⟩ 1 1 [.int .i64 (V.lo l k + 4), .int .i64 (V.hi l k + 4)] (by rfl) (by rfl) (World.news_of_block (heap_alloc_new _ _)) (by intro u hu; simp at hu; rcases hu with rfl | rfl <;> rfl) (by decide) (by unfold maxLen; omega) (by omega) (by simp; omega) (wr.heap.size + 1) (by simp) ?_; intro g5 cap5 w5 own5 hg5 hat5 hlt5; have q5 : Below G wr w5 := Below.grown (((Below.refl G wr).alloc hGr (Obj.cells #[.int .i64 (V.lo l k + 4), .int .i64 (V.hi l k + 4)] 27)).drew) hg5 (by simp; omega) (fun j hj => (World.ownsRow.lt HQ.out.1 j hj).1); have e0 := (q5.cell (p := ⟨b, off + k * 2, none⟩) hb).trans c0; have e1 := (q5.cell (p := ⟨b, off + k * 2 + 1, none⟩) hb).trans c1))
          have P5 : Prs 27 G w5 (some ⟨g5, 0, none⟩) cap5 (V.sh (l.take (k + 1))) := by
            unfold Prs
            rw [HE.out, List.length_append, ← v2_snoc]
            exact own5
          have hlen : (V.sh (l.take (k + 1))).length = X.length + 1 := by rw [HE.out]; simp
          have HF := Lib.hid (And.intro P5 (And.intro (HQ.out.2.1.below q5) (And.intro (HQ.out.2.2.trans (q5.mono hwG)) (Nat.le_trans hGr q5.size))))
          clear P5 q5 e0 e1 own5 hg5 hat5 hlt5 w1' w2'
          go_wp2
          go_roundw
          case rel => exact ⟨some ⟨g5, 0, none⟩, cap5, k + 1, by omega, by go_num, by rw [hlen], HF.out.1, HF.out.2.1, HF.out.2.2.1, HF.out.2.2.2, fun j hj => (by
            rcases Nat.lt_or_ge j k with h | h
            · exact HJ.out j h
            · obtain rfl : j = k := by omega
              exact hm1)⟩
          case measure => simp [intOf]; omega
      · obtain rfl : k = l.length := by omega
        obtain ⟨hag, hmid⟩ := HSH.out (fun i hi => HJ.out i hi)
        rw [List.take_length] at hP
        have hlen : (V.sh (l.take l.length)).length = (V.sh l).length := by rw [List.take_length]
        rw [hlen]
        have hsp := prs_sps hP (by rw [V.sh_len]; omega)
        have HA := Lib.hid (And.intro hag hmid)
        clear hP hlen hag hmid hS4
        generalize V.sh l = r at *
        go_wp2_with fail
        refine (MO_impl _ _ _ _ _ _ hsp (Nat.le_refl _)).mono ?_
        rw [HA.out.1, HA.out.2]
        rintro e w5 ⟨rfl, b5⟩
        have bl5 := bl4.trans (b5.mono bl4.size)
        clear b5 bl4 hsp
        go_wp2
        go_ret
        exact ⟨ret_bool (by first | rfl | simp), bl5⟩

/-! ### THE ROW's STEP: WRITTEN OUT: LEAVE IT -/
set_option maxRecDepth 100000 in
theorem lifted (os : Os) (started : os.Started) (H : Type) (enc : TypeId × Value → H) :
    ReturnsInHanded {} Try.checked os 4 .any (Rows.fnMiddleOfShiftSpec.pre6 enc Try.prog Try.f4 Rows.fnMiddleOfShiftRow.domain false) (Rows.fnMiddleOfShiftSpec.post enc Try.prog Try.f4 false true false false) := by
  refine returnsInHanded_of_change (C := Try.checked) own started (by kernel_rfl) Try.func4
    (ChangeSpec.witness6 (enc := enc) (C := Try.checked) false ⟨#[], #[.slice none 0 0], []⟩ 8 (by kernel_rfl) (by kernel_rfl) (by kernel_rfl) (by kernel_rfl)) ?_
  intro W base args ds gs before hval0 hW hcnd _
  have hval : ∀ (j : Nat) t v, Try.f4.params[j]? = some t → args[j]? = some v → Value.okWide Try.prog W .any base t v := hval0
  have hW' := hW
  obtain ⟨p, q, hA0, hV, rfl, hfz, hnd⟩ := hW
  have hA : DataW.TrodAll enc Try.prog W 0 (fun _ => true) true Try.f4.params.toList args.toList ds p := hA0
  rw [Try.params4] at hA hval
  obtain ⟨v0, vs0, d0, ds0, p0, q0, hargs, rfl, rfl, h0, r0⟩ := trodAll_cons hA
  obtain ⟨rfl, rfl, rfl⟩ := trodAll_nil r0
  obtain rfl : args = #[v0] := by cases args; simp_all
  obtain ⟨rfl, rfl⟩ := trodVars_none hV
  obtain ⟨a0, len0, cap0, rfl⟩ := okWide_slice Try.underlying22 (hval 0 22 v0 rfl rfl)
  have k0 := h0
  have lt0 : ∀ x ∈ p0, x.block < W.heap.size := by obtain ⟨m, hm⟩ := k0; exact DataW.trod_lt m _ _ _ hm
  obtain ⟨z0, w0⟩ : ∃ zs, IsRow .u8 W a0 len0 cap0 zs := by
    obtain ⟨fuel, hf⟩ := h0
    rcases open_ints Try.underlying22 Try.underlying5 (by kernel_rfl) hf with ⟨hcs, _⟩ | ⟨x, l, c, zs, hcs, _, hl, hm, hz, _, hcell, hwz⟩
    · simp [Value.cells] at hcs
      obtain ⟨rfl, rfl, rfl⟩ := hcs
      exact ⟨[], .inl ⟨rfl, rfl, rfl, rfl⟩⟩
    · simp [Value.cells] at hcs
      obtain ⟨rfl, rfl, rfl⟩ := hcs
      exact ⟨zs, .inr ⟨_, rfl, hl, hm, by simpa using hz, hcell, hwz⟩⟩
  clear hA0 hval0
  refine (walk a0 len0 cap0 z0 W w0).mono fun e W' ⟨he, bel⟩ => ?_
  subst he
  exact ⟨_, rfl, _, _, _, [], _, [], hW', trodAll_mk1 (shut_bool Try.underlying4 _), (trodAll_cons_mk (Below.trod laidOut (by kernel_rfl) (of_decide_eq_true (by kernel_rfl)) k0 bel lt0) trodAll_mk0), rfl, bel.frame _, fun h => by cases h⟩

theorem over : Rows.fnMiddleOfShiftRow.holds Try.pinned (OpenSpec.ofChange Rows.fnMiddleOfShiftSpec) :=
  OpenClaim.holds_of_wide 4 Try.f4 rfl rfl rfl rfl rfl rfl rfl ⟨rfl, rfl, rfl, rfl, rfl⟩ rfl rfl rfl rfl rfl (by kernel_rfl) Try.func4 (by kernel_rfl)
    (of_decide_eq_true (by kernel_rfl)) (by unfold Func.isWrapper; first | (rw [if_pos (by decide +kernel)]; kernel_rfl) | (rw [if_neg (by decide +kernel)]; exact ⟨rfl, rfl⟩))
    (fun os started H enc _ => lifted os started H enc)

/-- ████ THE STATEMENT ████ -/
theorem proved : Rows.FnMiddleOfShiftSaid := over
#print axioms proved
end Go.Proofs.Ytpllodjahanpkab.fnMiddleOfShift
