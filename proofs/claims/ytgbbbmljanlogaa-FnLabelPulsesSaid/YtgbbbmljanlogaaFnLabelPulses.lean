/-
  PROVED: FnLabelPulses: for every input the law returns true, and the input reads as it did. No condition.
  The frame is as the kit prints it (proof-skeleton.mjs); the walk is mine.
-/
import Derived.Test.YtgbbbmljanlogaaRows
import Derived.Test.YtgbbbmljanlogaaLabs
import Derived.Test.YtgbbbmljanlogaaDrawU
import Derived.Test.YtgbbbmljanlogaaEqLb
import Derived.Test.YtgbbbmljanlogaaSt
import Derived.Test.YtgbbbmljanlogaaJoin
import Derived.WalkKit
import Derived.Deep.RegionHeld3
import Derived.BigQuiet
import Derived.ProofKit
import Derived.OpenShut
import Derived.ShutString
import Derived.ChangeOld
import Derived.Below
namespace Go.Proofs.Ytgbbbmljanlogaa.fnLabelPulses
open Go.ChangeShapes Go.WideShapes Go.ChangeAt Go.RowKit
open Go.ChangeMaps (open_string shut_string)
set_option linter.unusedVariables false

theorem own : ownKnob Try.prog.godebug = none := by kernel_rfl
theorem laidOut : laidOutB Try.prog = true := by kernel_rfl

/-- WHAT THE WALK IS TOLD OF A SLICE OF INTEGERS THAT CAME IN: it is nil; or it leads to a row of 'cap' cells, the numbers 'zs' (the first 'len' are its elements, the rest its spare room), each fitting its kind. -/
def IsRow (k : IntKind) (w : World) (a : Option Addr) (len cap : Nat) (zs : List Int) : Prop :=
  (a = none ∧ len = 0 ∧ cap = 0 ∧ zs = []) ∨
  ∃ x, a = some x ∧ len ≤ cap ∧ cap ≤ maxLen ∧ zs.length = cap ∧ (∀ i, i < zs.length → w.cell? (x.add i) = some (.int k (zs.getD i 0))) ∧ ∀ n ∈ zs, (Lit.int k n).wf = true

/-! ### STEP 1: THE WALK: the Go text returns true, AND WRITES NOTHING THAT WAS THERE: 'Below w.heap.size w w'' (Derived/Below.lean: '.refl', '.alloc', '.drew', '.setCell' at a new block, '.trans'). Open each 'IsRow' by 'rcases' AHEAD of 'go_enter'; part every test ahead of the walk. -/
theorem lp_src (ps : List Int) (ls : List (Int × Int)) : 0 < (G.lp ps ls).length → ∃ f : Nat → Nat, (∀ i, i < (G.lp ps ls).length → f i < ls.length ∧ V.hi ls (f i) = V.hi (G.lp ps ls) i ∧ (V.lo (G.lp ps ls) i ≤ V.lo ls (f i) ∧ V.lo ls (f i) ≤ V.lo (G.lp ps ls) i + 700000) ∧ (0 ≤ V.lo (G.lp ps ls) i ∧ V.lo (G.lp ps ls) i ≤ 100000000) ∧ ∃ j, j < ps.length ∧ L.g ps j = V.lo (G.lp ps ls) i) ∧ (∀ i j, i < j → j < (G.lp ps ls).length → f i < f j) := by
  intro h
  rcases hv : U.vp ps with _ | _
  · rw [G.lp_no1 hv] at h; simp at h
  rcases hk : G.vl ls with _ | _
  · rw [G.lp_no2 hk] at h; simp at h
  rw [G.lp_yes hv hk]
  obtain ⟨f, h1, h2⟩ := G.lbs_src ps ls ls.length
  refine ⟨f, fun i hi => ?_, h2⟩
  obtain ⟨a, b, c, e⟩ := h1 i hi
  obtain ⟨e1, e2, j, hj, e3⟩ := G.hit_in e
  have e4 := e.1
  have hr := last_rng hv (V.lo ls (f i)) ps.length (Nat.le_refl _)
  rw [c]
  exact ⟨a, b, ⟨e1, e2⟩, ⟨e4, hr.2⟩, j, hj, e3⟩
set_option maxRecDepth 100000 in
set_option maxHeartbeats 8000000 in
theorem walk (a0 : Option Addr) (len0 cap0 : Nat) (z0 : List Int) (w : World) (w0 : IsRow .u8 w a0 len0 cap0 z0) :
    Calls Try.prog 4 #[.slice a0 len0 cap0] w fun e w' => e = .returned (.bool true) ∧ Below w.heap.size w w' := by
  by_cases hl : 1048576 < len0
  · have hl' : (1048576 : Int) < (len0 : Int) := by omega
    clear w0 hl
    go_enter Try.func4, Try.ntmps4
    go_wp2
    go_ret
    exact ⟨rfl, Below.refl _ _⟩
  have hl' : ¬ (1048576 : Int) < (len0 : Int) := by omega
  obtain ⟨hc, hcap⟩ := code_of w0 (by omega)
  clear w0 hl
  go_enter Try.func4, Try.ntmps4
  go_wp2_with fail
  refine (DrawLabelPulses_any w a0 len0 cap0 hc hcap).mono ?_
  rintro e w1 ⟨a, n, c, ps, a', c', ls, rfl, hL, hn18, hnc, hcm, hl18, hlc, hcm', hS, bl⟩
  clear hc hcap
  have hdl := (G.lp_len ps ls).2
  have hdl1 := (G.lp_len ps ls).1
  have hF := lp_src ps ls
  have k1 := fun c c' a a' n m w' (h : Lst w'.heap.size w' a n ps) (g : Sps w'.heap.size w' a' m ls) => LP_impl n c m c' a a' ps ls w' h g
  have k2 := fun c c' a a' n m w' (h : Lst w'.heap.size w' a n ps) (g : Sps w'.heap.size w' a' m ls) => LP_spec n c m c' a a' ps ls w' h g
  obtain ⟨d, hd⟩ : ∃ d, G.lp ps ls = d := ⟨_, rfl⟩
  rw [hd] at hdl hdl1 hF k1 k2
  clear hd
  obtain ⟨q, hq⟩ : ∃ q, d.length = q := ⟨_, rfl⟩
  have HQ := Lib.hid hq
  rw [hq] at hdl hdl1 hF
  have K1 := Lib.hid k1
  have K2 := Lib.hid k2
  have HLC := Lib.hid hlc
  have HCM := Lib.hid hcm'
  clear k1 k2 hq hnc hcm hlc hcm'
  go_wp2_with fail
  refine (K1.out _ _ _ _ _ _ _ hL hS).mono ?_
  rintro e w2 ⟨a2, c2, rfl, N2, b2⟩
  have M2 := prs_sps' N2 (by have := HQ.out; omega)
  rw [HQ.out] at M2 ⊢
  have hL2 := lst_same hL b2 (Nat.le_refl _)
  have hS2 := hS.keepB b2
  have bl2 := bl.trans (b2.mono bl.size)
  clear N2 b2 bl hL hS
  go_wp2_with fail
  refine (K2.out _ _ _ _ _ _ _ hL2 hS2).mono ?_
  rintro e w3 ⟨a3, c3, rfl, N3, b3⟩
  have M3 := prs_sps' N3 (by have := HQ.out; omega)
  rw [HQ.out] at M3 ⊢
  have P3 := M2.keepB b3
  have hL3 := lst_same hL2 b3 (Nat.le_refl _)
  have hS3 := hS2.keepB b3
  have bl3 := bl2.trans (b3.mono bl2.size)
  clear N3 b3 bl2 hL2 hS2 M2
  go_wp2_with fail
  refine (equalLabels_any q c2 c3 _ a2 a3 d w3 P3 M3).mono ?_
  rintro e w4 ⟨rfl, q4⟩
  have bl4 := bel_same bl3 q4
  have hL4 := lst_same hL3 q4.below (Nat.le_refl _)
  have hS4 := hS3.keepB q4.below
  have P4 := P3.keepB q4.below
  clear q4 bl3 P3 M3 hL3 hS3
  by_cases h0 : q = 0
  · have h0' : ((q : Int) == 0) = true := by rw [beq_iff_eq]; omega
    clear h0 hF hdl1 hl18 hn18
    go_wp2_with fail
    refine (K2.out _ _ _ _ _ _ _ hL4 hS4).mono ?_
    rintro e w5 ⟨a5, c5, rfl, N5, b5⟩
    have M5 := prs_sps' N5 (by have := HQ.out; omega)
    rw [HQ.out] at M5 ⊢
    have P5 := P4.keepB b5
    have bl5 := bl4.trans (b5.mono bl4.size)
    clear N5 b5 bl4 hL4 hS4 P4
    go_wp2_with fail
    refine (equalLabels_any q c2 c5 _ a2 a5 d w5 P5 M5).mono ?_
    rintro e w6 ⟨rfl, q6⟩
    have HB := Lib.hid (bel_same bl5 q6)
    clear q6 bl5 P5 M5
    go_wp2
    go_ret
    exact ⟨ret_bool (by first | rfl | simp), HB.out⟩
  have h0' : ((q : Int) == 0) = false := by rw [beq_eq_false_iff_ne]; omega
  obtain ⟨f, hf1, hf2⟩ := hF (by omega)
  obtain ⟨nl, hnl⟩ : ∃ nl, ls.length = nl := ⟨_, rfl⟩
  rw [hnl] at hS4 hdl1 hf1 ⊢
  have hl18' : nl ≤ 18 := by omega
  have HN := Lib.hid hL4.1
  have HF1 := Lib.hid hf1
  have HF2 := Lib.hid hf2
  obtain ⟨b', off', rfl, _, _⟩ := hS4.at_ 0 (by omega)
  obtain ⟨b5, off5, rfl, _, _⟩ := P4.at_ 0 (by omega)
  have HB := Lib.hid bl4
  have HP := Lib.hid P4
  have HS := Lib.hid hS4
  have HL := Lib.hid hL4
  clear hF hf1 hf2 hnl hl18 hn18 P4 hS4 hL4 bl4
  go_wp2_with fail
  go_loopw [6, 7] (fun at_ i wr => ∃ k t : Nat, k ≤ q ∧ i = .int .i64 k ∧ at_ = .int .i64 t ∧ (k < q → t ≤ f k) ∧ Same w4 wr) (fun _ i _ => q - (intOf i).toNat)
  case atStart => exact ⟨0, 0, Nat.zero_le _, rfl, rfl, fun _ => Nat.zero_le _, Same.refl _⟩
  case round =>
    obtain ⟨k, t, hk, rfl, rfl, ht, hs⟩ := hrel
    by_cases hlt : k < q
    · have ht := ht hlt
      obtain ⟨x1, x2, x3, x4, j, hj, x6⟩ := HF1.out k hlt
      rw [HN.out] at hj
      have hnx : k + 1 < q → f k < f (k + 1) := fun h => HF2.out k (k + 1) (by omega) h
      generalize f k = F at *
      obtain ⟨D, hD⟩ : ∃ D, V.lo d k = D := ⟨_, rfl⟩
      obtain ⟨T, hT⟩ : ∃ T, V.hi d k = T := ⟨_, rfl⟩
      rw [hD] at x3 x4 x6
      rw [hT] at x2
      have HD := Lib.hid hD
      have HT := Lib.hid hT
      have HX := Lib.hid (And.intro x2 x3)
      have HJ := Lib.hid x6
      have HNX := Lib.hid hnx
      have hD0 := x4.1
      have hD1 := x4.2
      clear hD hT x2 x3 x4 x6 hnx
      go_wp2_with fail
      go_loopw [6] (fun at_ wr => ∃ t : Nat, at_ = .int .i64 t ∧ t ≤ F ∧ Same w4 wr) (fun at_ _ => nl - (intOf at_).toNat)
      case atStart => exact ⟨t, rfl, ht, hs⟩
      case round =>
        obtain ⟨u, rfl, hu, hs2⟩ := hrel
        clear hs ht
        obtain ⟨_, _, h1, _, hc5⟩ := (HP.out.same hs2).at_ 0 (by omega)
        injection h1 with h1
        injection h1 with h1 h2
        subst h1 h2
        obtain ⟨_, _, h1, _, hc6⟩ := (HS.out.same hs2).at_ 0 (by omega)
        injection h1 with h1
        injection h1 with h1 h2
        subst h1 h2
        have c0 := (hc6 u (by omega)).1
        have c1 := (hc6 u (by omega)).2
        have d0 := (hc5 k hlt).1
        have d1 := (hc5 k hlt).2
        rw [HD.out] at d0
        rw [HT.out] at d1
        have gl : u < nl := by omega
        have ge : (u == nl) = false := by rw [beq_eq_false_iff_ne]; omega
        have gn : ¬ u = nl := by omega
        have hu18 : u < 18 := by omega
        have HU : Hid (¬ (V.hi ls u = T ∧ D ≤ V.lo ls u ∧ V.lo ls u ≤ D + 700000) → u + 1 ≤ F) := Lib.hid (fun h => by
          rcases Nat.lt_or_ge u F with a | a
          · omega
          · obtain rfl : u = F := by omega
            exact absurd ⟨HX.out.1, HX.out.2⟩ h)
        have HS2 := Lib.hid hs2
        have HUF := Lib.hid hu
        generalize V.lo ls u = C at *
        generalize V.hi ls u = H at *
        clear hc5 hc6 hs2 hu
        by_cases e1 : H = T
        · have g1 : (H == T) = true := by rw [beq_iff_eq]; exact e1
          have g1a : decide (H = T) = true := by simpa using e1
          have g1b : (H != T) = false := by simpa using e1
          have g1c : decide (¬ H = T) = false := by simpa using e1
          have g1d : decide (H ≠ T) = false := by simpa using e1
          by_cases e2 : C < D
          · have g2 : decide (C < D) = true := by simpa using e2
            have HR : Hid (u + 1 ≤ F) := Lib.hid (HU.out (by omega))
            clear HU e1 e2
            go_wp2
            go_quiet (fail)
            go_wp2
            go_roundw
            case rel => exact ⟨u + 1, by go_num, HR.out, HS2.out.drewN _⟩
            case measure => simp [intOf]; omega
          · have g2 : decide (C < D) = false := by simpa using e2
            by_cases e3 : D + 700000 < C
            · have g3 : decide (D + 700000 < C) = true := by simpa using e3
              have HR : Hid (u + 1 ≤ F) := Lib.hid (HU.out (by omega))
              clear HU e1 e2 e3
              go_wp2
              go_quiet (fail)
              go_wp2
              go_roundw
              case rel => exact ⟨u + 1, by go_num, HR.out, HS2.out.drewN _⟩
              case measure => simp [intOf]; omega
            · have g3 : decide (D + 700000 < C) = false := by simpa using e3
              clear HU e1 e2 e3
              go_wp2
              go_quiet (fail)
              go_wp2_with (go_at_call 16; refine (isInL_yes _ n c j a ps D _ (HL.out.same (HS2.out.drewN _)) hj HJ.out).mono ?_; rintro e w7 ⟨rfl, q7⟩)
              have HS3 := Lib.hid ((HS2.out.drewN _).trans q7)
              clear q7
              go_wp2
              go_roundw
              case rel => exact ⟨k + 1, u + 1, by omega, by go_num, by go_num, fun h => by have := HNX.out h; have := HUF.out; omega, HS3.out⟩
              case measure => simp [intOf]; omega
        · have g1 : (H == T) = false := by rw [beq_eq_false_iff_ne]; exact e1
          have g1a : decide (H = T) = false := by simpa using e1
          have g1b : (H != T) = true := by simpa using e1
          have g1c : decide (¬ H = T) = true := by simpa using e1
          have g1d : decide (H ≠ T) = true := by simpa using e1
          have HR : Hid (u + 1 ≤ F) := Lib.hid (HU.out (by omega))
          clear HU e1
          go_wp2
          go_quiet (fail)
          go_wp2
          go_roundw
          case rel => exact ⟨u + 1, by go_num, HR.out, HS2.out.drewN _⟩
          case measure => simp [intOf]; omega
    · obtain rfl : k = q := by omega
      go_wp2
      go_ret
      exact ⟨ret_bool (by first | rfl | (simp; omega)), HB.out.trans (hs.below)⟩

/-! ### THE ROW's STEP: WRITTEN OUT: LEAVE IT -/
set_option maxRecDepth 100000 in
theorem lifted (os : Os) (started : os.Started) (H : Type) (enc : TypeId × Value → H) :
    ReturnsInHanded {} Try.checked os 4 .any (Rows.fnLabelPulsesSpec.pre6 enc Try.prog Try.f4 Rows.fnLabelPulsesRow.domain false) (Rows.fnLabelPulsesSpec.post enc Try.prog Try.f4 false true false false) := by
  refine returnsInHanded_of_change (C := Try.checked) own started (by kernel_rfl) Try.func4
    (ChangeSpec.witness6 (enc := enc) (C := Try.checked) false ⟨#[], #[.slice none 0 0], []⟩ 8 (by kernel_rfl) (by kernel_rfl) (by kernel_rfl) (by kernel_rfl)) ?_
  intro W base args ds gs before hval0 hW hcnd _
  have hval : ∀ (j : Nat) t v, Try.f4.params[j]? = some t → args[j]? = some v → Value.okWide Try.prog W .any base t v := hval0
  have hW' := hW
  obtain ⟨p, q, hA0, hV, rfl, hfz, hnd⟩ := hW
  have hA : DataW.TrodAll enc Try.prog W 0 (fun _ => true) true Try.f4.params.toList args.toList ds p := hA0
  rw [Try.params4] at hA hval
  obtain ⟨v0, vs0, d0, ds0, p0, q0, hargs, rfl, rfl, h0, r0⟩ := trodAll_cons hA
  obtain ⟨rfl, rfl, rfl⟩ := trodAll_nil r0
  obtain rfl : args = #[v0] := by cases args; simp_all
  obtain ⟨rfl, rfl⟩ := trodVars_none hV
  obtain ⟨a0, len0, cap0, rfl⟩ := okWide_slice Try.underlying22 (hval 0 22 v0 rfl rfl)
  have k0 := h0
  have lt0 : ∀ x ∈ p0, x.block < W.heap.size := by obtain ⟨m, hm⟩ := k0; exact DataW.trod_lt m _ _ _ hm
  obtain ⟨z0, w0⟩ : ∃ zs, IsRow .u8 W a0 len0 cap0 zs := by
    obtain ⟨fuel, hf⟩ := h0
    rcases open_ints Try.underlying22 Try.underlying5 (by kernel_rfl) hf with ⟨hcs, _⟩ | ⟨x, l, c, zs, hcs, _, hl, hm, hz, _, hcell, hwz⟩
    · simp [Value.cells] at hcs
      obtain ⟨rfl, rfl, rfl⟩ := hcs
      exact ⟨[], .inl ⟨rfl, rfl, rfl, rfl⟩⟩
    · simp [Value.cells] at hcs
      obtain ⟨rfl, rfl, rfl⟩ := hcs
      exact ⟨zs, .inr ⟨_, rfl, hl, hm, by simpa using hz, hcell, hwz⟩⟩
  clear hA0 hval0
  refine (walk a0 len0 cap0 z0 W w0).mono fun e W' ⟨he, bel⟩ => ?_
  subst he
  exact ⟨_, rfl, _, _, _, [], _, [], hW', trodAll_mk1 (shut_bool Try.underlying4 _), (trodAll_cons_mk (Below.trod laidOut (by kernel_rfl) (of_decide_eq_true (by kernel_rfl)) k0 bel lt0) trodAll_mk0), rfl, bel.frame _, fun h => by cases h⟩

theorem closed : joinedFacts Try.pinned.checked.prog 4 Try.f4 Rows.fnLabelPulsesSpec Rows.fnLabelPulsesRow = true := by
  unfold joinedFacts
  rw [mayJ, liftsJ, makeJ]
  kernel_rfl

theorem over : Rows.fnLabelPulsesRow.holds Try.pinned (OpenSpec.ofChange Rows.fnLabelPulsesSpec) :=
  OpenClaim.holds_of_wide 4 Try.f4 rfl rfl rfl rfl rfl rfl rfl ⟨rfl, rfl, rfl, rfl, rfl⟩ rfl rfl rfl rfl rfl (by kernel_rfl) Try.func4 closed
    (of_decide_eq_true (by kernel_rfl)) (by unfold Func.isWrapper; first | (rw [if_pos (by decide +kernel)]; kernel_rfl) | (rw [if_neg (by decide +kernel)]; exact ⟨rfl, rfl⟩))
    (fun os started H enc _ => lifted os started H enc)

/-- ████ THE STATEMENT ████ -/
theorem proved : Rows.FnLabelPulsesSaid := over
#print axioms proved
end Go.Proofs.Ytgbbbmljanlogaa.fnLabelPulses
