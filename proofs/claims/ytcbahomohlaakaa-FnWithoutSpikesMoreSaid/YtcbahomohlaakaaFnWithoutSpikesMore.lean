/-
  PROVED: FnWithoutSpikesMore: for every input the law returns true, and the input reads as it did. No condition.
  The frame is as the kit prints it (proof-skeleton.mjs); the walk is mine.
-/
import Derived.Test.YtcbahomohlaakaaRows
import Derived.Test.YtcbahomohlaakaaSpikes
import Derived.Test.YtcbahomohlaakaaEqQ
import Derived.WalkKit
import Derived.ProofKit
import Derived.OpenShut
import Derived.ShutString
import Derived.ChangeOld
import Derived.Below
namespace Go.Proofs.Ytcbahomohlaakaa.fnWithoutSpikesMore
open Go.ChangeShapes Go.WideShapes Go.ChangeAt Go.RowKit
open Go.ChangeMaps (open_string shut_string)
set_option linter.unusedVariables false

theorem own : ownKnob Try.prog.godebug = none := by kernel_rfl
theorem laidOut : laidOutB Try.prog = true := by kernel_rfl

/-- WHAT THE WALK IS TOLD OF A SLICE OF INTEGERS THAT CAME IN: it is nil; or it leads to a row of 'cap' cells, the numbers 'zs' (the first 'len' are its elements, the rest its spare room), each fitting its kind. -/
def IsRow (k : IntKind) (w : World) (a : Option Addr) (len cap : Nat) (zs : List Int) : Prop :=
  (a = none ∧ len = 0 ∧ cap = 0 ∧ zs = []) ∨
  ∃ x, a = some x ∧ len ≤ cap ∧ cap ≤ maxLen ∧ zs.length = cap ∧ (∀ i, i < zs.length → w.cell? (x.add i) = some (.int k (zs.getD i 0))) ∧ ∀ n ∈ zs, (Lit.int k n).wf = true

/-! ### STEP 1: THE WALK: the Go text returns true, AND WRITES NOTHING THAT WAS THERE: 'Below w.heap.size w w'' (Derived/Below.lean: '.refl', '.alloc', '.drew', '.setCell' at a new block, '.trans'). Open each 'IsRow' by 'rcases' AHEAD of 'go_enter'; part every test ahead of the walk. -/
theorem ws_some {l : List Q.Sm} {s : Int} (h : wok l s = true) : 0 < (ws l s).length := by
  have h1 := wok_of h
  rw [ws_yes h]
  unfold wk
  rw [List.take_length]
  have hq := (Q.vq_of h1.1).1
  have hl : (srt (offs l)).length = l.length := by rw [srt_len, offs_len]
  have hi : (l.length - 1) / 2 < (srt (offs l)).length := by omega
  have hm : med l ∈ srt (offs l) := by
    rw [med_yes h1.1]
    unfold L.g; rw [List.getD_eq_getElem?_getD, List.getElem?_eq_getElem hi]; exact List.getElem_mem hi
  obtain ⟨p, hp, hpe⟩ := List.mem_map.1 ((srt_perm (offs l)).mem_iff.1 hm)
  have hJ := jit_in h1.1
  refine List.length_pos_of_mem (a := p) (List.mem_filter.2 ⟨hp, decide_eq_true ?_⟩)
  rw [hpe, show med l - med l = 0 by omega]
  show (0 : Int) ≤ _
  omega
theorem ws_more {l : List Q.Sm} {s : Int} (h : wok l s = true) : (ws l s).length ≤ (ws l 1000000).length := by
  have h1 := wok_of h
  rw [ws_yes h, ws_yes (wok_yes ⟨h1.1, by omega, by omega⟩)]
  unfold wk
  rw [← List.countP_eq_length_filter, ← List.countP_eq_length_filter]
  refine List.countP_mono_left fun x _ hx => ?_
  have := of_decide_eq_true hx
  exact decide_eq_true (by omega)
set_option maxRecDepth 100000 in
set_option maxHeartbeats 8000000 in
theorem walk (a0 : Option Addr) (len0 cap0 : Nat) (z0 : List Int) (w : World) (w0 : IsRow .u8 w a0 len0 cap0 z0) :
    Calls Try.prog 8 #[.slice a0 len0 cap0] w fun e w' => e = .returned (.bool true) ∧ Below w.heap.size w w' := by
  by_cases hl : 1048576 < len0
  · have hl' : (1048576 : Int) < (len0 : Int) := by omega
    clear w0 hl
    go_enter Try.func8, Try.ntmps8
    go_wp2
    go_ret
    exact ⟨rfl, Below.refl _ _⟩
  have hl' : ¬ (1048576 : Int) < (len0 : Int) := by omega
  obtain ⟨hc, hcap⟩ := code_of w0 (by omega)
  clear w0 hl
  go_enter Try.func8, Try.ntmps8
  go_wp2_with fail
  refine (DrawWithoutSpikes_any w a0 len0 cap0 hc hcap).mono ?_
  rintro e w1 ⟨a, c, l, s, rfl, hl9, hlc, hcm, hS, hsm, hsr, bl⟩
  clear hc hcap
  have hxl := ws_len l s
  have hxl2 := ws_len l 1000000
  have k1 := fun w' (h : Sms w'.heap.size w' a l.length l) => WS_impl l.length c a l s w' h
  have k2 := fun w' (h : Sms w'.heap.size w' a l.length l) => WS_spec l.length c a l s w' h
  have k3 := fun w' (h : Sms w'.heap.size w' a l.length l) => WS_impl l.length c a l 1000000 w' h
  have hcase : (wok l s = false ∧ (Q.vq l = false ∨ (Q.vq l = true ∧ (s < 0 ∨ 1000000 < s)))) ∨ (wok l s = true ∧ Q.vq l = true ∧ 0 ≤ s ∧ s ≤ 1000000 ∧ 0 < (ws l s).length ∧ (ws l s).length ≤ (ws l 1000000).length) := by
    rcases hw : wok l s with _ | _
    · refine .inl ⟨rfl, ?_⟩
      rcases hv : Q.vq l with _ | _
      · exact .inl rfl
      · refine .inr ⟨rfl, ?_⟩
        by_cases h : 0 ≤ s ∧ s ≤ 1000000
        · rw [wok_yes ⟨hv, h⟩] at hw; cases hw
        · omega
    · exact .inr ⟨rfl, (wok_of hw).1, (wok_of hw).2.1, (wok_of hw).2.2, ws_some hw, ws_more hw⟩
  obtain ⟨X, hX⟩ : ∃ X, ws l s = X := ⟨_, rfl⟩
  obtain ⟨Y, hY⟩ : ∃ Y, ws l 1000000 = Y := ⟨_, rfl⟩
  simp only [hX, hY] at k1 k2 k3 hcase hxl hxl2
  have K1 := Lib.hid k1
  have K2 := Lib.hid k2
  have K3 := Lib.hid k3
  have KV := Lib.hid (fun w' (h : Sms w'.heap.size w' a l.length l) => vq_impl _ l.length c a l w' h (Nat.le_refl _))
  clear k1 k2 k3 hX hY hsm
  unfold maxLen at hcm
  go_wp2_with fail
  refine (K1.out _ hS).mono ?_
  rintro e w2 ⟨a2, c2, rfl, O2, b2⟩
  have S2 := (hS.below b2).more b2.size
  have bl2 := bl.trans (b2.mono bl.size)
  have M2 := (O2.sms (by omega)).1
  clear hS bl b2 K1 O2
  go_wp2_with fail
  refine (K2.out _ S2).mono ?_
  rintro e w3 ⟨a3, c3, rfl, O3, b3⟩
  have S3 := (S2.below b3).more b3.size
  have M3 := (M2.below b3).more b3.size
  have bl3 := bl2.trans (b3.mono bl2.size)
  have P3 := (O3.sms (by omega)).1
  clear S2 M2 bl2 b3 O3
  go_wp2_with fail
  refine (equalSamples_any X.length c2 c3 _ a2 a3 X w3 M3 P3).mono ?_
  rintro e w4 ⟨rfl, q4⟩
  have S4 := (S3.same q4).more (show w3.heap.size ≤ w4.heap.size from (q4.below (B := 0)).size)
  have M4 := (M3.same q4).more (show w3.heap.size ≤ w4.heap.size from (q4.below (B := 0)).size)
  have bl4 := bel_same bl3 q4
  clear S3 M3 P3 bl3 q4
  have kv := KV.out w4 S4
  rcases hcase with ⟨_, hbad⟩ | ⟨hw, hv, s0, s1, x0, xy⟩
  · rcases hbad with hv | ⟨hv, hs⟩
    · rw [hv] at kv
      have KV4 := Lib.hid kv
      clear kv hv KV
      go_wp2_with fail
      refine KV4.out.mono ?_
      rintro e w5 ⟨rfl, b5⟩
      have S5 := (S4.below b5).more b5.size
      have M5 := (M4.below b5).more b5.size
      have bl5 := bl4.trans (b5.mono bl4.size)
      clear S4 M4 bl4 b5 KV4
      go_wp2_with fail
      refine (K2.out _ S5).mono ?_
      rintro e w6 ⟨a6, c6, rfl, O6, b6⟩
      have M6 := (M5.below b6).more b6.size
      have bl6 := bl5.trans (b6.mono bl5.size)
      have P6 := (O6.sms (by omega)).1
      clear S5 M5 bl5 b6 O6
      go_wp2_with fail
      refine (equalSamples_any X.length c2 c6 _ a2 a6 X w6 M6 P6).mono ?_
      rintro e w7 ⟨rfl, q7⟩
      have HB := Lib.hid (bel_same bl6 q7)
      clear M6 P6 bl6 q7
      go_wp2
      go_ret
      exact ⟨ret_bool (by first | rfl | simp), HB.out⟩
    · rw [hv] at kv
      have KV4 := Lib.hid kv
      clear kv hv KV
      rcases hs with hs | hs
      all_goals
        first
        | (have hs1 : decide (s < 0) = true := decide_eq_true hs)
        | (have hs1 : ¬ s < 0 := by omega
           have hs2 : decide (1000000 < s) = true := decide_eq_true hs)
        go_wp2_with fail
        refine KV4.out.mono ?_
        rintro e w5 ⟨rfl, b5⟩
        have S5 := (S4.below b5).more b5.size
        have M5 := (M4.below b5).more b5.size
        have bl5 := bl4.trans (b5.mono bl4.size)
        clear S4 M4 bl4 b5 KV4
        go_wp2_with fail
        refine (K2.out _ S5).mono ?_
        rintro e w6 ⟨a6, c6, rfl, O6, b6⟩
        have M6 := (M5.below b6).more b6.size
        have bl6 := bl5.trans (b6.mono bl5.size)
        have P6 := (O6.sms (by omega)).1
        clear S5 M5 bl5 b6 O6
        go_wp2_with fail
        refine (equalSamples_any X.length c2 c6 _ a2 a6 X w6 M6 P6).mono ?_
        rintro e w7 ⟨rfl, q7⟩
        have HB := Lib.hid (bel_same bl6 q7)
        clear M6 P6 bl6 q7
        go_wp2
        go_ret
        exact ⟨ret_bool (by first | rfl | simp), HB.out⟩
  · rw [hv] at kv
    have KV4 := Lib.hid kv
    have hs1 : ¬ s < 0 := by omega
    have hs2 : ¬ 1000000 < s := by omega
    have x0' : 0 < X.length := x0
    have x1' : (0 : Int) < (X.length : Int) := by omega
    have xy' : (X.length : Int) ≤ (Y.length : Int) := by omega
    clear kv hv KV
    go_wp2_with fail
    refine KV4.out.mono ?_
    rintro e w5 ⟨rfl, b5⟩
    have S5 := (S4.below b5).more b5.size
    have bl5 := bl4.trans (b5.mono bl4.size)
    clear S4 M4 bl4 b5 KV4
    go_wp2_with fail
    refine (K3.out _ S5).mono ?_
    rintro e w6 ⟨a6, c6, rfl, O6, b6⟩
    have HB := Lib.hid (bl5.trans (b6.mono bl5.size))
    clear S5 bl5 b6 O6
    go_wp2
    go_ret
    exact ⟨ret_bool (by first | rfl | (simp; done) | simp [x0, xy] | (simp; omega)), HB.out⟩

/-! ### THE ROW's STEP: WRITTEN OUT: LEAVE IT -/
set_option maxRecDepth 100000 in
theorem lifted (os : Os) (started : os.Started) (H : Type) (enc : TypeId × Value → H) :
    ReturnsInHanded {} Try.checked os 8 .any (Rows.fnWithoutSpikesMoreSpec.pre6 enc Try.prog Try.f8 Rows.fnWithoutSpikesMoreRow.domain false) (Rows.fnWithoutSpikesMoreSpec.post enc Try.prog Try.f8 false true false false) := by
  refine returnsInHanded_of_change (C := Try.checked) own started (by kernel_rfl) Try.func8
    (ChangeSpec.witness6 (enc := enc) (C := Try.checked) false ⟨#[], #[.slice none 0 0], []⟩ 8 (by kernel_rfl) (by kernel_rfl) (by kernel_rfl) (by kernel_rfl)) ?_
  intro W base args ds gs before hval0 hW hcnd _
  have hval : ∀ (j : Nat) t v, Try.f8.params[j]? = some t → args[j]? = some v → Value.okWide Try.prog W .any base t v := hval0
  have hW' := hW
  obtain ⟨p, q, hA0, hV, rfl, hfz, hnd⟩ := hW
  have hA : DataW.TrodAll enc Try.prog W 0 (fun _ => true) true Try.f8.params.toList args.toList ds p := hA0
  rw [Try.params8] at hA hval
  obtain ⟨v0, vs0, d0, ds0, p0, q0, hargs, rfl, rfl, h0, r0⟩ := trodAll_cons hA
  obtain ⟨rfl, rfl, rfl⟩ := trodAll_nil r0
  obtain rfl : args = #[v0] := by cases args; simp_all
  obtain ⟨rfl, rfl⟩ := trodVars_none hV
  obtain ⟨a0, len0, cap0, rfl⟩ := okWide_slice Try.underlying22 (hval 0 22 v0 rfl rfl)
  have k0 := h0
  have lt0 : ∀ x ∈ p0, x.block < W.heap.size := by obtain ⟨m, hm⟩ := k0; exact DataW.trod_lt m _ _ _ hm
  obtain ⟨z0, w0⟩ : ∃ zs, IsRow .u8 W a0 len0 cap0 zs := by
    obtain ⟨fuel, hf⟩ := h0
    rcases open_ints Try.underlying22 Try.underlying5 (by kernel_rfl) hf with ⟨hcs, _⟩ | ⟨x, l, c, zs, hcs, _, hl, hm, hz, _, hcell, hwz⟩
    · simp [Value.cells] at hcs
      obtain ⟨rfl, rfl, rfl⟩ := hcs
      exact ⟨[], .inl ⟨rfl, rfl, rfl, rfl⟩⟩
    · simp [Value.cells] at hcs
      obtain ⟨rfl, rfl, rfl⟩ := hcs
      exact ⟨zs, .inr ⟨_, rfl, hl, hm, by simpa using hz, hcell, hwz⟩⟩
  clear hA0 hval0
  refine (walk a0 len0 cap0 z0 W w0).mono fun e W' ⟨he, bel⟩ => ?_
  subst he
  exact ⟨_, rfl, _, _, _, [], _, [], hW', trodAll_mk1 (shut_bool Try.underlying4 _), (trodAll_cons_mk (Below.trod laidOut (by kernel_rfl) (of_decide_eq_true (by kernel_rfl)) k0 bel lt0) trodAll_mk0), rfl, bel.frame _, fun h => by cases h⟩

theorem over : Rows.fnWithoutSpikesMoreRow.holds Try.pinned (OpenSpec.ofChange Rows.fnWithoutSpikesMoreSpec) :=
  OpenClaim.holds_of_wide 8 Try.f8 rfl rfl rfl rfl rfl rfl rfl ⟨rfl, rfl, rfl, rfl, rfl⟩ rfl rfl rfl rfl rfl (by kernel_rfl) Try.func8 (by kernel_rfl)
    (of_decide_eq_true (by kernel_rfl)) (by unfold Func.isWrapper; first | (rw [if_pos (by decide +kernel)]; kernel_rfl) | (rw [if_neg (by decide +kernel)]; exact ⟨rfl, rfl⟩))
    (fun os started H enc _ => lifted os started H enc)

/-- ████ THE STATEMENT ████ -/
theorem proved : Rows.FnWithoutSpikesMoreSaid := over
#print axioms proved
end Go.Proofs.Ytcbahomohlaakaa.fnWithoutSpikesMore
