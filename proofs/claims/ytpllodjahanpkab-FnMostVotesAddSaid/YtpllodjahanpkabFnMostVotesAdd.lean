/-
  PROVED: FnMostVotesAdd: for every input the law returns true, and the input reads as it did. No condition.
  The frame is as the kit prints it (proof-skeleton.mjs); the walk is mine.
-/
import Derived.Test.YtpllodjahanpkabRows
import Derived.Test.YtpllodjahanpkabSt
import Derived.Test.YtpllodjahanpkabIAg
import Derived.Test.YtpllodjahanpkabDrawV
import Derived.WalkKit
import Derived.WalkSpells
import Derived.Deep.AppendLies
import Derived.ProofKit
import Derived.OpenShut
import Derived.ShutString
import Derived.ChangeOld
import Derived.Below
namespace Go.Proofs.Ytpllodjahanpkab.fnMostVotesAdd
open Go.ChangeShapes Go.WideShapes Go.ChangeAt Go.RowKit
open Go.ChangeMaps (open_string shut_string)
set_option linter.unusedVariables false

theorem own : ownKnob Try.prog.godebug = none := by kernel_rfl
theorem laidOut : laidOutB Try.prog = true := by kernel_rfl

/-- WHAT THE WALK IS TOLD OF A SLICE OF INTEGERS THAT CAME IN: it is nil; or it leads to a row of 'cap' cells, the numbers 'zs' (the first 'len' are its elements, the rest its spare room), each fitting its kind. -/
def IsRow (k : IntKind) (w : World) (a : Option Addr) (len cap : Nat) (zs : List Int) : Prop :=
  (a = none ∧ len = 0 ∧ cap = 0 ∧ zs = []) ∨
  ∃ x, a = some x ∧ len ≤ cap ∧ cap ≤ maxLen ∧ zs.length = cap ∧ (∀ i, i < zs.length → w.cell? (x.add i) = some (.int k (zs.getD i 0))) ∧ ∀ n ∈ zs, (Lit.int k n).wf = true

/-! ### STEP 1: THE WALK: the Go text returns true, AND WRITES NOTHING THAT WAS THERE: 'Below w.heap.size w w'' (Derived/Below.lean: '.refl', '.alloc', '.drew', '.setCell' at a new block, '.trans'). Open each 'IsRow' by 'rcases' AHEAD of 'go_enter'; part every test ahead of the walk. -/
theorem prs_sps {T : TypeId} {B : Nat} {w : World} {a : Option Addr} {c : Nat} {l : List (Int × Int)} (h : Prs T B w a c l) (hl : l.length ≤ 1048576) : Sps w.heap.size w a l.length l := by
  rcases Nat.eq_zero_or_pos l.length with h0 | h0
  · exact ⟨rfl, hl, .inl h0⟩
  · obtain ⟨g, e, _, hlt, hc⟩ := h.form h0
    refine ⟨rfl, hl, .inr ⟨g, 0, e, hlt, fun i hi => ?_⟩⟩
    rw [Nat.zero_add]; exact (hc i hi).1
/-- The cells of a list that lies in memory, as 'append' takes them. -/
theorem news_sps {B : Nat} {w : World} {b off n : Nat} {l : List (Int × Int)} (h : Sps B w (some ⟨b, off, none⟩) n l) (hn : 0 < n) : ∀ j u, (v2 l)[j]? = some u → w.cell? ((⟨b, off, none⟩ : Addr).add j) = some u := by
  intro j u hu
  obtain ⟨b', off', e, hb, hc⟩ := h.at_ 0 hn
  injection e with e
  injection e with e1 e2
  subst e1
  subst e2
  have hadd : (⟨b, off, none⟩ : Addr).add j = ⟨b, off + j, none⟩ := by unfold Addr.add; split <;> simp_all
  rw [hadd]
  have hj : j < l.length * 2 := by
    rw [← v2_len]
    exact (List.getElem?_eq_some_iff.1 hu).1
  have hl := h.1
  have hh := v2_get l (j / 2) (by omega)
  have hcc := hc (j / 2) (by omega)
  rcases Nat.mod_two_eq_zero_or_one j with e | e
  · rw [show j / 2 * 2 = j by omega] at hh hcc
    rw [hcc.1, ← hh.1, hu]
  · rw [show j / 2 * 2 + 1 = j by omega] at hh
    rw [show off + j / 2 * 2 + 1 = off + j by omega] at hcc
    rw [hcc.2, ← hh.2, hu]
set_option maxRecDepth 100000 in
set_option maxHeartbeats 4000000 in
theorem walk (a0 : Option Addr) (len0 cap0 : Nat) (z0 : List Int) (w : World) (w0 : IsRow .u8 w a0 len0 cap0 z0) :
    Calls Try.prog 3 #[.slice a0 len0 cap0] w fun e w' => e = .returned (.bool true) ∧ Below w.heap.size w w' := by
  by_cases hl : 1048576 < len0
  · have hl' : (1048576 : Int) < (len0 : Int) := by omega
    clear w0 hl
    go_enter Try.func3, Try.ntmps3
    go_wp2
    go_ret
    exact ⟨rfl, Below.refl _ _⟩
  have hl' : ¬ (1048576 : Int) < (len0 : Int) := by omega
  obtain ⟨hc, hcap⟩ := code_of w0 (by omega)
  clear w0 hl
  go_enter Try.func3, Try.ntmps3
  go_wp2_with fail
  refine (DrawMostVotes_any w a0 len0 cap0 hc hcap).mono ?_
  rintro e w1 ⟨a, c, l, rfl, hl8, hlc, hcm, hS, hsm, bl, hfr⟩
  clear hc hcap
  have st := St.mk hS bl
  clear hS bl hfr hsm
  clear hcm
  obtain ⟨i0, hi0, hz0, hz1, hz2⟩ := info_parts span_info
  have hI := Lib.hid hi0
  have hZ0 := Lib.hid hz0
  have hZ1 := Lib.hid hz1
  have hZ2 := Lib.hid hz2
  clear hi0 hz0 hz1 hz2
  rcases hv : V.vs l with _ | _
  · have hk : V.mv l = -1 := V.mv_no hv
    go_wp2_with (first | (go_at_call 14; refine (MV_impl _ _ _ _ _ _ (St.here (by first | assumption | exact St.al (by assumption) _ | exact St.al (St.al (by assumption) _) _ | exact St.dr (by assumption) _)) (Nat.le_refl _)).mono ?_; rintro e w' ⟨rfl, hb⟩; have st' := St.b (by first | assumption | exact St.al (by assumption) _ | exact St.al (St.al (by assumption) _) _ | exact St.dr (by assumption) _) hb) | (go_at_call 15; refine (MV_spec _ _ _ _ _ _ (St.here (by first | assumption | exact St.al (by assumption) _ | exact St.al (St.al (by assumption) _) _ | exact St.dr (by assumption) _)) (Nat.le_refl _)).mono ?_; rintro e w' ⟨rfl, hb⟩; have st' := St.b (by first | assumption | exact St.al (by assumption) _ | exact St.al (St.al (by assumption) _) _ | exact St.dr (by assumption) _) hb))
    go_ret
    exact ⟨ret_bool (by simp), St.bel (by assumption)⟩
  · have hmv := V.mv_yes hv
    have hm7 := V.most_le l
    have hl1 := (V.vs_of hv).1
    have k0 : 0 ≤ V.mv l := by omega
    have k1 : V.mv l ≤ 7 := by omega
    by_cases h7 : l.length = 7
    · have h7' : ((l.length : Int) == 7) = true := by rw [h7]; rfl
      clear h7 hmv
      go_wp2_with (first | (go_at_call 14; refine (MV_impl _ _ _ _ _ _ (St.here (by first | assumption | exact St.al (by assumption) _ | exact St.al (St.al (by assumption) _) _ | exact St.dr (by assumption) _)) (Nat.le_refl _)).mono ?_; rintro e w' ⟨rfl, hb⟩; have st' := St.b (by first | assumption | exact St.al (by assumption) _ | exact St.al (St.al (by assumption) _) _ | exact St.dr (by assumption) _) hb) | (go_at_call 15; refine (MV_spec _ _ _ _ _ _ (St.here (by first | assumption | exact St.al (by assumption) _ | exact St.al (St.al (by assumption) _) _ | exact St.dr (by assumption) _)) (Nat.le_refl _)).mono ?_; rintro e w' ⟨rfl, hb⟩; have st' := St.b (by first | assumption | exact St.al (by assumption) _ | exact St.al (St.al (by assumption) _) _ | exact St.dr (by assumption) _) hb))
      go_ret
      exact ⟨ret_bool (by first | rfl | simp), St.bel (by assumption)⟩
    · have h7' : ((l.length : Int) == 7) = false := by rw [beq_eq_false_iff_ne]; omega
      have hv2 : V.vs (l ++ [(-50, 50)]) = true := V.vs_snoc hv (by omega) ⟨by simp only; omega, by simp only; omega, by simp only; omega⟩
      have hmv2 := V.mv_yes hv2
      have hms : V.mv (l ++ [(-50, 50)]) = V.mv l ∨ V.mv (l ++ [(-50, 50)]) = V.mv l + 1 := by
        rcases V.most_snoc hv hv2 with e | e
        · left; omega
        · right; omega
      have HMS := Lib.hid hms
      have hlen1 : 1 ≤ l.length ∧ l.length ≤ 7 := by omega
      clear h7 hmv hmv2 hms hv2 hl1 hm7
      go_wp2_with fail
      refine (MV_impl _ _ _ _ _ _ (st).here (Nat.le_refl _)).mono ?_
      rintro e w2 ⟨rfl, b2⟩
      have st2 := (st).b b2
      clear st b2
      go_wp2_with fail
      refine (MV_spec _ _ _ _ _ _ (st2).here (Nat.le_refl _)).mono ?_
      rintro e w3 ⟨rfl, b3⟩
      have st3 := (st2).b b3
      clear st2 b3
      obtain ⟨b, off, rfl, hbb, _⟩ := st3.here.at_ 0 (by omega)
      have own0 : (w3.alloc (.cells #[] 27)).ownsRow w3.heap.size 27 2 (.slice (some ⟨w3.heap.size, 0, none⟩) 0 0) 0 [] := World.ownsRow_made _ #[] 0 (Nat.le_refl _) (by unfold maxLen; omega) rfl
      have S4 := st3.here.below ((Below.refl _ _).alloc (Nat.le_refl _) (Obj.cells #[] 27))
      have bl4 := st3.bel.alloc st3.bel.size (Obj.cells #[] 27)
      have HQ := Lib.hid (And.intro own0 (And.intro S4 bl4))
      have hG := st3.bel.size
      clear own0 S4 bl4 st3
      go_wp2_with (at_builtin; refine wpList_append_lies _ rfl _ _ 23 rfl w3.heap.size 27 i0 (.agg #[.int .i64 0, .int .i64 0]) 2 16 Try.underlying23 hI.out hZ0.out hZ1.out hZ2.out rfl (by decide) (.slice (some ⟨w3.heap.size, 0, none⟩) 0 0) 0 [] rfl HQ.out.1 ⟨b, off, none⟩ l.length c (v2 l) rfl (v2_len l) (news_sps HQ.out.2.1 (by omega)) (v2_oneC l) (by omega) (by unfold maxLen; omega) (by omega) (by simp) _ rfl ?_)
      intro g cap w5 own5 hg5 hat5 hlt5
      have hs5 := hg5.size
      rw [World.size_alloc] at hs5
      have own5' : w5.ownsRow w3.heap.size 27 2 (.slice (some ⟨g, 0, none⟩) l.length cap) l.length (v2 l) := by simpa using own5
      have q5 : Below w.heap.size w w5 := HQ.out.2.2.trans ((Below.refl _ _).grown hg5 (by rw [World.size_alloc]; omega) (fun j hj => by have := (World.ownsRow.lt HQ.out.1 j hj).1; omega))
      have HQ5 := Lib.hid (And.intro own5' q5)
      clear own5 own5' q5 hg5 hat5 HQ
      go_wp2_with (at_builtin; refine wpList_append_lies _ rfl _ _ 23 rfl w3.heap.size 27 i0 (.agg #[.int .i64 0, .int .i64 0]) 2 16 Try.underlying23 hI.out hZ0.out hZ1.out hZ2.out rfl (by decide) (.slice (some ⟨g, 0, none⟩) l.length cap) l.length (v2 l) rfl (World.ownsRow.alloc HQ5.out.1 _) ⟨w5.heap.size, 0, none⟩ 1 1 [.int .i64 (-50), .int .i64 50] rfl rfl (World.news_of_block (heap_alloc_new _ _)) (by intro u hu; simp at hu; rcases hu with rfl | rfl <;> rfl) (by decide) (by unfold maxLen; omega) (by omega) (by simp; omega) _ rfl ?_)
      intro g6 cap6 w6 own6 hg6 hat6 hlt6
      have P6 : Prs 27 w3.heap.size w6 (some ⟨g6, 0, none⟩) cap6 (l ++ [(-50, 50)]) := by
        unfold Prs
        rw [List.length_append, ← v2_snoc]
        exact own6
      have bl6 : Below w.heap.size w w6 := ((HQ5.out.2).alloc (by omega) (Obj.cells #[.int .i64 (-50), .int .i64 50] 27)).grown hg6 (by rw [World.size_alloc]; omega) (fun j hj => by have := (World.ownsRow.lt HQ5.out.1 j hj).1; omega)
      have S6 := prs_sps P6 (by simp; omega)
      rw [show (l ++ [((-50 : Int), (50 : Int))]).length = l.length + 1 by simp] at S6
      have HX := Lib.hid (And.intro S6 bl6)
      clear P6 own6 hg6 hat6 S6 bl6
      generalize l ++ [((-50 : Int), (50 : Int))] = m at *
      go_wp2_with fail
      refine (MV_impl _ _ _ _ m _ HX.out.1 (Nat.le_refl _)).mono ?_
      rintro e w7 ⟨rfl, b7⟩
      have bl7 := HX.out.2.trans (b7.mono HX.out.2.size)
      rcases HMS.out with hms | hms
      · rw [hms]
        go_wp2
        go_ret
        exact ⟨ret_bool (by first | rfl | simp), bl7⟩
      · rw [hms]
        have hne : (V.mv l + 1 == V.mv l) = false := by rw [beq_eq_false_iff_ne]; omega
        go_wp2
        go_ret
        exact ⟨ret_bool (by first | rfl | simp), bl7⟩

/-! ### THE ROW's STEP: WRITTEN OUT: LEAVE IT -/
set_option maxRecDepth 100000 in
theorem lifted (os : Os) (started : os.Started) (H : Type) (enc : TypeId × Value → H) :
    ReturnsInHanded {} Try.checked os 3 .any (Rows.fnMostVotesAddSpec.pre6 enc Try.prog Try.f3 Rows.fnMostVotesAddRow.domain false) (Rows.fnMostVotesAddSpec.post enc Try.prog Try.f3 false true false false) := by
  refine returnsInHanded_of_change (C := Try.checked) own started (by kernel_rfl) Try.func3
    (ChangeSpec.witness6 (enc := enc) (C := Try.checked) false ⟨#[], #[.slice none 0 0], []⟩ 8 (by kernel_rfl) (by kernel_rfl) (by kernel_rfl) (by kernel_rfl)) ?_
  intro W base args ds gs before hval0 hW hcnd _
  have hval : ∀ (j : Nat) t v, Try.f3.params[j]? = some t → args[j]? = some v → Value.okWide Try.prog W .any base t v := hval0
  have hW' := hW
  obtain ⟨p, q, hA0, hV, rfl, hfz, hnd⟩ := hW
  have hA : DataW.TrodAll enc Try.prog W 0 (fun _ => true) true Try.f3.params.toList args.toList ds p := hA0
  rw [Try.params3] at hA hval
  obtain ⟨v0, vs0, d0, ds0, p0, q0, hargs, rfl, rfl, h0, r0⟩ := trodAll_cons hA
  obtain ⟨rfl, rfl, rfl⟩ := trodAll_nil r0
  obtain rfl : args = #[v0] := by cases args; simp_all
  obtain ⟨rfl, rfl⟩ := trodVars_none hV
  obtain ⟨a0, len0, cap0, rfl⟩ := okWide_slice Try.underlying22 (hval 0 22 v0 rfl rfl)
  have k0 := h0
  have lt0 : ∀ x ∈ p0, x.block < W.heap.size := by obtain ⟨m, hm⟩ := k0; exact DataW.trod_lt m _ _ _ hm
  obtain ⟨z0, w0⟩ : ∃ zs, IsRow .u8 W a0 len0 cap0 zs := by
    obtain ⟨fuel, hf⟩ := h0
    rcases open_ints Try.underlying22 Try.underlying5 (by kernel_rfl) hf with ⟨hcs, _⟩ | ⟨x, l, c, zs, hcs, _, hl, hm, hz, _, hcell, hwz⟩
    · simp [Value.cells] at hcs
      obtain ⟨rfl, rfl, rfl⟩ := hcs
      exact ⟨[], .inl ⟨rfl, rfl, rfl, rfl⟩⟩
    · simp [Value.cells] at hcs
      obtain ⟨rfl, rfl, rfl⟩ := hcs
      exact ⟨zs, .inr ⟨_, rfl, hl, hm, by simpa using hz, hcell, hwz⟩⟩
  clear hA0 hval0
  refine (walk a0 len0 cap0 z0 W w0).mono fun e W' ⟨he, bel⟩ => ?_
  subst he
  exact ⟨_, rfl, _, _, _, [], _, [], hW', trodAll_mk1 (shut_bool Try.underlying4 _), (trodAll_cons_mk (Below.trod laidOut (by kernel_rfl) (of_decide_eq_true (by kernel_rfl)) k0 bel lt0) trodAll_mk0), rfl, bel.frame _, fun h => by cases h⟩

theorem over : Rows.fnMostVotesAddRow.holds Try.pinned (OpenSpec.ofChange Rows.fnMostVotesAddSpec) :=
  OpenClaim.holds_of_wide 3 Try.f3 rfl rfl rfl rfl rfl rfl rfl ⟨rfl, rfl, rfl, rfl, rfl⟩ rfl rfl rfl rfl rfl (by kernel_rfl) Try.func3 (by kernel_rfl)
    (of_decide_eq_true (by kernel_rfl)) (by unfold Func.isWrapper; first | (rw [if_pos (by decide +kernel)]; kernel_rfl) | (rw [if_neg (by decide +kernel)]; exact ⟨rfl, rfl⟩))
    (fun os started H enc _ => lifted os started H enc)

/-- ████ THE STATEMENT ████ -/
theorem proved : Rows.FnMostVotesAddSaid := over
#print axioms proved
end Go.Proofs.Ytpllodjahanpkab.fnMostVotesAdd
