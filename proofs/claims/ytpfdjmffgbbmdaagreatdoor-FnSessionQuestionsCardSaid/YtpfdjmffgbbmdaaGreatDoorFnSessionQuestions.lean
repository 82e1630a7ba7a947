/-
  PROVED: FnSessionQuestions: for every input the law returns true, and the input reads as it did. The condition that the row lists: the library's tables hold what the library lays in them; the given tie says that they do.
  The frame is as the kit prints it (proof-skeleton.mjs); the walk is mine.
-/
import Derived.Test.YtpfdjmffgbbmdaaGreatDoorRows
import Derived.Test.YtpfdjmffgbbmdaaGreatDoorSeL
import Derived.Test.YtpfdjmffgbbmdaaGreatDoorP4
import Derived.Test.YtpfdjmffgbbmdaaGreatDoorTie
import Derived.Test.YtpfdjmffgbbmdaaGreatDoorCards
import Derived.LaidMore
import Derived.OpenVars
import Derived.ChangeVars
import Derived.SevenTiedAt
import Derived.WalkKit
import Derived.ProofKit
import Derived.OpenShut
import Derived.ShutString
import Derived.ChangeOld
import Derived.Below
namespace Go.Proofs.YtpfdjmffgbbmdaaGreatDoor.fnSessionQuestions
open Go.ChangeShapes Go.WideShapes Go.ChangeAt Go.RowKit
open Go.ChangeMaps (open_string shut_string)
set_option linter.unusedVariables false

theorem own : ownKnob Tryz.prog.godebug = none := by kernel_rfl
theorem laidOut : laidOutB Tryz.prog = true := by kernel_rfl

/-- WHAT THE WALK IS TOLD OF A SLICE OF INTEGERS THAT CAME IN: it is nil; or it leads to a row of 'cap' cells, the numbers 'zs' (the first 'len' are its elements, the rest its spare room), each fitting its kind. -/
def IsRow (k : IntKind) (w : World) (a : Option Addr) (len cap : Nat) (zs : List Int) : Prop :=
  (a = none ∧ len = 0 ∧ cap = 0 ∧ zs = []) ∨
  ∃ x, a = some x ∧ len ≤ cap ∧ cap ≤ maxLen ∧ zs.length = cap ∧ (∀ i, i < zs.length → w.cell? (x.add i) = some (.int k (zs.getD i 0))) ∧ ∀ n ∈ zs, (Lit.int k n).wf = true

/-! ### STEP 1: THE WALK: the Go text returns true, AND WRITES NOTHING THAT WAS THERE: 'Below w.heap.size w w'' (Derived/Below.lean: '.refl', '.alloc', '.drew', '.setCell' at a new block, '.trans'). Open each 'IsRow' by 'rcases' AHEAD of 'go_enter'; part every test ahead of the walk. -/
set_option maxRecDepth 100000 in
set_option maxHeartbeats 16000000 in
theorem walk (a0 : Option Addr) (len0 cap0 : Nat) (z0 : List Int) (w : World) (w0 : IsRow .u8 w a0 len0 cap0 z0) (hT : Tb w) (hM : Mx w) :
    Calls Tryz.prog 4 #[.slice a0 len0 cap0] w fun e w' => e = .returned (.bool true) ∧ Below w.heap.size w w' := by
  by_cases hl : 1048576 < len0
  · have hl' : (1048576 : Int) < (len0 : Int) := by omega
    clear w0 hl
    go_enter Tryz.func4, Tryz.ntmps4
    go_wp2
    go_ret
    exact ⟨rfl, Below.refl _ _⟩
  have hl' : ¬ (1048576 : Int) < (len0 : Int) := by omega
  obtain ⟨hc, hcap⟩ := code_of w0 (by omega)
  clear w0 hl
  go_enter Tryz.func4, Tryz.ntmps4
  go_wp2_with fail
  refine (DrawRunSession_any w a0 len0 cap0 hc hcap).mono ?_
  rintro e w1 ⟨g1, c1, T, rfl, hl, hsm, hTx, bl⟩
  clear hc hcap
  obtain ⟨i0, hi0, hz0, hz1, hz2⟩ := info_parts str_info
  have hI := Lib.hid hi0
  have hZ0 := Lib.hid hz0
  have hZ1 := Lib.hid hz1
  have hZ2 := Lib.hid hz2
  clear hi0 hz0 hz1 hz2
  have HT := Lib.hid hT
  have HM := Lib.hid hM
  have R1 := hTx.rd
  have hcap := hTx.cap
  have HSM := Lib.hid hsm
  clear hTx hsm hT hM
  go_wp2_with fail
  refine (RS_impl _ c1 _ T w1 R1 hcap (by omega) (HSM.out.get _) (HT.out.b bl) (HM.out.b bl)).mono ?_
  rintro e w2 ⟨rfl, hb⟩
  have b2 := bl.trans (hb.mono bl.size)
  have R2 := (R1.keep hb (Nat.le_refl _)).more hb.size
  clear R1 hb bl hcap
  have HQ := Lib.hid (outT_q T)
  obtain ⟨O, hO⟩ : ∃ O, outT T = O := ⟨_, rfl⟩
  obtain ⟨n, hn⟩ : ∃ n, T.length = n := ⟨_, rfl⟩
  have K3 := fun w' (hR : Rd w'.heap.size w' (some ⟨g1, 0, none⟩) T.length T) => RS_spec _ c1 _ T w' hR (by omega) (HSM.out.get _)
  rw [hO] at K3 HQ ⊢
  rw [hn] at K3 HQ hl R2 ⊢
  obtain ⟨x, hx⟩ : ∃ x, S.mk O = x := ⟨_, rfl⟩
  rw [hx] at K3 ⊢
  have HK3 := Lib.hid K3
  have HN := Lib.hid hn
  have HOL := Lib.hid (show O.length ≤ 620 by rw [← hO]; exact outT_len T)
  have HX := Lib.hid hx
  clear K3 hO hn hx
  by_cases h20 : 20 < n + 3
  · have f20 : (20 : Int) < (n : Int) + 3 := by omega
    go_wp2_with fail
    refine (HK3.out w2 R2).mono ?_
    rintro e w3 ⟨rfl, hb⟩
    have HB3 := Lib.hid (b2.trans (hb.mono b2.size))
    have HR3 := Lib.hid ((R2.keep hb (Nat.le_refl _)).more hb.size)
    clear R2 hb b2
    go_wp2_with fail
    refine (HK3.out w3 HR3.out).mono ?_
    rintro e w4 ⟨rfl, hb⟩
    have HB4 := Lib.hid (HB3.out.trans (hb.mono HB3.out.size))
    clear hb
    go_wp2
    go_ret
    exact ⟨rfl, HB4.out⟩
  have f20 : ¬ (20 : Int) < (n : Int) + 3 := by omega
  obtain ⟨L, M, hL, hM2, hM1, hL6, hM6⟩ := HQ.out (by omega)
  go_wp2_with fail
  refine (HK3.out w2 R2).mono ?_
  rintro e w3 ⟨rfl, hb⟩
  have HBw3 := Lib.hid (b2.trans (hb.mono b2.size))
  have HRw3 := Lib.hid ((R2.keep hb (Nat.le_refl _)).more hb.size)
  clear R2 hb b2
  have own10 : (w3.alloc (.cells #[] 9)).ownsRow w3.heap.size 9 1 (.slice (some ⟨w3.heap.size, 0, none⟩) 0 0) 0 [] := World.ownsRow_made w3 #[] 0 (Nat.le_refl _) (by unfold maxLen; omega) rfl
  have RA1 := HRw3.out.keep ((Below.refl w3.heap.size w3).alloc (Nat.le_refl _) (.cells #[] 9)) (Nat.le_refl _)
  go_wp2_with (at_builtin; refine wpList_append_own _ rfl _ _ 23 rfl w3.heap.size 9 i0 (.string ByteArray.empty) 1 16 Tryz.underlying23 hI.out hZ0.out hZ1.out hZ2.out rfl (by decide) _ _ _ rfl own10 ⟨g1, 0, none⟩ n c1 (strs T) rfl (by rw [strs_len, HN.out, Nat.mul_one]) (news_rd RA1) (strs_one T) (by unfold maxLen; omega) (by omega) (by simp) ?_)
  intro v1a w1a own1a hg1a hiff
  obtain ⟨g1a, c1a, rfl⟩ := own_some own1a (by simpa using hiff)
  have b1a : Below w3.heap.size w3 w1a := ((Below.refl w3.heap.size w3).alloc (Nat.le_refl _) _).grown hg1a (by simp) (fun k hk => by injection hk with hk; rw [← hk]; exact Nat.le_refl _)
  (try simp only [Nat.zero_add, List.nil_append] at own1a)
  (try simp only [Nat.zero_add])
  have z1a := b1a.size
  clear RA1 own10 hiff hg1a
  go_wp2_with (at_builtin; refine wpList_append_own _ rfl _ _ 23 rfl w3.heap.size 9 i0 (.string ByteArray.empty) 1 16 Tryz.underlying23 hI.out hZ0.out hZ1.out hZ2.out rfl (by decide) _ _ _ rfl (own1a.alloc _) ⟨w1a.heap.size, 0, none⟩ 1 1 (strs [levB]) rfl rfl (news_rd (Rd.lit w1a [levB] 9)) (strs_one _) (by unfold maxLen; omega) (by omega) (by simp; omega) ?_)
  intro v1b w1b own1b hg1b hiff
  obtain ⟨g1b, c1b, rfl⟩ := own_some own1b (by simpa using hiff)
  have b1b : Below w3.heap.size w3 w1b := (b1a.alloc z1a _).grown hg1b (by simp; omega) (fun k hk => by
    have := (own1a.lt k hk).1
    exact this)
  have TX1 : Texts w3.heap.size w1b (some ⟨g1b, 0, none⟩) c1b (T ++ [levB]) := by
    unfold Texts
    rw [List.length_append, HN.out, show strs (T ++ [levB]) = strs T ++ strs [levB] by unfold strs; exact List.map_append]
    exact own1b
  have RB1 := TX1.rd
  have hc1 := TX1.cap
  rw [List.length_append, HN.out] at RB1 hc1
  have hsm1 : Small 5010 (T ++ [levB]) := fun s hs => by
    rcases List.mem_append.1 hs with q | q
    · exact HSM.out s q
    · exact (by decide : ∀ s ∈ [levB], s.size ≤ 5010) s q
  have bb1 : Below w.heap.size w w1b := HBw3.out.trans (b1b.mono HBw3.out.size)
  have K1 := RS_impl (n + 1) c1b _ (T ++ [levB]) w1b RB1 hc1 (by omega) (hsm1.get _) (HT.out.b bb1) (HM.out.b bb1)
  rw [hL] at K1
  have HK1 := Lib.hid K1
  have HBB1 := Lib.hid (And.intro bb1 b1b)
  clear K1 bb1 b1b b1a hsm1 hc1 RB1 TX1 own1a own1b hg1b hiff z1a
  go_wp2_with fail
  refine HK1.out.mono ?_
  rintro e wr1 ⟨rfl, hb⟩
  have HBwr1 := Lib.hid (HBB1.out.1.trans (hb.mono HBB1.out.1.size))
  have HRwr1 := Lib.hid ((HRw3.out.keep (HBB1.out.2.trans (hb.mono HBB1.out.2.size)) (Nat.le_refl _)).more (Nat.le_trans HBB1.out.2.size hb.size))
  clear hb
  have own20 : (wr1.alloc (.cells #[] 9)).ownsRow wr1.heap.size 9 1 (.slice (some ⟨wr1.heap.size, 0, none⟩) 0 0) 0 [] := World.ownsRow_made wr1 #[] 0 (Nat.le_refl _) (by unfold maxLen; omega) rfl
  have RA2 := HRwr1.out.keep ((Below.refl wr1.heap.size wr1).alloc (Nat.le_refl _) (.cells #[] 9)) (Nat.le_refl _)
  go_wp2_with (at_builtin; refine wpList_append_own _ rfl _ _ 23 rfl wr1.heap.size 9 i0 (.string ByteArray.empty) 1 16 Tryz.underlying23 hI.out hZ0.out hZ1.out hZ2.out rfl (by decide) _ _ _ rfl own20 ⟨g1, 0, none⟩ n c1 (strs T) rfl (by rw [strs_len, HN.out, Nat.mul_one]) (news_rd RA2) (strs_one T) (by unfold maxLen; omega) (by omega) (by simp) ?_)
  intro v2a w2a own2a hg2a hiff
  obtain ⟨g2a, c2a, rfl⟩ := own_some own2a (by simpa using hiff)
  have b2a : Below wr1.heap.size wr1 w2a := ((Below.refl wr1.heap.size wr1).alloc (Nat.le_refl _) _).grown hg2a (by simp) (fun k hk => by injection hk with hk; rw [← hk]; exact Nat.le_refl _)
  (try simp only [Nat.zero_add, List.nil_append] at own2a)
  (try simp only [Nat.zero_add])
  have z2a := b2a.size
  clear RA2 own20 hiff hg2a
  go_wp2_with (at_builtin; refine wpList_append_own _ rfl _ _ 23 rfl wr1.heap.size 9 i0 (.string ByteArray.empty) 1 16 Tryz.underlying23 hI.out hZ0.out hZ1.out hZ2.out rfl (by decide) _ _ _ rfl (own2a.alloc _) ⟨w2a.heap.size, 0, none⟩ 3 3 (strs [datB, levB, levB]) rfl rfl (news_rd (Rd.lit w2a [datB, levB, levB] 9)) (strs_one _) (by unfold maxLen; omega) (by omega) (by simp; omega) ?_)
  intro v2b w2b own2b hg2b hiff
  obtain ⟨g2b, c2b, rfl⟩ := own_some own2b (by simpa using hiff)
  have b2b : Below wr1.heap.size wr1 w2b := (b2a.alloc z2a _).grown hg2b (by simp; omega) (fun k hk => by
    have := (own2a.lt k hk).1
    exact this)
  have TX2 : Texts wr1.heap.size w2b (some ⟨g2b, 0, none⟩) c2b (T ++ [datB, levB, levB]) := by
    unfold Texts
    rw [List.length_append, HN.out, show strs (T ++ [datB, levB, levB]) = strs T ++ strs [datB, levB, levB] by unfold strs; exact List.map_append]
    exact own2b
  have RB2 := TX2.rd
  have hc2 := TX2.cap
  rw [List.length_append, HN.out] at RB2 hc2
  have hsm2 : Small 5010 (T ++ [datB, levB, levB]) := fun s hs => by
    rcases List.mem_append.1 hs with q | q
    · exact HSM.out s q
    · exact (by decide : ∀ s ∈ [datB, levB, levB], s.size ≤ 5010) s q
  have bb2 : Below w.heap.size w w2b := HBwr1.out.trans (b2b.mono HBwr1.out.size)
  have K2 := RS_impl (n + 3) c2b _ (T ++ [datB, levB, levB]) w2b RB2 hc2 (by omega) (hsm2.get _) (HT.out.b bb2) (HM.out.b bb2)
  rw [hM2] at K2
  have HK2 := Lib.hid K2
  have HBB2 := Lib.hid (And.intro bb2 b2b)
  clear K2 bb2 b2b b2a hsm2 hc2 RB2 TX2 own2a own2b hg2b hiff z2a
  go_wp2_with fail
  refine HK2.out.mono ?_
  rintro e wr2 ⟨rfl, hb⟩
  have HBwr2 := Lib.hid (HBB2.out.1.trans (hb.mono HBB2.out.1.size))
  have HRwr2 := Lib.hid ((HRwr1.out.keep (HBB2.out.2.trans (hb.mono HBB2.out.2.size)) (Nat.le_refl _)).more (Nat.le_trans HBB2.out.2.size hb.size))
  clear hb
  have hOL := HOL.out
  have xs : x.size = O.length := by rw [← HX.out, S.size_mk]
  have za : (S.mk (O ++ L)).size = O.length + L.length := by rw [S.size_mk, List.length_append]
  have bs : (S.mk (O ++ (M ++ L))).size = O.length + (M.length + L.length) := by rw [S.size_mk, List.length_append, List.length_append]
  have ae : (S.mk (O ++ L)).extract O.length (S.mk (O ++ L)).size = S.mk L := by rw [ext_mk, za, List.drop_left, Nat.add_sub_cancel_left, List.take_of_length_le (Nat.le_refl _)]
  have be : (S.mk (O ++ (M ++ L))).extract O.length (S.mk (O ++ (M ++ L))).size = S.mk (M ++ L) := by rw [ext_mk, bs, List.drop_left, Nat.add_sub_cancel_left, List.take_of_length_le (by rw [List.length_append]; exact Nat.le_refl _)]
  have ls : (S.mk L).size = L.length := S.size_mk L
  have ms : (S.mk (M ++ L)).size = M.length + L.length := by rw [S.size_mk, List.length_append]
  have me : (S.mk (M ++ L)).extract M.length (S.mk (M ++ L)).size = S.mk L := by rw [ext_mk, ms, List.drop_left, Nat.add_sub_cancel_left, List.take_of_length_le (Nat.le_refl _)]
  generalize S.mk (O ++ L) = A at *
  generalize S.mk (O ++ (M ++ L)) = Bb at *
  generalize S.mk (M ++ L) = Y at *
  generalize S.mk L = Z at *
  rw [← xs] at ae be
  have hs1 : ∀ W : World, (Instr.slice 9 (.string A) (some (.int .i64 (x.size : Int))) none none).run Tryz.prog W = .ok (.string Z) W := fun W => by
    have h := run_slice_string_l (P := Tryz.prog) W 9 A Tryz.underlying9 .i64 (x.size : Int) (by omega) (by omega)
    rw [show ((x.size : Nat) : Int).toNat = x.size by omega, ae] at h
    exact h
  have hs2 : ∀ W : World, (Instr.slice 9 (.string Bb) (some (.int .i64 (x.size : Int))) none none).run Tryz.prog W = .ok (.string Y) W := fun W => by
    have h := run_slice_string_l (P := Tryz.prog) W 9 Bb Tryz.underlying9 .i64 (x.size : Int) (by omega) (by omega)
    rw [show ((x.size : Nat) : Int).toNat = x.size by omega, be] at h
    exact h
  have ew : IntKind.i64.wrap ((Y.size : Int) - (Z.size : Int)) = (M.length : Int) := by
    rw [show (Y.size : Int) - (Z.size : Int) = (M.length : Int) by omega]
    exact IntWalk.i64_in _ (by omega)
  have ed : (Y.size : Int) - (Z.size : Int) = (M.length : Int) := by omega
  have hs3 : ∀ W : World, (Instr.slice 9 (.string Y) (some (.int .i64 (M.length : Int))) none none).run Tryz.prog W = .ok (.string Z) W := fun W => by
    have h := run_slice_string_l (P := Tryz.prog) W 9 Y Tryz.underlying9 .i64 (M.length : Int) (by omega) (by omega)
    rw [show ((M.length : Nat) : Int).toNat = M.length by omega, me] at h
    exact h
  have f1 : ¬ A.size < x.size := by omega
  have f2 : ¬ Bb.size < x.size := by omega
  have f3 : Z.size < Y.size := by omega
  have bM : -9223372036854775808 ≤ (M.length : Int) ∧ (M.length : Int) ≤ 9223372036854775807 := by omega
  have ew2 := IntWalk.wrap64_in _ bM
  clear ae be za bs ls ms xs hOL hM1 hL6 hM6 hL hM2 bM
  go_wp2
  go_ret
  exact ⟨rfl, HBwr2.out⟩

/-! ### THE ROW's STEP: WRITTEN OUT: LEAVE IT -/
set_option maxRecDepth 100000 in
theorem lifted (os : Os) (started : os.Started) (H : Type) (enc : TypeId × Value → H) :
    ReturnsInHanded {} Tryz.checked os 4 .any (fun w args => (Rows.fnSessionQuestionsSpec.pre enc Tryz.prog Tryz.f4 [] false w args ∧ laidMetH Tryz.prog laidL w) ∧ sizedMet enc Tryz.prog Tryz.f4 (OpenSpec.ofChange Rows.fnSessionQuestionsSpec) false w args) (Rows.fnSessionQuestionsSpec.post enc Tryz.prog Tryz.f4 false true false false) := by
  refine hands_and_shaped (C := Tryz.checked) (X := fun w _ => laidMetH Tryz.prog laidL w) (fun _ _ _ hh h => h.of_heap hh) own started (by kernel_rfl) Tryz.func4
    (ChangeSpec.witness_shaped (enc := enc) (C := Tryz.checked) (os := os) (X := fun w _ => laidMetH Tryz.prog laidL w) false (World.laidAll Tryz.prog os laidL) #[.slice none 0 0] 8 (World.laidAll_os _ _ _) (door_shaped os) (by kernel_rfl) (by kernel_rfl) (by kernel_rfl) (door_met os _)) ?_
  intro W base args ds gs before hval0 hW hL hSh
  have hval : ∀ (j : Nat) t v, Tryz.f4.params[j]? = some t → args[j]? = some v → Value.okWide Tryz.prog W .any base t v := hval0
  have hW' := hW
  obtain ⟨p, q, hA0, hV, rfl, hfz, hnd⟩ := hW
  have hA : DataW.TrodAll enc Tryz.prog W 0 (fun _ => true) true Tryz.f4.params.toList args.toList ds p := hA0
  rw [Tryz.params4] at hA hval
  obtain ⟨v0, vs0, d0, ds0, p0, q0, hargs, rfl, rfl, h0, r0⟩ := trodAll_cons hA
  obtain ⟨rfl, rfl, rfl⟩ := trodAll_nil r0
  obtain rfl : args = #[v0] := by cases args; simp_all
  obtain ⟨rfl, rfl⟩ := trodVars_none hV
  obtain ⟨a0, len0, cap0, rfl⟩ := okWide_slice Tryz.underlying22 (hval 0 22 v0 rfl rfl)
  have k0 := h0
  have lt0 : ∀ x ∈ p0, x.block < W.heap.size := by obtain ⟨m, hm⟩ := k0; exact DataW.trod_lt m _ _ _ hm
  obtain ⟨z0, w0⟩ : ∃ zs, IsRow .u8 W a0 len0 cap0 zs := by
    obtain ⟨fuel, hf⟩ := h0
    rcases open_ints Tryz.underlying22 Tryz.underlying5 (by kernel_rfl) hf with ⟨hcs, _⟩ | ⟨x, l, c, zs, hcs, _, hl, hm, hz, _, hcell, hwz⟩
    · simp [Value.cells] at hcs
      obtain ⟨rfl, rfl, rfl⟩ := hcs
      exact ⟨[], .inl ⟨rfl, rfl, rfl, rfl⟩⟩
    · simp [Value.cells] at hcs
      obtain ⟨rfl, rfl, rfl⟩ := hcs
      exact ⟨zs, .inr ⟨_, rfl, hl, hm, by simpa using hz, hcell, hwz⟩⟩
  clear hA0 hval0
  refine (walk a0 len0 cap0 z0 W w0 (of_laid hL) (of_shaped hSh)).mono fun e W' ⟨he, bel⟩ => ?_
  subst he
  exact ⟨_, rfl, _, _, _, [], _, [], hW', trodAll_mk1 (shut_bool Tryz.underlying4 _), (trodAll_cons_mk (Below.trod laidOut (by kernel_rfl) (of_decide_eq_true (by kernel_rfl)) k0 bel lt0) trodAll_mk0), rfl, bel.frame _, fun h => by cases h⟩

theorem over : Rows.fnSessionQuestionsRow.holds Tryz.pinned (OpenSpec.ofChange Rows.fnSessionQuestionsSpec) :=
  OpenClaim.holds_of_wide 4 Tryz.f4 rfl rfl rfl rfl rfl rfl rfl ⟨rfl, rfl, rfl, rfl, rfl⟩ rfl rfl rfl rfl rfl (by kernel_rfl) Tryz.func4 (by kernel_rfl)
    (of_decide_eq_true (by kernel_rfl)) (by unfold Func.isWrapper; first | (rw [if_pos (by decide +kernel)]; kernel_rfl) | (rw [if_neg (by decide +kernel)]; exact ⟨rfl, rfl⟩))
    (fun os started H enc _ => lifted os started H enc)

/-- ████ THE STATEMENT ████ -/
theorem proved : Rows.FnSessionQuestionsCardSaid :=
  Claim7.holds_tied_plain_at .later [] [.data, .data, .data, .data, .pinned] true (true, "39cf604a1134d02f58146b436bc1bd784b84c6aff116df562854736a3991f4b0") false over (fun _ h => by cases h) (by kernel_rfl) (fun _ h => by cases h) fnSessionQuestions_row_tie rfl ⟨rfl, rfl⟩ (by kernel_rfl) rfl
    (fun f fn hf hfn => by
      obtain rfl : f = 4 := Option.some.inj ((show Tryz.prog.funcNamed "loop.example/satelliteclock/laws.FnSessionQuestions" = some 4 by kernel_rfl).symm.trans hf) |>.symm
      obtain rfl : fn = Tryz.f4 := (Option.some.inj (Tryz.func4.symm.trans hfn)).symm
      exact ⟨by kernel_rfl, fun j t ht => by
        rw [Tryz.params4] at ht
        have hm : t ∈ [22] := by simpa using Array.mem_of_getElem? ht
        have hall : ([22].all fun u => !Tryz.prog.wantsStandIn u) = true := by kernel_rfl
        exact (show Tryz.prog.wantsStandIn t = false by simpa using List.all_eq_true.1 hall t hm)⟩)
    (by kernel_rfl)
#print axioms proved
end Go.Proofs.YtpfdjmffgbbmdaaGreatDoor.fnSessionQuestions
