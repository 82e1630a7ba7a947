/-
  PROVED: FnSessionPrefix: for every input the law returns true, and the input reads as it did. The condition that the row lists: the library's tables hold what the library lays in them; the given tie says that they do.
  The frame is as the kit prints it (proof-skeleton.mjs); the walk is mine.
-/
import Derived.Test.YtpfdjmffgbbmdaaGreatDoorRows
import Derived.Test.YtpfdjmffgbbmdaaGreatDoorSeL
import Derived.Test.YtpfdjmffgbbmdaaGreatDoorP4
import Derived.Test.YtpfdjmffgbbmdaaGreatDoorTie
import Derived.Test.YtpfdjmffgbbmdaaGreatDoorCards
import Derived.LaidMore
import Derived.OpenVars
import Derived.ChangeVars
import Derived.SevenTiedAt
import Derived.WalkKit
import Derived.ProofKit
import Derived.OpenShut
import Derived.ShutString
import Derived.ChangeOld
import Derived.Below
namespace Go.Proofs.YtpfdjmffgbbmdaaGreatDoor.fnSessionPrefix
open Go.ChangeShapes Go.WideShapes Go.ChangeAt Go.RowKit
open Go.ChangeMaps (open_string shut_string)
set_option linter.unusedVariables false

theorem own : ownKnob Tryz.prog.godebug = none := by kernel_rfl
theorem laidOut : laidOutB Tryz.prog = true := by kernel_rfl

/-- WHAT THE WALK IS TOLD OF A SLICE OF INTEGERS THAT CAME IN: it is nil; or it leads to a row of 'cap' cells, the numbers 'zs' (the first 'len' are its elements, the rest its spare room), each fitting its kind. -/
def IsRow (k : IntKind) (w : World) (a : Option Addr) (len cap : Nat) (zs : List Int) : Prop :=
  (a = none ∧ len = 0 ∧ cap = 0 ∧ zs = []) ∨
  ∃ x, a = some x ∧ len ≤ cap ∧ cap ≤ maxLen ∧ zs.length = cap ∧ (∀ i, i < zs.length → w.cell? (x.add i) = some (.int k (zs.getD i 0))) ∧ ∀ n ∈ zs, (Lit.int k n).wf = true

/-! ### STEP 1: THE WALK: the Go text returns true, AND WRITES NOTHING THAT WAS THERE: 'Below w.heap.size w w'' (Derived/Below.lean: '.refl', '.alloc', '.drew', '.setCell' at a new block, '.trans'). Open each 'IsRow' by 'rcases' AHEAD of 'go_enter'; part every test ahead of the walk. -/
set_option maxRecDepth 100000 in
set_option maxHeartbeats 8000000 in
theorem walk (a0 : Option Addr) (len0 cap0 : Nat) (z0 : List Int) (w : World) (w0 : IsRow .u8 w a0 len0 cap0 z0) (hT : Tb w) (hM : Mx w) :
    Calls Tryz.prog 3 #[.slice a0 len0 cap0] w fun e w' => e = .returned (.bool true) ∧ Below w.heap.size w w' := by
  by_cases hl : 1048576 < len0
  · have hl' : (1048576 : Int) < (len0 : Int) := by omega
    clear w0 hl
    go_enter Tryz.func3, Tryz.ntmps3
    go_wp2
    go_ret
    exact ⟨rfl, Below.refl _ _⟩
  have hl' : ¬ (1048576 : Int) < (len0 : Int) := by omega
  obtain ⟨hc, hcap⟩ := code_of w0 (by omega)
  clear w0 hl
  go_enter Tryz.func3, Tryz.ntmps3
  go_wp2_with fail
  refine (DrawRunSession_any w a0 len0 cap0 hc hcap).mono ?_
  rintro e w1 ⟨g1, c1, T, rfl, hl, hsm, hTx, bl⟩
  clear hc hcap
  have HT := Lib.hid hT
  have HM := Lib.hid hM
  have R1 := hTx.rd
  have hcap := hTx.cap
  have HSM := Lib.hid hsm
  clear hTx hsm hT hM
  go_wp2_with fail
  refine (RS_impl _ c1 _ T w1 R1 hcap (by omega) (HSM.out.get _) (HT.out.b bl) (HM.out.b bl)).mono ?_
  rintro e w2 ⟨rfl, hb⟩
  have b2 := bl.trans (hb.mono bl.size)
  have R2 := (R1.keep hb (Nat.le_refl _)).more hb.size
  clear R1 hb bl
  go_wp2_with fail
  refine (RS_spec _ c1 _ T w2 R2 (by omega) (HSM.out.get _)).mono ?_
  rintro e w3 ⟨rfl, hb⟩
  have b3 := b2.trans (hb.mono b2.size)
  have R3 := (R2.keep hb (Nat.le_refl _)).more hb.size
  clear R2 hb b2
  have HO := Lib.hid (fun k (hk : k ≤ T.length) => outT_take T k hk)
  obtain ⟨O, hO⟩ : ∃ O, outT T = O := ⟨_, rfl⟩
  rw [hO] at HO ⊢
  have HOL := Lib.hid (show O.length ≤ 620 by rw [← hO]; exact outT_len T)
  clear hO
  generalize hx : S.mk O = x at *
  have HX := Lib.hid hx
  clear hx
  have HR := Lib.hid R3
  have HB := Lib.hid b3
  have HCAP := Lib.hid hcap
  clear R3 b3 hcap
  obtain ⟨n, hn⟩ : ∃ n, T.length = n := ⟨_, rfl⟩
  rw [hn] at HR HO HCAP hl ⊢
  have HN := Lib.hid hn
  clear hn
  go_wp2_with fail
  go_loopw [5] (fun i wr => ∃ k : Nat, k ≤ n ∧ i = .int .i64 k ∧ Below w3.heap.size w3 wr) (fun i _ => n - (intOf i).toNat)
  case atStart => exact ⟨0, Nat.zero_le _, rfl, Below.refl _ _⟩
  case round =>
    obtain ⟨k, hk, rfl, hb⟩ := hrel
    by_cases hlt : k < n
    · have hkc : (k : Int) ≤ (c1 : Int) := by have := HCAP.out; omega
      have RK := ((HR.out.keep hb (Nat.le_refl _)).more hb.size).take k (by omega)
      have bw := HB.out.trans (hb.mono HB.out.size)
      have HK := Lib.hid (RS_impl k c1 _ (T.take k) wr RK (by omega) (by omega) ((HSM.out.take k).get _) (HT.out.b bw) (HM.out.b bw))
      obtain ⟨r, hr⟩ := HO.out k (by omega)
      obtain ⟨P, hP⟩ : ∃ P, outT (T.take k) = P := ⟨_, rfl⟩
      rw [hP] at HK hr
      have hxs : x.size = P.length + r.length := by rw [← HX.out, S.size_mk, hr, List.length_append]
      have hps : (S.mk P).size = P.length := S.size_mk P
      have hex : x.extract 0 P.length = S.mk P := by rw [← HX.out, ext_mk, hr, List.drop_zero, Nat.sub_zero, List.take_left]
      obtain ⟨p, hp⟩ : ∃ p, S.mk P = p := ⟨_, rfl⟩
      rw [hp] at HK hps hex
      rw [← hps] at hxs hex
      have hOL := HOL.out
      have hsz : p.size ≤ x.size := by omega
      have h620 : x.size ≤ 620 := by rw [← HX.out, S.size_mk]; exact hOL
      have hsl : ∀ W : World, (Instr.slice 9 (.string x) none (some (.int .i64 (p.size : Int))) none).run Tryz.prog W = .ok (.string p) W := fun W => by
        have h := run_slice_string_h (P := Tryz.prog) W 9 x Tryz.underlying9 .i64 (p.size : Int) (by omega) (by omega)
        rw [show ((p.size : Nat) : Int).toNat = p.size by omega, hex] at h
        exact h
      have f1 : ¬ (x.size : Int) < (p.size : Int) := by omega
      have HBW := Lib.hid hb
      clear RK bw hb hr hP hp hps hex hxs hOL
      go_wp2_with fail
      refine HK.out.mono ?_
      rintro e w5 ⟨rfl, hb5⟩
      have HB5 := Lib.hid (HBW.out.trans (hb5.mono HBW.out.size))
      clear hb5
      go_wp2
      go_roundw
      case rel => exact ⟨k + 1, by omega, by go_num, HB5.out⟩
      case measure => simp [intOf]; omega
    · have HF := Lib.hid (HB.out.trans (hb.mono HB.out.size))
      obtain rfl : k = n := by omega
      clear hb
      go_wp2
      go_ret
      exact ⟨rfl, HF.out⟩

/-! ### THE ROW's STEP: WRITTEN OUT: LEAVE IT -/
set_option maxRecDepth 100000 in
theorem lifted (os : Os) (started : os.Started) (H : Type) (enc : TypeId × Value → H) :
    ReturnsInHanded {} Tryz.checked os 3 .any (fun w args => (Rows.fnSessionPrefixSpec.pre enc Tryz.prog Tryz.f3 [] false w args ∧ laidMetH Tryz.prog laidL w) ∧ sizedMet enc Tryz.prog Tryz.f3 (OpenSpec.ofChange Rows.fnSessionPrefixSpec) false w args) (Rows.fnSessionPrefixSpec.post enc Tryz.prog Tryz.f3 false true false false) := by
  refine hands_and_shaped (C := Tryz.checked) (X := fun w _ => laidMetH Tryz.prog laidL w) (fun _ _ _ hh h => h.of_heap hh) own started (by kernel_rfl) Tryz.func3
    (ChangeSpec.witness_shaped (enc := enc) (C := Tryz.checked) (os := os) (X := fun w _ => laidMetH Tryz.prog laidL w) false (World.laidAll Tryz.prog os laidL) #[.slice none 0 0] 8 (World.laidAll_os _ _ _) (door_shaped os) (by kernel_rfl) (by kernel_rfl) (by kernel_rfl) (door_met os _)) ?_
  intro W base args ds gs before hval0 hW hL hSh
  have hval : ∀ (j : Nat) t v, Tryz.f3.params[j]? = some t → args[j]? = some v → Value.okWide Tryz.prog W .any base t v := hval0
  have hW' := hW
  obtain ⟨p, q, hA0, hV, rfl, hfz, hnd⟩ := hW
  have hA : DataW.TrodAll enc Tryz.prog W 0 (fun _ => true) true Tryz.f3.params.toList args.toList ds p := hA0
  rw [Tryz.params3] at hA hval
  obtain ⟨v0, vs0, d0, ds0, p0, q0, hargs, rfl, rfl, h0, r0⟩ := trodAll_cons hA
  obtain ⟨rfl, rfl, rfl⟩ := trodAll_nil r0
  obtain rfl : args = #[v0] := by cases args; simp_all
  obtain ⟨rfl, rfl⟩ := trodVars_none hV
  obtain ⟨a0, len0, cap0, rfl⟩ := okWide_slice Tryz.underlying22 (hval 0 22 v0 rfl rfl)
  have k0 := h0
  have lt0 : ∀ x ∈ p0, x.block < W.heap.size := by obtain ⟨m, hm⟩ := k0; exact DataW.trod_lt m _ _ _ hm
  obtain ⟨z0, w0⟩ : ∃ zs, IsRow .u8 W a0 len0 cap0 zs := by
    obtain ⟨fuel, hf⟩ := h0
    rcases open_ints Tryz.underlying22 Tryz.underlying5 (by kernel_rfl) hf with ⟨hcs, _⟩ | ⟨x, l, c, zs, hcs, _, hl, hm, hz, _, hcell, hwz⟩
    · simp [Value.cells] at hcs
      obtain ⟨rfl, rfl, rfl⟩ := hcs
      exact ⟨[], .inl ⟨rfl, rfl, rfl, rfl⟩⟩
    · simp [Value.cells] at hcs
      obtain ⟨rfl, rfl, rfl⟩ := hcs
      exact ⟨zs, .inr ⟨_, rfl, hl, hm, by simpa using hz, hcell, hwz⟩⟩
  clear hA0 hval0
  refine (walk a0 len0 cap0 z0 W w0 (of_laid hL) (of_shaped hSh)).mono fun e W' ⟨he, bel⟩ => ?_
  subst he
  exact ⟨_, rfl, _, _, _, [], _, [], hW', trodAll_mk1 (shut_bool Tryz.underlying4 _), (trodAll_cons_mk (Below.trod laidOut (by kernel_rfl) (of_decide_eq_true (by kernel_rfl)) k0 bel lt0) trodAll_mk0), rfl, bel.frame _, fun h => by cases h⟩

theorem over : Rows.fnSessionPrefixRow.holds Tryz.pinned (OpenSpec.ofChange Rows.fnSessionPrefixSpec) :=
  OpenClaim.holds_of_wide 3 Tryz.f3 rfl rfl rfl rfl rfl rfl rfl ⟨rfl, rfl, rfl, rfl, rfl⟩ rfl rfl rfl rfl rfl (by kernel_rfl) Tryz.func3 (by kernel_rfl)
    (of_decide_eq_true (by kernel_rfl)) (by unfold Func.isWrapper; first | (rw [if_pos (by decide +kernel)]; kernel_rfl) | (rw [if_neg (by decide +kernel)]; exact ⟨rfl, rfl⟩))
    (fun os started H enc _ => lifted os started H enc)

/-- ████ THE STATEMENT ████ -/
theorem proved : Rows.FnSessionPrefixCardSaid :=
  Claim7.holds_tied_plain_at .later [] [.data, .data, .data, .data, .pinned] true (true, "39cf604a1134d02f58146b436bc1bd784b84c6aff116df562854736a3991f4b0") false over (fun _ h => by cases h) (by kernel_rfl) (fun _ h => by cases h) fnSessionPrefix_row_tie rfl ⟨rfl, rfl⟩ (by kernel_rfl) rfl
    (fun f fn hf hfn => by
      obtain rfl : f = 3 := Option.some.inj ((show Tryz.prog.funcNamed "loop.example/satelliteclock/laws.FnSessionPrefix" = some 3 by kernel_rfl).symm.trans hf) |>.symm
      obtain rfl : fn = Tryz.f3 := (Option.some.inj (Tryz.func3.symm.trans hfn)).symm
      exact ⟨by kernel_rfl, fun j t ht => by
        rw [Tryz.params3] at ht
        have hm : t ∈ [22] := by simpa using Array.mem_of_getElem? ht
        have hall : ([22].all fun u => !Tryz.prog.wantsStandIn u) = true := by kernel_rfl
        exact (show Tryz.prog.wantsStandIn t = false by simpa using List.all_eq_true.1 hall t hm)⟩)
    (by kernel_rfl)
#print axioms proved
end Go.Proofs.YtpfdjmffgbbmdaaGreatDoor.fnSessionPrefix
