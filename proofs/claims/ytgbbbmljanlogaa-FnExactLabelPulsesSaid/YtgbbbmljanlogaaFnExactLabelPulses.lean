/-
  PROVED: FnExactLabelPulses: for every input the law returns true, and the input reads as it did. No condition.
  The frame is as the kit prints it (proof-skeleton.mjs); the walk is mine.
-/
import Derived.Test.YtgbbbmljanlogaaRows
import Derived.Test.YtgbbbmljanlogaaMarkL
import Derived.Test.YtgbbbmljanlogaaJoin
import Derived.WalkKit
import Derived.ProofKit
import Derived.OpenShut
import Derived.ShutString
import Derived.ChangeOld
import Derived.Below
namespace Go.Proofs.Ytgbbbmljanlogaa.fnExactLabelPulses
open Go.ChangeShapes Go.WideShapes Go.ChangeAt Go.RowKit
set_option linter.unusedVariables false

def IsRow (k : IntKind) (w : World) (a : Option Addr) (len cap : Nat) (zs : List Int) : Prop :=
  (a = none ∧ len = 0 ∧ cap = 0 ∧ zs = []) ∨
  ∃ x, a = some x ∧ len ≤ cap ∧ cap ≤ maxLen ∧ zs.length = cap ∧ (∀ i, i < zs.length → w.cell? (x.add i) = some (.int k (zs.getD i 0))) ∧ ∀ n ∈ zs, (Lit.int k n).wf = true
theorem own : ownKnob Try.prog.godebug = none := by kernel_rfl
theorem laidOut : laidOutB Try.prog = true := by kernel_rfl

/-- What stays: the arguments and the model's answer. -/
structure Kp (w v : World) (a0 a1 a4 : Option Addr) (n0 n1 q B4 : Nat) (l : List Int) (ls d : List (Int × Int)) : Prop where
  A : Lst w.heap.size v a0 n0 l
  L : Sps w.heap.size v a1 n1 ls
  P : Sps B4 v a4 q d
  bl : Below w.heap.size w v
  le : w.heap.size ≤ B4
  le2 : B4 ≤ v.heap.size
theorem Kp.b {w v v' : World} {a0 a1 a4 : Option Addr} {n0 n1 q B4 C : Nat} {l : List Int} {ls d : List (Int × Int)} (h : Kp w v a0 a1 a4 n0 n1 q B4 l ls d) (hb : Below C v v') (hC : B4 ≤ C) : Kp w v' a0 a1 a4 n0 n1 q B4 l ls d :=
  ⟨h.A.below (hb.mono (Nat.le_trans h.le hC)), h.L.below (hb.mono (Nat.le_trans h.le hC)), h.P.below (hb.mono hC), h.bl.trans (hb.mono (Nat.le_trans h.le hC)), h.le, Nat.le_trans h.le2 hb.size⟩
/-- The lists of one's own: copies of the arguments and the program's answer. -/
structure Kx (v : World) (E5 E6 B7 : Nat) (a7 : Option Addr) (n0 n1 q c7 : Nat) (l : List Int) (ls d : List (Int × Int)) : Prop where
  X : Lst v.heap.size v (some ⟨E5, 0, none⟩) n0 l
  M : Mk v E5 (some ⟨E5, 0, none⟩) n0 n0
  Y : Sps v.heap.size v (some ⟨E6, 0, none⟩) n1 ls
  N : MkV v E6 (some ⟨E6, 0, none⟩) n1 n1
  G : Sps v.heap.size v a7 q d
  MG : MkV v B7 a7 q c7
theorem sps_keep {w w' : World} {a : Option Addr} {n : Nat} {l : List (Int × Int)} (h : Sps w.heap.size w a n l) (hb : Below w.heap.size w w') : Sps w'.heap.size w' a n l := (h.below hb).more hb.size
theorem Kx.b {v v' : World} {E5 E6 B7 : Nat} {a7 : Option Addr} {n0 n1 q c7 : Nat} {l : List Int} {ls d : List (Int × Int)} (h : Kx v E5 E6 B7 a7 n0 n1 q c7 l ls d) (hb : Below v.heap.size v v') : Kx v' E5 E6 B7 a7 n0 n1 q c7 l ls d :=
  ⟨lst_same h.X hb (Nat.le_refl _), h.M.keep hb, sps_keep h.Y hb, h.N.keep hb, sps_keep h.G hb, h.MG.keep hb⟩
theorem mkV_ne {w : World} {B E n c : Nat} {a : Option Addr} (h : MkV w B a n c) (hE : E < B) : ∀ x, a = some x → x.block ≠ E := fun x hx => by
  rcases h with h | ⟨g, e, h1, _⟩
  · rw [h.1] at hx; cases hx
  · rw [e] at hx; injection hx with hx; subst hx; show g ≠ E; omega
set_option maxRecDepth 100000 in
set_option maxHeartbeats 8000000 in
theorem walk (a0 : Option Addr) (len0 cap0 : Nat) (z0 : List Int) (a1 : Option Addr) (len1 cap1 : Nat) (w : World) (w0 : IsRow .i64 w a0 len0 cap0 z0) (w1 : LbRow w a1 len1 cap1) :
    Calls Try.prog 7 #[.slice a0 len0 cap0, .slice a1 len1 cap1] w fun e w' => e = .returned (.bool true) ∧ Below w.heap.size w w' := by
  by_cases hl : 1048576 < len0
  · have hl' : (1048576 : Int) < (len0 : Int) := by omega
    clear w0 w1 hl
    go_enter Try.func7, Try.ntmps7
    go_wp2
    go_ret
    exact ⟨rfl, Below.refl _ _⟩
  have hl' : ¬ (1048576 : Int) < (len0 : Int) := by omega
  obtain ⟨l, hA⟩ := lst_of w0 (by omega)
  clear w0
  by_cases hm : 1048576 < len1
  · have hb := lbrow_bd w1
    clear w1 hA
    go_enter Try.func7, Try.ntmps7
    go_wp2_with (go_at_call 20; refine (szLabelS_no _ _ _ _ hm hb).mono ?_; rintro e w' ⟨rfl, rfl⟩)
    go_ret
    exact ⟨rfl, Below.refl _ _⟩
  have hle : len0 ≤ 1048576 := by omega
  have hle1 : len1 ≤ 1048576 := by omega
  obtain ⟨ls, hL⟩ := lb_of w1 hle1
  clear w1 hl hm
  have hdl := G.lp_len l ls
  have k1 := fun n1 c1 n2 c2 a1 a2 w' (h : Lst w'.heap.size w' a1 n1 l) (g : Sps w'.heap.size w' a2 n2 ls) => LP_spec n1 c1 n2 c2 a1 a2 l ls w' h g
  have k2 := fun n1 c1 n2 c2 a1 a2 w' (h : Lst w'.heap.size w' a1 n1 l) (g : Sps w'.heap.size w' a2 n2 ls) => LP_impl n1 c1 n2 c2 a1 a2 l ls w' h g
  have q1 := hA.1
  have q2 := hL.1
  generalize G.lp l ls = d at *
  obtain ⟨q, hq⟩ : ∃ q, d.length = q := ⟨_, rfl⟩
  have hq16 : q ≤ 16 := by omega
  have HQ := Lib.hid hq
  have HA0 := Lib.hid q1
  have HA1 := Lib.hid q2
  have K1 := Lib.hid k1
  have K2 := Lib.hid k2
  clear k1 k2 hq hdl q1 q2
  go_enter Try.func7, Try.ntmps7
  go_wp2_with fail
  refine (szLabelS_ok _ _ _ _ hle1).mono ?_
  rintro e w1 ⟨⟨z, rfl, hz⟩, rfl⟩
  have hz' : ¬ z < 0 := by omega
  go_wp2_with fail
  refine (toIntS_any len0 cap0 a0 l w hA).mono ?_
  rintro e w2 ⟨rfl, hX2, b2⟩
  have hA2 := hA.below b2
  have hL2 := hL.below b2
  clear hA hL
  go_wp2_with fail
  refine (toLabelS_any len1 cap1 a1 ls w2 (hL2.more b2.size)).mono ?_
  rintro e w3 ⟨rfl, hY3, b3⟩
  have hX3 := lst_same hX2 b3 (Nat.le_refl _)
  have hA3 := hA2.below (b3.mono b2.size)
  have hL3 := hL2.below (b3.mono b2.size)
  have bl3 := b2.trans (b3.mono b2.size)
  clear hX2 hA2 hL2 b2 b3
  go_wp2_with fail
  refine (K1.out _ _ _ _ _ _ _ hX3 hY3).mono ?_
  rintro e w4 ⟨a4, c4, rfl, N4, b4⟩
  have P4 := prs_sps' N4 (by have := HQ.out; omega)
  rw [HQ.out] at P4 ⊢
  have kp4 : Kp w w4 a0 a1 a4 len0 len1 q w4.heap.size l ls d := ⟨hA3.below (b4.mono bl3.size), hL3.below (b4.mono bl3.size), P4, bl3.trans (b4.mono bl3.size), Nat.le_trans bl3.size b4.size, Nat.le_refl _⟩
  clear hX3 hY3 hA3 hL3 bl3 N4 P4 b4
  go_wp2_with fail
  refine (toIntS_own len0 cap0 a0 l w4 (kp4.A.more kp4.le)).mono ?_
  rintro e w5 ⟨rfl, X5, b5⟩
  have kp5 := kp4.b b5 (Nat.le_refl _)
  have M5 := X5.mk
  have L5 := X5.lst (by have := HA0.out; omega)
  rw [HA0.out] at M5 L5
  have h45 : w4.heap.size < w5.heap.size := by
    rcases M5 with ⟨g, _⟩ | ⟨g, e, h1, h2, _⟩
    · cases g
    · injection e with e; injection e with e; omega
  generalize w4.heap.size = B4 at *
  clear kp4 X5 b5
  go_wp2_with fail
  refine (toLabelS_own len1 cap1 a1 ls w5 (kp5.L.more kp5.bl.size)).mono ?_
  rintro e w6 ⟨rfl, Y6, b6⟩
  have kp6 := kp5.b b6 kp5.le2
  have M6 := M5.keep b6
  have L6 := lst_same L5 b6 (Nat.le_refl _)
  have N6 := Y6.mkV
  have V6 := prs_sps' Y6 (by have := HA1.out; omega)
  rw [HA1.out] at N6 V6
  have h56 : w5.heap.size < w6.heap.size := by
    rcases N6 with ⟨g, _⟩ | ⟨g, e, h1, h2, _⟩
    · cases g
    · injection e with e; injection e with e; omega
  generalize w5.heap.size = B5 at *
  clear kp5 M5 L5 Y6 b6
  go_wp2_with fail
  refine (K2.out _ _ _ _ _ _ _ L6 V6).mono ?_
  rintro e w7 ⟨a7, c7, rfl, N7, b7⟩
  have G7 := prs_sps' N7 (by have := HQ.out; omega)
  have MG7 := N7.mkV
  rw [HQ.out] at G7 MG7 ⊢
  have kp7 := kp6.b b7 kp6.le2
  have kx7 : Kx w7 B4 B5 w6.heap.size a7 len0 len1 q c7 l ls d := ⟨lst_same L6 b7 (Nat.le_refl _), M6.keep b7, sps_keep V6 b7, N6.keep b7, G7, MG7⟩
  have h67 := b7.size
  generalize w6.heap.size = B6 at *
  clear kp6 M6 L6 N6 V6 N7 G7 MG7 b7
  go_wp2_with fail
  refine (eqLabelS_same q c7 c4 a7 a4 d w7 kx7.G (kp7.P.more kp7.le2)).mono ?_
  rintro e w8 ⟨rfl, b8⟩
  have kp8 := kp7.b b8 kp7.le2
  have kx8 := kx7.b b8
  have h78 := b8.size
  clear kp7 kx7 b8
  go_wp2_with fail
  refine (toIntS_any len0 cap0 a0 l w8 (kp8.A.more kp8.bl.size)).mono ?_
  rintro e w9 ⟨rfl, hX9, b9⟩
  have kp9 := kp8.b b9 kp8.le2
  have kx9 := kx8.b b9
  have h89 := b9.size
  clear kp8 kx8 b9
  go_wp2_with fail
  refine (eqIntS_any len0 len0 len0 _ _ _ l w9 kx9.X hX9).mono ?_
  rintro e w10 ⟨rfl, q10⟩
  have kp10 := kp9.b q10.below (Nat.le_refl _)
  have kx10 := kx9.b q10.below
  have h910 := (q10.below (B := 0)).size
  clear kp9 kx9 q10 hX9
  go_wp2_with fail
  refine (toLabelS_any len1 cap1 a1 ls w10 (kp10.L.more kp10.bl.size)).mono ?_
  rintro e w11 ⟨rfl, hY11, b11⟩
  have kp11 := kp10.b b11 kp10.le2
  have kx11 := kx10.b b11
  have h1011 := b11.size
  clear kp10 kx10 b11
  go_wp2_with fail
  refine (eqLabelS_same len1 len1 len1 _ _ ls w11 kx11.Y hY11).mono ?_
  rintro e w12 ⟨rfl, b12⟩
  have kp12 := kp11.b b12 kp11.le2
  have kx12 := kx11.b b12
  have h1112 := b12.size
  clear kp11 kx11 b12 hY11
  go_wp2_with fail
  refine (mark_any w12 _ len0 len0 _ kx12.M hle).mono ?_
  rintro e w13 ⟨rfl, W13⟩
  obtain ⟨W, hsz13⟩ : Wi w12 w13 B4 len0 ∧ w13.heap.size = w12.heap.size := ⟨by
    rcases W13 with ⟨h, _⟩ | ⟨g, e, _, hw⟩
    · cases h
    · injection e with e; injection e with e; subst e; exact hw, W13.size⟩
  have kp13 := kp12.b (W.bel B4 (Nat.le_refl _)) (Nat.le_refl _)
  have ho : ∀ b o, b ≠ B4 → w13.cell? ⟨b, o, none⟩ = w12.cell? ⟨b, o, none⟩ := fun b o h => W.oth b o (.inl h)
  have N13 := mkV_oth kx12.N hsz13 ho W.fro (by omega)
  have G13 := sps_oth kx12.G ho (mkV_ne kx12.MG (by omega))
  have MG13 := mkV_oth kx12.MG hsz13 ho W.fro (by omega)
  rw [← hsz13] at G13
  clear kp12 kx12 W13 W ho
  have hc13 : ∀ i, i < len1 * 2 → (∃ x, w13.cell? ⟨B5, i, none⟩ = some (.int .i64 x)) ∧ w13.frozen? ⟨B5, i, none⟩ = false := by
    rcases N13 with ⟨h, _⟩ | ⟨g, e, _, _, h⟩
    · cases h
    · injection e with e; injection e with e; subst e; exact h
  clear N13
  go_wp2_with fail
  refine (markVs B5 len1 len1 _ w13 hle1 (by omega) (by omega) hc13).mono ?_
  rintro e w14 ⟨⟨z2, rfl, hz2⟩, W⟩
  have hz2' : ¬ z2 < 0 := by omega
  have kp14 := kp13.b (W.bel B4 (by omega)) (Nat.le_refl _)
  have ho : ∀ b o, b ≠ B5 → w14.cell? ⟨b, o, none⟩ = w13.cell? ⟨b, o, none⟩ := fun b o h => W.oth b o (.inl h)
  have hsz14 := W.size
  have G14 := sps_oth G13 ho (mkV_ne MG13 (by omega))
  have MG14 := mkV_oth MG13 hsz14 ho W.fro (by omega)
  rw [← hsz14] at G14
  clear kp13 G13 MG13 W ho hc13
  go_wp2_with fail
  refine (eqLabelS_same q c7 c4 a7 a4 d w14 G14 (kp14.P.more kp14.le2)).mono ?_
  rintro e w15 ⟨rfl, b15⟩
  have kp15 := kp14.b b15 kp14.le2
  have MG15 := MG14.keep b15
  have h1415 := b15.size
  clear kp14 G14 MG14 b15
  go_wp2_with fail
  refine (markV_any w15 _ q c7 a7 MG15 (by omega)).mono ?_
  rintro e w16 ⟨rfl, W⟩
  have U16 : Lst w16.heap.size w16 a7 (q * 2) (ups (q * 2)) := by
    rcases W with ⟨_, h0, _⟩ | ⟨g, rfl, hg, hw⟩
    · rw [h0]; exact Lst.none_ _ _ _
    · exact hw.ups (by omega) hg
  have bE : Below B4 w15 w16 := W.below (fun g hg => by
    rcases MG15 with h | ⟨g', e', h1, _⟩
    · rw [h.1] at hg; cases hg
    · rw [e'] at hg; injection hg with hg; subst hg; show B4 ≤ g'; omega)
  have kp16 := kp15.b bE (Nat.le_refl _)
  clear kp15 MG15 W bE
  go_wp2_with fail
  refine (heldV _ q c7 a7 w16 U16 (by omega)).mono ?_
  rintro e w17 ⟨rfl, q17⟩
  have U17 := lst_same U16 q17.below (Nat.le_refl _)
  have kp17 := kp16.b q17.below (Nat.le_refl _)
  have hq0 : ¬ ((q : Int) * 2 + 1 < 0) := by omega
  clear kp16 U16 q17
  go_wp2_with fail
  refine (toIntS_any len0 cap0 a0 l w17 (kp17.A.more kp17.bl.size)).mono ?_
  rintro e w18 ⟨rfl, hX18, b18⟩
  have U18 := lst_same U17 b18 (Nat.le_refl _)
  have kp18 := kp17.b b18 kp17.le2
  clear U17 kp17 b18
  go_wp2_with fail
  refine (toLabelS_any len1 cap1 a1 ls w18 (kp18.L.more kp18.bl.size)).mono ?_
  rintro e w19 ⟨rfl, hY19, b19⟩
  have U19 := lst_same U18 b19 (Nat.le_refl _)
  have hX19 := lst_same hX18 b19 (Nat.le_refl _)
  have kp19 := kp18.b b19 kp18.le2
  clear U18 hX18 kp18 b19
  go_wp2_with fail
  refine (K2.out _ _ _ _ _ _ _ hX19 hY19).mono ?_
  rintro e w20 ⟨a20, c20, rfl, N20, b20⟩
  have G20 := prs_sps' N20 (by have := HQ.out; omega)
  rw [HQ.out] at G20 ⊢
  have U20 := lst_same U19 b20 (Nat.le_refl _)
  have kp20 := kp19.b b20 kp19.le2
  clear U19 hX19 hY19 kp19 b20 N20
  go_wp2_with fail
  refine (eqLabelS_same q c20 c4 a20 a4 d w20 G20 (kp20.P.more kp20.le2)).mono ?_
  rintro e w21 ⟨rfl, b21⟩
  have U21 := lst_same U20 b21 (Nat.le_refl _)
  have kp21 := kp20.b b21 kp20.le2
  clear U20 G20 kp20 b21
  go_wp2_with fail
  refine (heldV _ q c7 a7 w21 U21 (by omega)).mono ?_
  rintro e w22 ⟨rfl, q22⟩
  have HB := Lib.hid (bel_same kp21.bl q22)
  clear U21 kp21 q22
  go_wp2
  go_ret
  exact ⟨rfl, HB.out⟩

/-! ### THE ROW -/
set_option maxRecDepth 100000 in
theorem lifted (os : Os) (started : os.Started) (H : Type) (enc : TypeId × Value → H) :
    ReturnsInHanded {} Try.checked os 7 .any (Rows.fnExactLabelPulsesSpec.pre6 enc Try.prog Try.f7 Rows.fnExactLabelPulsesRow.domain false) (Rows.fnExactLabelPulsesSpec.post enc Try.prog Try.f7 false true false false) := by
  refine returnsInHanded_of_change (C := Try.checked) own started (by kernel_rfl) Try.func7
    (ChangeSpec.witness6 (enc := enc) (C := Try.checked) false ⟨#[], #[.slice none 0 0, .slice none 0 0], []⟩ 8 (by kernel_rfl) (by kernel_rfl) (by kernel_rfl) (by kernel_rfl)) ?_
  intro W base args ds gs before hval0 hW hcnd _
  have hval : ∀ (j : Nat) t v, Try.f7.params[j]? = some t → args[j]? = some v → Value.okWide Try.prog W .any base t v := hval0
  have hW' := hW
  obtain ⟨p, q, hA0, hV, rfl, hfz, hnd⟩ := hW
  have hA : DataW.TrodAll enc Try.prog W 0 (fun _ => true) true Try.f7.params.toList args.toList ds p := hA0
  rw [Try.params7] at hA hval
  obtain ⟨v0, vs0, d0, ds0, p0, q0, hargs, rfl, rfl, h0, r0⟩ := trodAll_cons hA
  obtain ⟨v1, vs1, d1, ds1, p1, q1, rfl, rfl, rfl, h1, r1⟩ := trodAll_cons r0
  obtain ⟨rfl, rfl, rfl⟩ := trodAll_nil r1
  obtain rfl : args = #[v0, v1] := by cases args; simp_all
  obtain ⟨rfl, rfl⟩ := trodVars_none hV
  obtain ⟨a0, len0, cap0, rfl⟩ := okWide_slice Try.underlying23 (hval 0 23 v0 rfl rfl)
  have k0 := h0
  have lt0 : ∀ x ∈ p0, x.block < W.heap.size := by obtain ⟨m, hm⟩ := k0; exact DataW.trod_lt m _ _ _ hm
  obtain ⟨z0, w0⟩ : ∃ zs, IsRow .i64 W a0 len0 cap0 zs := by
    obtain ⟨fuel, hf⟩ := h0
    rcases open_ints Try.underlying23 Try.underlying3 (by kernel_rfl) hf with ⟨hcs, _⟩ | ⟨x, l, c, zs, hcs, _, hl, hm, hz, _, hcell, hwz⟩
    · simp [Value.cells] at hcs
      obtain ⟨rfl, rfl, rfl⟩ := hcs
      exact ⟨[], .inl ⟨rfl, rfl, rfl, rfl⟩⟩
    · simp [Value.cells] at hcs
      obtain ⟨rfl, rfl, rfl⟩ := hcs
      exact ⟨zs, .inr ⟨_, rfl, hl, hm, by simpa using hz, hcell, hwz⟩⟩
  obtain ⟨a1, len1, cap1, rfl⟩ := okWide_slice Try.underlying39 (hval 1 39 v1 rfl rfl)
  have k1 := h1
  have lt1 : ∀ x ∈ p1, x.block < W.heap.size := by obtain ⟨m, hm⟩ := k1; exact DataW.trod_lt m _ _ _ hm
  have w1 : LbRow W a1 len1 cap1 := by obtain ⟨fuel, hf⟩ := h1; exact lbrow hf
  clear hA0 hval0
  refine (walk a0 len0 cap0 z0 a1 len1 cap1 W w0 w1).mono fun e W' ⟨he, bel⟩ => ?_
  subst he
  exact ⟨_, rfl, _, _, _, [], _, [], hW', trodAll_mk1 (shut_bool Try.underlying4 _), (trodAll_cons_mk (Below.trod laidOut (by kernel_rfl) (of_decide_eq_true (by kernel_rfl)) k0 bel lt0) (trodAll_cons_mk (Below.trod laidOut (by kernel_rfl) (of_decide_eq_true (by kernel_rfl)) k1 bel lt1) trodAll_mk0)), rfl, bel.frame _, fun h => by cases h⟩

theorem closed : joinedFacts Try.pinned.checked.prog 7 Try.f7 Rows.fnExactLabelPulsesSpec Rows.fnExactLabelPulsesRow = true := by
  unfold joinedFacts
  rw [mayJ, liftsJ, makeJ]
  kernel_rfl

theorem over : Rows.fnExactLabelPulsesRow.holds Try.pinned (OpenSpec.ofChange Rows.fnExactLabelPulsesSpec) :=
  OpenClaim.holds_of_wide 7 Try.f7 rfl rfl rfl rfl rfl rfl rfl ⟨rfl, rfl, rfl, rfl, rfl⟩ rfl rfl rfl rfl rfl (by kernel_rfl) Try.func7 closed
    (of_decide_eq_true (by kernel_rfl)) (by unfold Func.isWrapper; first | (rw [if_pos (by decide +kernel)]; kernel_rfl) | (rw [if_neg (by decide +kernel)]; exact ⟨rfl, rfl⟩))
    (fun os started H enc _ => lifted os started H enc)

/-- THE STATEMENT -/
theorem proved : Rows.FnExactLabelPulsesSaid := over
#print axioms proved
end Go.Proofs.Ytgbbbmljanlogaa.fnExactLabelPulses
