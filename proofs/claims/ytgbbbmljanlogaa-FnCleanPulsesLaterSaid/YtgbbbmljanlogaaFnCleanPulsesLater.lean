/-
  PROVED: FnCleanPulsesLater: for every input the law returns true, and the input reads as it did. No condition.
  The frame is as the kit prints it (proof-skeleton.mjs); the walk is mine.
-/
import Derived.Test.YtgbbbmljanlogaaRows
import Derived.Test.YtgbbbmljanlogaaClean
import Derived.Test.YtgbbbmljanlogaaDrawU
import Derived.Test.YtgbbbmljanlogaaMarkI
import Derived.Test.YtgbbbmljanlogaaOwnN
import Derived.Test.YtgbbbmljanlogaaJoin
import Derived.WalkKit
import Derived.ProofKit
import Derived.OpenShut
import Derived.ShutString
import Derived.ChangeOld
import Derived.Below
namespace Go.Proofs.Ytgbbbmljanlogaa.fnCleanPulsesLater
open Go.ChangeShapes Go.WideShapes Go.ChangeAt Go.RowKit
open Go.ChangeMaps (open_string shut_string)
set_option linter.unusedVariables false

theorem own : ownKnob Try.prog.godebug = none := by kernel_rfl
theorem laidOut : laidOutB Try.prog = true := by kernel_rfl

/-- WHAT THE WALK IS TOLD OF A SLICE OF INTEGERS THAT CAME IN: it is nil; or it leads to a row of 'cap' cells, the numbers 'zs' (the first 'len' are its elements, the rest its spare room), each fitting its kind. -/
def IsRow (k : IntKind) (w : World) (a : Option Addr) (len cap : Nat) (zs : List Int) : Prop :=
  (a = none ∧ len = 0 ∧ cap = 0 ∧ zs = []) ∨
  ∃ x, a = some x ∧ len ≤ cap ∧ cap ≤ maxLen ∧ zs.length = cap ∧ (∀ i, i < zs.length → w.cell? (x.add i) = some (.int k (zs.getD i 0))) ∧ ∀ n ∈ zs, (Lit.int k n).wf = true

/-! ### STEP 1: THE WALK: the Go text returns true, AND WRITES NOTHING THAT WAS THERE: 'Below w.heap.size w w'' (Derived/Below.lean: '.refl', '.alloc', '.drew', '.setCell' at a new block, '.trans'). Open each 'IsRow' by 'rcases' AHEAD of 'go_enter'; part every test ahead of the walk. -/
set_option maxRecDepth 100000 in
set_option maxHeartbeats 8000000 in
theorem walk (a0 : Option Addr) (len0 cap0 : Nat) (z0 : List Int) (w : World) (w0 : IsRow .u8 w a0 len0 cap0 z0) :
    Calls Try.prog 3 #[.slice a0 len0 cap0] w fun e w' => e = .returned (.bool true) ∧ Below w.heap.size w w' := by
  by_cases hl : 1048576 < len0
  · have hl' : (1048576 : Int) < (len0 : Int) := by omega
    clear w0 hl
    go_enter Try.func3, Try.ntmps3
    go_wp2
    go_ret
    exact ⟨rfl, Below.refl _ _⟩
  have hl' : ¬ (1048576 : Int) < (len0 : Int) := by omega
  obtain ⟨hc, hcap⟩ := code_of w0 (by omega)
  clear w0 hl
  go_enter Try.func3, Try.ntmps3
  go_wp2_with fail
  refine (DrawCleanPulses_any w a0 len0 cap0 hc hcap).mono ?_
  rintro e w1 ⟨a, n, c, l, rfl, hL, hn18, hnc, hcm, bl⟩
  clear hc hcap
  have hdl := U.cp_len l
  have HNN := Lib.hid hL.1
  have k1 := fun n c a w' (h : Lst w'.heap.size w' a n l) => CP_impl n c a l w' h
  have k2 := fun n c a w' (h : Lst w'.heap.size w' a n l) => CP_spec n c a l w' h
  have hup0 := fun (h : U.vp l = true) (h' : 0 < l.length → L.g l (l.length - 1) + 7 ≤ 100000000) => U.cp_up (c := 7) h (by omega) h'
  have hvp : 0 < (U.cp l).length → U.vp l = true := fun h => by
    rcases hv : U.vp l with _ | _
    · rw [U.cp_no hv] at h; exact absurd h (by simp)
    · rfl
  have hdr : ∀ i, i < (U.cp l).length → 0 ≤ L.g (U.cp l) i ∧ L.g (U.cp l) i ≤ 100000000 := fun i hi => by
    have hv := hvp (by omega)
    exact U.rng (U.cp_vp hv) hi
  generalize hd : U.cp l = d at *
  obtain ⟨q, hq⟩ : ∃ q, d.length = q := ⟨_, rfl⟩
  have HQ := Lib.hid hq
  have hql : q ≤ n := by rw [← hq, ← HNN.out]; exact hdl.1
  have hq16 : q ≤ 16 := by rw [← hq]; exact hdl.2
  have K1 := Lib.hid k1
  have K2 := Lib.hid k2
  have HUP := Lib.hid hup0
  have HVP := Lib.hid hvp
  have HDR := Lib.hid hdr
  clear k1 k2 hq hdl hup0 hvp hdr hd
  go_wp2_with fail
  refine (K1.out _ _ _ _ hL).mono ?_
  rintro e w2 ⟨a2, c2, rfl, N2, b2⟩
  have M2 := N2.lst (by have := HQ.out; omega)
  rw [HQ.out] at M2 ⊢
  have hL2 := lst_same hL b2 (Nat.le_refl _)
  have bl2 := bl.trans (b2.mono bl.size)
  clear N2 b2 bl hL
  go_wp2_with fail
  refine (K2.out _ _ _ _ hL2).mono ?_
  rintro e w3 ⟨a3, c3, rfl, N3, b3⟩
  have M3 := N3.lst (by have := HQ.out; omega)
  rw [HQ.out] at M3 ⊢
  have P3 := lst_same M2 b3 (Nat.le_refl _)
  have hL3 := lst_same hL2 b3 (Nat.le_refl _)
  have bl3 := bl2.trans (b3.mono bl2.size)
  clear N3 b3 bl2 hL2 M2
  go_wp2_with fail
  refine (equalInts_any q c2 c3 _ a2 a3 d w3 P3 M3).mono ?_
  rintro e w4 ⟨rfl, q4⟩
  have bl4 := bel_same bl3 q4
  have P4 := lst_same P3 q4.below (Nat.le_refl _)
  have hL4 := lst_same hL3 q4.below (Nat.le_refl _)
  clear q4 bl3 P3 M3 hL3
  by_cases h0 : q = 0
  · have f0 : ((q : Int) == 0) = true := by rw [beq_iff_eq]; omega
    clear h0
    go_wp2_with fail
    refine (K2.out _ _ _ _ hL4).mono ?_
    rintro e w5 ⟨a5, c5, rfl, N5, b5⟩
    have M5 := N5.lst (by have := HQ.out; omega)
    rw [HQ.out] at M5 ⊢
    have P5 := lst_same P4 b5 (Nat.le_refl _)
    have bl5 := bl4.trans (b5.mono bl4.size)
    clear N5 b5 bl4 P4
    go_wp2_with fail
    refine (equalInts_any q c2 c5 _ a2 a5 d w5 P5 M5).mono ?_
    rintro e w6 ⟨rfl, q6⟩
    have HB := Lib.hid (bel_same bl5 q6)
    clear q6 bl5 P5 M5
    go_wp2
    go_ret
    exact ⟨ret_bool (by first | rfl | simp), HB.out⟩
  have f0 : ((q : Int) == 0) = false := by rw [beq_eq_false_iff_ne]; omega
  have hvv := HVP.out (by rw [HQ.out]; omega)
  have HR := Lib.hid (fun i (hi : i < l.length) => U.rng hvv hi)
  have h16 : n ≤ 16 := by rw [← HNN.out]; exact (U.vp_of hvv).1
  have HV := Lib.hid hvv
  clear hvv
  obtain ⟨m, rfl⟩ : ∃ m, n = m + 1 := ⟨n - 1, by omega⟩
  have hrm := HR.out m (by rw [HNN.out]; omega)
  have e1 : wrap64 (m : Int) = (m : Int) := IntWalk.wrap64_in _ (by omega)
  have e3 : IntKind.i64.wrap (m : Int) = (m : Int) := IntWalk.i64_in _ (by omega)
  have e4 : IntKind.i64.wrap ((m : Int) + 1 - 1) = (m : Int) := by rw [show (m : Int) + 1 - 1 = m by omega]; exact e3
  have hm0 : (m : Int) < (m : Int) + 1 := by omega
  have p0 : (0 : Int) ≤ (m : Int) := by omega
  obtain ⟨b, off, rfl, hb, hc⟩ := hL4.at_ 0 (by omega)
  have hcm2 := hc m (by omega)
  clear hc hb
  have e6 : IntKind.i64.wrap (L.g l m + 7) = L.g l m + 7 := IntWalk.i64_in _ (by omega)
  by_cases hbig : 100000000 < L.g l m + 7
  · go_wp2_with fail
    refine (K2.out _ _ _ _ hL4).mono ?_
    rintro e w5 ⟨a5, c5, rfl, N5, b5⟩
    have M5 := N5.lst (by have := HQ.out; omega)
    rw [HQ.out] at M5 ⊢
    have P5 := lst_same P4 b5 (Nat.le_refl _)
    have bl5 := bl4.trans (b5.mono bl4.size)
    clear N5 b5 bl4 P4 hcm2
    go_wp2_with fail
    refine (equalInts_any q c2 c5 _ a2 a5 d w5 P5 M5).mono ?_
    rintro e w6 ⟨rfl, q6⟩
    have HB := Lib.hid (bel_same bl5 q6)
    clear q6 bl5 P5 M5
    go_wp2
    go_ret
    exact ⟨ret_bool (by first | rfl | simp), HB.out⟩
  have hbig' : decide (100000000 < L.g l m + 7) = false := decide_eq_false hbig
  have hup := HUP.out HV.out (fun _ => by rw [HNN.out, Nat.add_sub_cancel]; omega)
  have HU := Lib.hid hup
  clear hup
  go_wp2_with fail
  clear hcm2 hrm hbig e6
  have O0 := Nums.made w4
  have al := (Below.refl w4.heap.size w4).alloc (Nat.le_refl _) (.cells #[] 3)
  have L0 := hL4.below al
  have P0 := P4.below al
  have B0 := bl4.trans (al.mono bl4.size)
  have E0 : w4.heap.size ≤ (w4.alloc (.cells #[] 3)).heap.size := by simp
  have hE := bl4.size
  generalize w4.alloc (.cells #[] 3) = w5 at *
  generalize w4.heap.size = E at *
  clear bl4 hL4 P4 al
  go_loopw [5, 6] (fun x i wr => ∃ (k : Nat) (a' : Option Addr) (c' : Nat) (X : List Int), k ≤ m + 1 ∧ U.up 7 (l.take k) = X ∧ X.length = k ∧ x = .slice a' X.length c' ∧ i = .int .i64 k ∧ Nums E wr a' c' X ∧ E ≤ wr.heap.size ∧ Below w.heap.size w wr ∧ Lst E wr (some ⟨b, off, none⟩) (m + 1) l ∧ Lst E wr a2 q d) (fun _ i _ => m + 1 - (intOf i).toNat)
  case atStart => exact ⟨0, _, _, [], by omega, rfl, rfl, rfl, rfl, O0, E0, B0, L0, P0⟩
  case round =>
    obtain ⟨k, a', c', X, hk, hX, hXl, rfl, rfl, O, hEw, bl, hLk, hPk⟩ := hrel
    clear O0 E0 B0 L0 P0
    by_cases hlt : k < m + 1
    · have hlk : k < l.length := by rw [HNN.out]; exact hlt
      have hx := HR.out k hlk
      obtain ⟨b', off', he, hb', hcc⟩ := hLk.at_ k hlt
      injection he with he
      injection he with he1 he2
      subst he1 he2
      have hcell := hcc k hlt
      have HXX := Lib.hid (show X ++ [L.g l k + 7] = U.up 7 (l.take (k + 1)) by rw [U.take_snoc l k hlk, U.up_snoc, hX])
      obtain ⟨x, hx0⟩ : ∃ x, L.g l k = x := ⟨_, rfl⟩
      rw [hx0] at hx hcell HXX
      have HW := Lib.hid (fun o : Obj => O.keep ((Below.refl wr.heap.size wr).alloc (Nat.le_refl _) o))
      have HE := Lib.hid (fun o : Obj => Nat.le_trans hEw ((Below.refl wr.heap.size wr).alloc (Nat.le_refl _) o).size)
      have HLEN := Lib.hid (show X.length + 1 ≤ 4000000 by omega)
      have HXL := Lib.hid hXl
      have HB := Lib.hid (fun o : Obj => bl.trans (((Below.refl wr.heap.size wr).alloc (Nat.le_refl _) o).mono bl.size))
      have HL2 := Lib.hid (fun o : Obj => And.intro (hLk.below (((Below.refl wr.heap.size wr).alloc (Nat.le_refl _) o).mono hEw)) (hPk.below (((Below.refl wr.heap.size wr).alloc (Nat.le_refl _) o).mono hEw)))
      have e9 : IntKind.i64.wrap (x + 7) = x + 7 := IntWalk.i64_in _ (by omega)
      have HUL := Lib.hid (show (U.up 7 (l.take (k + 1))).length = k + 1 by rw [U.up_len, List.length_take, HNN.out]; omega)
      clear O hEw hX bl hXl hLk hPk hcc hb' hlk hx0
      go_wp2_with (at_builtin; refine wpList_n rfl _ _ rfl E rfl rfl (HW.out _) (Lst.new _ (x + 7) 3) HLEN.out (HE.out _) (U.up 7 (l.take (k + 1))) HXX.out ?_)
      intro a5 c5 w6 O5 b5 _
      have hq := HUL.out
      have F := Lib.hid (And.intro O5 (And.intro (Nat.le_trans (HE.out _) b5.size) (And.intro ((HB.out _).trans (b5.mono hE)) (And.intro ((HL2.out _).1.below b5) ((HL2.out _).2.below b5)))))
      obtain ⟨Y, hY⟩ : ∃ Y, U.up 7 (l.take (k + 1)) = Y := ⟨_, rfl⟩
      rw [hY] at hq F
      have HY := Lib.hid hY
      have HYL := Lib.hid hq
      have HYS := Lib.hid (show X.length + 1 = Y.length by rw [hq, HXL.out])
      clear O5 b5 hq hY
      go_wp2
      go_roundw
      case rel => exact ⟨k + 1, a5, c5, Y, by omega, HY.out, HYL.out, by first | rfl | (rw [← HYS.out]; done) | (rw [← HY.out]; done), by go_num, F.out⟩
      case measure => simp [intOf]; omega
    · obtain rfl : k = m + 1 := by omega
      rw [List.take_of_length_le (by rw [HNN.out]; omega)] at hX
      have hS := O.lst (by omega)
      rw [hXl] at hS
      have k5 := CP_impl (m + 1) c' a' X wr hS
      rw [show U.cp X = U.up 7 d by rw [← hX]; exact HU.out] at k5
      have K5 := Lib.hid k5
      have HXL := Lib.hid hXl
      have P5 := hPk.more hEw
      clear k5 hS O hX hXl hlt hk hLk hPk
      rw [HXL.out]
      go_wp2_with fail
      refine K5.out.mono ?_
      rintro e w7 ⟨a7, c7, rfl, N7, b7⟩
      have M7 := N7.lst (by rw [U.up_len, HQ.out]; omega)
      rw [U.up_len, HQ.out] at M7 ⊢
      have P7 := lst_same P5 b7 (Nat.le_refl _)
      have bl7 := bl.trans (b7.mono bl.size)
      clear N7 b7 P5 bl hEw
      go_wp2_with fail
      go_loopw [8] (fun i wr => ∃ k : Nat, k ≤ q ∧ i = .int .i64 k ∧ Lst wr.heap.size wr a7 q (U.up 7 d) ∧ Lst wr.heap.size wr a2 q d ∧ Below w.heap.size w wr) (fun i _ => q - (intOf i).toNat)
      case atStart => exact ⟨0, Nat.zero_le _, rfl, M7, P7, bl7⟩
      case round =>
        obtain ⟨k, hk, rfl, hM, hP, bl⟩ := hrel
        clear M7 P7 bl7
        by_cases hlt : k < q
        · obtain ⟨b7, o7, rfl, hb7, hc7⟩ := hM.at_ k hlt
          obtain ⟨b2, o2, rfl, hb2, hc2⟩ := hP.at_ k hlt
          have d7 := hc7 k hlt
          have d2 := hc2 k hlt
          have hdk : k < d.length := by rw [HQ.out]; exact hlt
          rw [U.up_g 7 d k hdk] at d7
          have hy := HDR.out k hdk
          obtain ⟨y, hy0⟩ : ∃ y, L.g d k = y := ⟨_, rfl⟩
          rw [hy0] at d7 d2 hy
          have HW := Lib.hid (show IntKind.i64.wrap (y + 7) = y + 7 from IntWalk.i64_in _ (by omega))
          have HF := Lib.hid (And.intro hM.drew (And.intro hP.drew bl.drew))
          have p1 : (0 : Int) ≤ (k : Int) := by omega
          have p2 : (k : Int) < (q : Int) := by omega
          have HP2 := Lib.hid p2
          clear hc7 hc2 hb7 hb2 hy0 hdk hM hP bl hy
          go_wp2_with fail
          refine wp_region_held_drew (S := (fun w' => w'.cell? ⟨b7, o7 + k, none⟩ = some (.int .i64 (y + 7)) ∧ w'.cell? ⟨b2, o2 + k, none⟩ = some (.int .i64 y))) (by kernel_rfl) (⟨d7, d2⟩) (fun hHeld => ?_)
          refine wpAnyH_take (i := 0) (v := ?_) rfl (by kernel_rfl) (by kernel_rfl) (by kernel_rfl) (fun _ _ _ h => h) (Or.inl ⟨by rfl, ?_⟩) (by assumption) ?_
          rotate_left
          · intro w hSw
            (try dsimp only at hSw)
            go_simp
            all_goals with_reducible rfl
          try simp only [Act.put, List.setIfInBounds_toArray, List.set_cons_zero, List.set_cons_succ, List.getElem_toArray, List.getElem_cons_zero]
          refine wpAnyH_take (i := 1) (v := ?_) rfl (by kernel_rfl) (by kernel_rfl) (by kernel_rfl) (fun _ _ _ h => h) (Or.inl ⟨by rfl, ?_⟩) (by assumption) ?_
          rotate_left
          · intro w hSw
            (try dsimp only at hSw)
            go_simp
            all_goals with_reducible rfl
          try simp only [Act.put, List.setIfInBounds_toArray, List.set_cons_zero, List.set_cons_succ, List.getElem_toArray, List.getElem_cons_zero, List.getElem_cons_succ]
          refine wpAnyH_take (i := 2) (v := ?_) rfl (by kernel_rfl) (by kernel_rfl) (by kernel_rfl) (fun _ _ _ h => h) (Or.inl ⟨by rfl, ?_⟩) (by assumption) ?_
          rotate_left
          · intro w hSw
            (try dsimp only at hSw)
            go_simp
            all_goals with_reducible rfl
          try simp only [Act.put, List.setIfInBounds_toArray, List.set_cons_zero, List.set_cons_succ, List.getElem_toArray, List.getElem_cons_zero, List.getElem_cons_succ]
          refine wpAnyH_take (i := 3) (v := .bool false) rfl (by kernel_rfl) (by kernel_rfl) (by kernel_rfl) (fun _ _ _ h => h) (Or.inl ⟨by rfl, ?_⟩) (by assumption) ?_
          · intro w hSw
            go_simp
            all_goals (simp; omega)
          try simp only [Act.put, List.setIfInBounds_toArray, List.set_cons_zero, List.set_cons_succ, List.getElem_toArray, List.getElem_cons_zero, List.getElem_cons_succ]
          refine wpAnyH_take (i := 4) (v := ?_) rfl (by kernel_rfl) (by kernel_rfl) (by kernel_rfl) (fun _ _ _ h => h) (Or.inl ⟨by rfl, ?_⟩) (by assumption) ?_
          rotate_left
          · intro w hSw
            (try dsimp only at hSw)
            go_simp
            all_goals with_reducible rfl
          try simp only [Act.put, List.setIfInBounds_toArray, List.set_cons_zero, List.set_cons_succ, List.getElem_toArray, List.getElem_cons_zero, List.getElem_cons_succ]
          refine wpAnyH_take (i := 5) (v := ?_) rfl (by kernel_rfl) (by kernel_rfl) (by kernel_rfl) (fun _ _ _ h => h) (Or.inl ⟨by rfl, ?_⟩) (by assumption) ?_
          rotate_left
          · intro w hSw
            (try dsimp only at hSw)
            go_simp
            all_goals with_reducible rfl
          try simp only [Act.put, List.setIfInBounds_toArray, List.set_cons_zero, List.set_cons_succ, List.getElem_toArray, List.getElem_cons_zero, List.getElem_cons_succ]
          refine wpAnyH_take (i := 6) (v := ?_) rfl (by kernel_rfl) (by kernel_rfl) (by kernel_rfl) (fun _ _ _ h => h) (Or.inl ⟨by rfl, ?_⟩) (by assumption) ?_
          rotate_left
          · intro w hSw
            (try dsimp only at hSw)
            go_simp
            all_goals with_reducible rfl
          try simp only [Act.put, List.setIfInBounds_toArray, List.set_cons_zero, List.set_cons_succ, List.getElem_toArray, List.getElem_cons_zero, List.getElem_cons_succ]
          refine wpAnyH_take (i := 7) (v := ?_) rfl (by kernel_rfl) (by kernel_rfl) (by kernel_rfl) (fun _ _ _ h => h) (Or.inl ⟨by rfl, ?_⟩) (by assumption) ?_
          rotate_left
          · intro w hSw
            (try dsimp only at hSw)
            go_simp
            all_goals with_reducible rfl
          try simp only [Act.put, List.setIfInBounds_toArray, List.set_cons_zero, List.set_cons_succ, List.getElem_toArray, List.getElem_cons_zero, List.getElem_cons_succ]
          refine wpAnyH_take (i := 8) (v := ?_) rfl (by kernel_rfl) (by kernel_rfl) (by kernel_rfl) (fun _ _ _ h => h) (Or.inl ⟨by rfl, ?_⟩) (by assumption) ?_
          rotate_left
          · intro w hSw
            (try dsimp only at hSw)
            go_simp
            all_goals with_reducible rfl
          try simp only [Act.put, List.setIfInBounds_toArray, List.set_cons_zero, List.set_cons_succ, List.getElem_toArray, List.getElem_cons_zero, List.getElem_cons_succ]
          refine wpAnyH_take (i := 9) (v := ?_) rfl (by kernel_rfl) (by kernel_rfl) (by kernel_rfl) (fun _ _ _ h => h) (Or.inl ⟨by rfl, ?_⟩) (by assumption) ?_
          rotate_left
          · intro w hSw
            (try dsimp only at hSw)
            go_simp
            all_goals with_reducible rfl
          try simp only [Act.put, List.setIfInBounds_toArray, List.set_cons_zero, List.set_cons_succ, List.getElem_toArray, List.getElem_cons_zero, List.getElem_cons_succ]
          refine wpAnyH_take (i := 10) (v := ?_) rfl (by kernel_rfl) (by kernel_rfl) (by kernel_rfl) (fun _ _ _ h => h) (Or.inl ⟨by rfl, ?_⟩) (by assumption) ?_
          rotate_left
          · intro w hSw
            (try dsimp only at hSw)
            go_simp
            all_goals with_reducible rfl
          try simp only [Act.put, List.setIfInBounds_toArray, List.set_cons_zero, List.set_cons_succ, List.getElem_toArray, List.getElem_cons_zero, List.getElem_cons_succ]
          refine wpAnyH_take (i := 11) (v := ?_) rfl (by kernel_rfl) (by kernel_rfl) (by kernel_rfl) (fun _ _ _ h => h) (Or.inl ⟨by rfl, ?_⟩) (by assumption) ?_
          rotate_left
          · intro w hSw
            (try dsimp only at hSw)
            go_simp
            all_goals with_reducible rfl
          try simp only [Act.put, List.setIfInBounds_toArray, List.set_cons_zero, List.set_cons_succ, List.getElem_toArray, List.getElem_cons_zero, List.getElem_cons_succ]
          refine wpAnyH_take (i := 12) (v := ?_) rfl (by kernel_rfl) (by kernel_rfl) (by kernel_rfl) (fun _ _ _ h => h) (Or.inl ⟨by rfl, ?_⟩) (by assumption) ?_
          rotate_left
          · intro w hSw
            (try dsimp only at hSw)
            go_simp
            all_goals with_reducible rfl
          try simp only [Act.put, List.setIfInBounds_toArray, List.set_cons_zero, List.set_cons_succ, List.getElem_toArray, List.getElem_cons_zero, List.getElem_cons_succ]
          refine wpAnyH_take (i := 13) (v := .int .i64 (y + 7)) rfl (by kernel_rfl) (by kernel_rfl) (by kernel_rfl) (fun _ _ _ h => h) (Or.inl ⟨by rfl, ?_⟩) (by assumption) ?_
          · intro w hSw
            go_simp
            all_goals exact HW.out
          try simp only [Act.put, List.setIfInBounds_toArray, List.set_cons_zero, List.set_cons_succ, List.getElem_toArray, List.getElem_cons_zero, List.getElem_cons_succ]
          refine wpAnyH_take (i := 14) (v := ?_) rfl (by kernel_rfl) (by kernel_rfl) (by kernel_rfl) (fun _ _ _ h => h) (Or.inl ⟨by rfl, ?_⟩) (by assumption) ?_
          rotate_left
          · intro w hSw
            (try dsimp only at hSw)
            go_simp
            all_goals with_reducible rfl
          try simp only [Act.put, List.setIfInBounds_toArray, List.set_cons_zero, List.set_cons_succ, List.getElem_toArray, List.getElem_cons_zero, List.getElem_cons_succ]
          refine wpAnyH_take (i := 15) (v := ?_) rfl (by kernel_rfl) (by kernel_rfl) (by kernel_rfl) (fun _ _ _ h => h) (Or.inl ⟨by rfl, ?_⟩) (by assumption) ?_
          rotate_left
          · intro w hSw
            (try dsimp only at hSw)
            go_simp
            all_goals with_reducible rfl
          try simp only [Act.put, List.setIfInBounds_toArray, List.set_cons_zero, List.set_cons_succ, List.getElem_toArray, List.getElem_cons_zero, List.getElem_cons_succ]
          refine wpAnyH_done (by kernel_rfl) ?_ _
          go_wp2
          go_roundw
          case rel => exact ⟨k + 1, by omega, by go_num, HF.out⟩
          case measure => simp [intOf]; omega
        · obtain rfl : k = q := by omega
          have HB := Lib.hid bl
          clear hM hP bl
          go_wp2
          go_ret
          exact ⟨ret_bool (by first | rfl | simp), HB.out⟩

/-! ### THE ROW's STEP: WRITTEN OUT: LEAVE IT -/
set_option maxRecDepth 100000 in
theorem lifted (os : Os) (started : os.Started) (H : Type) (enc : TypeId × Value → H) :
    ReturnsInHanded {} Try.checked os 3 .any (Rows.fnCleanPulsesLaterSpec.pre6 enc Try.prog Try.f3 Rows.fnCleanPulsesLaterRow.domain false) (Rows.fnCleanPulsesLaterSpec.post enc Try.prog Try.f3 false true false false) := by
  refine returnsInHanded_of_change (C := Try.checked) own started (by kernel_rfl) Try.func3
    (ChangeSpec.witness6 (enc := enc) (C := Try.checked) false ⟨#[], #[.slice none 0 0], []⟩ 8 (by kernel_rfl) (by kernel_rfl) (by kernel_rfl) (by kernel_rfl)) ?_
  intro W base args ds gs before hval0 hW hcnd _
  have hval : ∀ (j : Nat) t v, Try.f3.params[j]? = some t → args[j]? = some v → Value.okWide Try.prog W .any base t v := hval0
  have hW' := hW
  obtain ⟨p, q, hA0, hV, rfl, hfz, hnd⟩ := hW
  have hA : DataW.TrodAll enc Try.prog W 0 (fun _ => true) true Try.f3.params.toList args.toList ds p := hA0
  rw [Try.params3] at hA hval
  obtain ⟨v0, vs0, d0, ds0, p0, q0, hargs, rfl, rfl, h0, r0⟩ := trodAll_cons hA
  obtain ⟨rfl, rfl, rfl⟩ := trodAll_nil r0
  obtain rfl : args = #[v0] := by cases args; simp_all
  obtain ⟨rfl, rfl⟩ := trodVars_none hV
  obtain ⟨a0, len0, cap0, rfl⟩ := okWide_slice Try.underlying22 (hval 0 22 v0 rfl rfl)
  have k0 := h0
  have lt0 : ∀ x ∈ p0, x.block < W.heap.size := by obtain ⟨m, hm⟩ := k0; exact DataW.trod_lt m _ _ _ hm
  obtain ⟨z0, w0⟩ : ∃ zs, IsRow .u8 W a0 len0 cap0 zs := by
    obtain ⟨fuel, hf⟩ := h0
    rcases open_ints Try.underlying22 Try.underlying5 (by kernel_rfl) hf with ⟨hcs, _⟩ | ⟨x, l, c, zs, hcs, _, hl, hm, hz, _, hcell, hwz⟩
    · simp [Value.cells] at hcs
      obtain ⟨rfl, rfl, rfl⟩ := hcs
      exact ⟨[], .inl ⟨rfl, rfl, rfl, rfl⟩⟩
    · simp [Value.cells] at hcs
      obtain ⟨rfl, rfl, rfl⟩ := hcs
      exact ⟨zs, .inr ⟨_, rfl, hl, hm, by simpa using hz, hcell, hwz⟩⟩
  clear hA0 hval0
  refine (walk a0 len0 cap0 z0 W w0).mono fun e W' ⟨he, bel⟩ => ?_
  subst he
  exact ⟨_, rfl, _, _, _, [], _, [], hW', trodAll_mk1 (shut_bool Try.underlying4 _), (trodAll_cons_mk (Below.trod laidOut (by kernel_rfl) (of_decide_eq_true (by kernel_rfl)) k0 bel lt0) trodAll_mk0), rfl, bel.frame _, fun h => by cases h⟩

theorem closed : joinedFacts Try.pinned.checked.prog 3 Try.f3 Rows.fnCleanPulsesLaterSpec Rows.fnCleanPulsesLaterRow = true := by
  unfold joinedFacts
  rw [mayJ, liftsJ, makeJ]
  kernel_rfl

theorem over : Rows.fnCleanPulsesLaterRow.holds Try.pinned (OpenSpec.ofChange Rows.fnCleanPulsesLaterSpec) :=
  OpenClaim.holds_of_wide 3 Try.f3 rfl rfl rfl rfl rfl rfl rfl ⟨rfl, rfl, rfl, rfl, rfl⟩ rfl rfl rfl rfl rfl (by kernel_rfl) Try.func3 closed
    (of_decide_eq_true (by kernel_rfl)) (by unfold Func.isWrapper; first | (rw [if_pos (by decide +kernel)]; kernel_rfl) | (rw [if_neg (by decide +kernel)]; exact ⟨rfl, rfl⟩))
    (fun os started H enc _ => lifted os started H enc)

/-- ████ THE STATEMENT ████ -/
theorem proved : Rows.FnCleanPulsesLaterSaid := over
#print axioms proved
end Go.Proofs.Ytgbbbmljanlogaa.fnCleanPulsesLater
