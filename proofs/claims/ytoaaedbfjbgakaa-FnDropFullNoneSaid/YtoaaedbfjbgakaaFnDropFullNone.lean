/-
  PROVED: FnDropFullNone: for every input the law returns true, and the input reads as it did. No condition.
  The frame is as the kit prints it (proof-skeleton.mjs); the walk is mine.
-/
import Derived.Test.YtoaaedbfjbgakaaRows
import Derived.Test.YtoaaedbfjbgakaaMapB
import Derived.Test.YtoaaedbfjbgakaaSpecB
import Derived.Test.YtoaaedbfjbgakaaDropF
import Derived.Test.YtoaaedbfjbgakaaDrawBt
import Derived.Test.YtoaaedbfjbgakaaEqBk
import Derived.Test.YtoaaedbfjbgakaaBDrop
import Derived.Test.YtoaaedbfjbgakaaJoin
import Derived.WalkKit
import Derived.ProofKit
import Derived.OpenShut
import Derived.ShutString
import Derived.ChangeOld
import Derived.Below
namespace Go.Proofs.Ytoaaedbfjbgakaa.fnDropFullNone
open Go.ChangeShapes Go.WideShapes Go.ChangeAt Go.RowKit
open Go.ChangeMaps (open_string shut_string)
set_option linter.unusedVariables false

theorem own : ownKnob Try.prog.godebug = none := by kernel_rfl
theorem laidOut : laidOutB Try.prog = true := by kernel_rfl

/-- WHAT THE WALK IS TOLD OF A SLICE OF INTEGERS THAT CAME IN: it is nil; or it leads to a row of 'cap' cells, the numbers 'zs' (the first 'len' are its elements, the rest its spare room), each fitting its kind. -/
def IsRow (k : IntKind) (w : World) (a : Option Addr) (len cap : Nat) (zs : List Int) : Prop :=
  (a = none ∧ len = 0 ∧ cap = 0 ∧ zs = []) ∨
  ∃ x, a = some x ∧ len ≤ cap ∧ cap ≤ maxLen ∧ zs.length = cap ∧ (∀ i, i < zs.length → w.cell? (x.add i) = some (.int k (zs.getD i 0))) ∧ ∀ n ∈ zs, (Lit.int k n).wf = true

/-! ### STEP 1: THE WALK: the Go text returns true, AND WRITES NOTHING THAT WAS THERE: 'Below w.heap.size w w'' (Derived/Below.lean: '.refl', '.alloc', '.drew', '.setCell' at a new block, '.trans'). Open each 'IsRow' by 'rcases' AHEAD of 'go_enter'; part every test ahead of the walk. -/
set_option maxRecDepth 100000 in
set_option maxHeartbeats 8000000 in
theorem walk (a0 : Option Addr) (len0 cap0 : Nat) (z0 : List Int) (w : World) (w0 : IsRow .u8 w a0 len0 cap0 z0) :
    Calls Try.prog 15 #[.slice a0 len0 cap0] w fun e w' => e = .returned (.bool true) ∧ Below w.heap.size w w' := by
  by_cases hl : 1048576 < len0
  · have hl' : (1048576 : Int) < (len0 : Int) := by omega
    clear w0 hl
    go_enter Try.func15, Try.ntmps15
    go_wp2
    go_ret
    exact ⟨rfl, Below.refl _ _⟩
  have hl' : ¬ (1048576 : Int) < (len0 : Int) := by omega
  obtain ⟨hc, hcap⟩ := code_of w0 (by omega)
  clear w0 hl
  go_enter Try.func15, Try.ntmps15
  go_wp2_with fail
  refine (DrawDropFull_any w a0 len0 cap0 hc hcap).mono ?_
  rintro e w1 ⟨a, c, l, t, rfl, ht, hl9, hlc, hcm, hS, bl⟩
  clear hc hcap
  have st1 : Sq w w1 a l.length l := ⟨hS, bl⟩
  clear hS bl hlc hcm
  have k1 := fun n c a w' (h : Sms w'.heap.size w' a n l) => DF_impl n c a l t w' h
  have k2 := fun n c a w' (h : Sms w'.heap.size w' a n l) => DF_spec n c a l t w' h
  have k5 := fun n c a w' (h : Sms w'.heap.size w' a n l) => vb_impl n c a l w' h
  have hdl := (B.df_len l t).2
  obtain ⟨d, hdd⟩ : ∃ d, B.df l t = d := ⟨_, rfl⟩
  rw [hdd] at hdl k1 k2
  have HDD := Lib.hid hdd
  have HDL := Lib.hid hdl
  obtain ⟨f, hv⟩ : ∃ f, B.bv l = f := ⟨_, rfl⟩
  rw [hv] at k5
  have HV := Lib.hid hv
  have K1 := Lib.hid k1
  have K2 := Lib.hid k2
  have K5 := Lib.hid k5
  have HL9 := Lib.hid hl9
  clear k1 k2 k5 hdd hdl hv hl9
  go_wp2_with fail
  refine (K1.out _ _ _ _ st1.here).mono ?_
  rintro e w2 ⟨a2, c2, rfl, O2, b2⟩
  have P2 := (O2.sms (by have := HDL.out; omega)).1
  have st2 := st1.b b2
  clear O2 b2 st1
  go_wp2_with fail
  refine (K2.out _ _ _ _ st2.here).mono ?_
  rintro e w3 ⟨a3, c3, rfl, O3, b3⟩
  have Q3 := (O3.sms (by have := HDL.out; omega)).1
  have P3 := P2.keepB b3
  have st3 := st2.b b3
  clear O3 b3 st2 P2
  go_wp2_with fail
  refine (equalBuckets_any _ _ _ _ _ _ d _ P3 Q3).mono ?_
  rintro e w4 ⟨rfl, q4⟩
  have st4 := st3.same q4
  have P4 := P3.keepB q4.below
  clear st3 q4 P3 Q3
  go_wp2_with fail
  refine (K5.out _ _ _ _ st4.here).mono ?_
  rintro e w5 ⟨rfl, b5⟩
  have st5 := st4.b b5
  have P5 := P4.keepB b5
  clear st4 P4 b5
  rcases f with _ | _
  · skip
    go_wp2_with fail
    refine (K2.out _ _ _ _ st5.here).mono ?_
    rintro e w6 ⟨a6, c6, rfl, O6, b6⟩
    have Q6 := (O6.sms (by have := HDL.out; omega)).1
    have P6 := P5.keepB b6
    have st6 := st5.b b6
    clear O6 b6 st5 P5
    go_wp2_with fail
    refine (equalBuckets_any _ _ _ _ _ _ d _ P6 Q6).mono ?_
    rintro e w7 ⟨rfl, q7⟩
    have HB := Lib.hid (st6.same q7).bel
    clear st6 q7 P6 Q6
    go_wp2
    go_ret
    exact ⟨ret_bool (by first | rfl | simp), HB.out⟩
  by_cases hn : t < 0
  · skip
    go_wp2_with fail
    refine (K2.out _ _ _ _ st5.here).mono ?_
    rintro e w6 ⟨a6, c6, rfl, O6, b6⟩
    have Q6 := (O6.sms (by have := HDL.out; omega)).1
    have P6 := P5.keepB b6
    have st6 := st5.b b6
    clear O6 b6 st5 P5
    go_wp2_with fail
    refine (equalBuckets_any _ _ _ _ _ _ d _ P6 Q6).mono ?_
    rintro e w7 ⟨rfl, q7⟩
    have HB := Lib.hid (st6.same q7).bel
    clear st6 q7 P6 Q6
    go_wp2
    go_ret
    exact ⟨ret_bool (by first | rfl | simp), HB.out⟩
  by_cases hm : 3786479999 < t
  · skip
    go_wp2_with fail
    refine (K2.out _ _ _ _ st5.here).mono ?_
    rintro e w6 ⟨a6, c6, rfl, O6, b6⟩
    have Q6 := (O6.sms (by have := HDL.out; omega)).1
    have P6 := P5.keepB b6
    have st6 := st5.b b6
    clear O6 b6 st5 P5
    go_wp2_with fail
    refine (equalBuckets_any _ _ _ _ _ _ d _ P6 Q6).mono ?_
    rintro e w7 ⟨rfl, q7⟩
    have HB := Lib.hid (st6.same q7).bel
    clear st6 q7 P6 Q6
    go_wp2
    go_ret
    exact ⟨ret_bool (by first | rfl | simp), HB.out⟩
  have htt : 0 ≤ t ∧ t ≤ 3786479999 := ⟨by omega, by omega⟩
  have k8 := fun (k : Nat) (hk : k < l.length) w' (h : Sms w'.heap.size w' a l.length l) => TA_impl l.length c a l (Q.of l k) t w' h (wfC (by have := B.rng HV.out hk; unfold B.ok1 at this; omega))
  have hbk := fun (k : Nat) (hk : k < l.length) => B.bk_at HV.out hk htt
  have htk := fun (k : Nat) (hk : k < l.length) (h5 : B.tk (Q.of l k, Q.de l k, Q.tm l k) t < 5) => B.df_take HV.out htt hk h5
  have hle := fun (k : Nat) => flt_snoc l (fun p => decide (B.tk p t < 5)) k
  have hall : d = l.filter (fun p => decide (B.tk p t < 5)) := by rw [← HDD.out]; exact B.df_yes HV.out htt
  rw [HDD.out] at htk
  have HBK := Lib.hid hbk
  have HTK := Lib.hid htk
  have HSN := Lib.hid hle
  have HALL := Lib.hid hall
  have K8 := Lib.hid k8
  have hl9 := HL9.out
  have hd8 := HDL.out
  clear k8 hbk htk hle hall htt
  go_wp2_with fail
  clear hn hm ht
  go_loopw [6, 7] (fun m i wr => ∃ k q : Nat, k ≤ l.length ∧ q ≤ k ∧ i = .int .i64 k ∧ m = .int .i64 q ∧ ((l.take k).filter (fun p => decide (B.tk p t < 5))).length = q ∧ Sms wr.heap.size wr a2 d.length d ∧ Sq w wr a l.length l) (fun _ i _ => l.length - (intOf i).toNat)
  case atStart => exact ⟨0, 0, Nat.zero_le _, Nat.le_refl _, rfl, rfl, by simp, P5, st5⟩
  case round =>
    obtain ⟨k, q, hk, hqk, rfl, rfl, hq, P6, st6⟩ := hrel
    clear P5 st5
    by_cases hlt : k < l.length
    · obtain ⟨b, off, rfl, hb, hc⟩ := st6.here.at_ k hlt
      obtain ⟨d0, d1, d2⟩ := hc k hlt
      have k8 := K8.out k hlt
      rw [HBK.out k hlt] at k8
      have hsn := HSN.out k hlt
      have h9 := HTK.out k hlt
      have HX := Lib.hid (show Q.of l k = Q.of l k from rfl)
      clear hc
      by_cases h5 : B.tk (Q.of l k, Q.de l k, Q.tm l k) t < 5
      · have h9' := h9 h5
        rw [hq] at h9'
        rw [if_pos (by simpa using h5)] at hsn
        have hq1 : ((l.take (k + 1)).filter (fun p => decide (B.tk p t < 5))).length = q + 1 := by rw [hsn, List.length_append, hq]; rfl
        obtain ⟨hqd, g0, g1, g2⟩ := h9'
        have HQ1 := Lib.hid hq1
        have HC := Lib.hid (And.intro hqd (And.intro g0 (And.intro g1 g2)))
        generalize B.tk (Q.of l k, Q.de l k, Q.tm l k) t = T at *
        have A8 := Lib.hid k8
        clear k8 h9 hsn hq1 hqd g0 g1 g2 d1 d2 hb
        go_wp2_with fail
        refine (A8.out _ st6.here).mono ?_
        rintro e w7 ⟨rfl, b7⟩
        have P7 := P6.keepB b7
        have st7 := st6.b b7
        clear P6 st6 b7 d0 A8
        obtain ⟨b', off', rfl, hb', hc'⟩ := P7.at_ q HC.out.1
        obtain ⟨e0, e1, e2⟩ := hc' q HC.out.1
        rw [HC.out.2.1] at e0
        rw [HC.out.2.2.1] at e1
        rw [HC.out.2.2.2] at e2
        obtain ⟨b2, off2, hbb, hb2, hc2⟩ := st7.here.at_ k hlt
        injection hbb with hbb
        injection hbb with hbb1 hbb2
        subst hbb1 hbb2
        obtain ⟨d0, d1, d2⟩ := hc2 k hlt
        have hqd : (q : Int) < (d.length : Int) := by have := HC.out.1; omega
        have hk0 : (k : Int) < (l.length : Int) := by omega
        have hq0 : (0 : Int) ≤ (q : Int) := by omega
        have hkk0 : (0 : Int) ≤ (k : Int) := by omega
        have HP := Lib.hid (And.intro (Sq.drew ⟨P7, st7.bel⟩) st7.drew)
        generalize Q.of l k = X at *
        generalize Q.de l k = Y at *
        generalize Q.tm l k = Z at *
        clear hc' hc2 P7 st7 hb' hb2 hq
        go_wp2_with fail
        refine wp_region_held_drew (S := (fun w' => (w'.cell? ⟨b', off' + q * 3, none⟩ = some (.int .i64 X) ∧ w'.cell? ⟨b', off' + q * 3 + 1, none⟩ = some (.int .i64 Y) ∧ w'.cell? ⟨b', off' + q * 3 + 2, none⟩ = some (.int .i64 Z)) ∧ (w'.cell? ⟨b, off + k * 3, none⟩ = some (.int .i64 X) ∧ w'.cell? ⟨b, off + k * 3 + 1, none⟩ = some (.int .i64 Y) ∧ w'.cell? ⟨b, off + k * 3 + 2, none⟩ = some (.int .i64 Z)))) (by kernel_rfl) (⟨⟨e0, e1, e2⟩, ⟨d0, d1, d2⟩⟩) (fun hHeld => ?_)
        refine wpAnyH_take (i := 0) (v := ?_) rfl (by kernel_rfl) (by kernel_rfl) (by kernel_rfl) (fun _ _ _ h => h) (Or.inl ⟨by rfl, ?_⟩) (by assumption) ?_
        rotate_left
        · intro w hSw
          (try dsimp only at hSw)
          go_simp
          all_goals with_reducible rfl
        try simp only [Act.put, List.setIfInBounds_toArray, List.set_cons_zero, List.set_cons_succ, List.getElem_toArray, List.getElem_cons_zero]
        refine wpAnyH_take (i := 1) (v := ?_) rfl (by kernel_rfl) (by kernel_rfl) (by kernel_rfl) (fun _ _ _ h => h) (Or.inl ⟨by rfl, ?_⟩) (by assumption) ?_
        rotate_left
        · intro w hSw
          (try dsimp only at hSw)
          go_simp
          all_goals with_reducible rfl
        try simp only [Act.put, List.setIfInBounds_toArray, List.set_cons_zero, List.set_cons_succ, List.getElem_toArray, List.getElem_cons_zero, List.getElem_cons_succ]
        refine wpAnyH_take (i := 2) (v := ?_) rfl (by kernel_rfl) (by kernel_rfl) (by kernel_rfl) (fun _ _ _ h => h) (Or.inl ⟨by rfl, ?_⟩) (by assumption) ?_
        rotate_left
        · intro w hSw
          (try dsimp only at hSw)
          go_simp
          all_goals with_reducible rfl
        try simp only [Act.put, List.setIfInBounds_toArray, List.set_cons_zero, List.set_cons_succ, List.getElem_toArray, List.getElem_cons_zero, List.getElem_cons_succ]
        refine wpAnyH_take (i := 3) (v := .bool false) rfl (by kernel_rfl) (by kernel_rfl) (by kernel_rfl) (fun _ _ _ h => h) (Or.inl ⟨by rfl, ?_⟩) (by assumption) ?_
        · intro w hSw
          go_simp
          exact HC.out.1
        try simp only [Act.put, List.setIfInBounds_toArray, List.set_cons_zero, List.set_cons_succ, List.getElem_toArray, List.getElem_cons_zero, List.getElem_cons_succ]
        refine wpAnyH_take (i := 4) (v := ?_) rfl (by kernel_rfl) (by kernel_rfl) (by kernel_rfl) (fun _ _ _ h => h) (Or.inl ⟨by rfl, ?_⟩) (by assumption) ?_
        rotate_left
        · intro w hSw
          (try dsimp only at hSw)
          go_simp
          all_goals with_reducible rfl
        try simp only [Act.put, List.setIfInBounds_toArray, List.set_cons_zero, List.set_cons_succ, List.getElem_toArray, List.getElem_cons_zero, List.getElem_cons_succ]
        refine wpAnyH_take (i := 5) (v := ?_) rfl (by kernel_rfl) (by kernel_rfl) (by kernel_rfl) (fun _ _ _ h => h) (Or.inl ⟨by rfl, ?_⟩) (by assumption) ?_
        rotate_left
        · intro w hSw
          (try dsimp only at hSw)
          go_simp
          all_goals with_reducible rfl
        try simp only [Act.put, List.setIfInBounds_toArray, List.set_cons_zero, List.set_cons_succ, List.getElem_toArray, List.getElem_cons_zero, List.getElem_cons_succ]
        refine wpAnyH_take (i := 6) (v := ?_) rfl (by kernel_rfl) (by kernel_rfl) (by kernel_rfl) (fun _ _ _ h => h) (Or.inl ⟨by rfl, ?_⟩) (by assumption) ?_
        rotate_left
        · intro w hSw
          (try dsimp only at hSw)
          go_simp
          all_goals with_reducible rfl
        try simp only [Act.put, List.setIfInBounds_toArray, List.set_cons_zero, List.set_cons_succ, List.getElem_toArray, List.getElem_cons_zero, List.getElem_cons_succ]
        refine wpAnyH_take (i := 7) (v := ?_) rfl (by kernel_rfl) (by kernel_rfl) (by kernel_rfl) (fun _ _ _ h => h) (Or.inl ⟨by rfl, ?_⟩) (by assumption) ?_
        rotate_left
        · intro w hSw
          (try dsimp only at hSw)
          go_simp
          all_goals with_reducible rfl
        try simp only [Act.put, List.setIfInBounds_toArray, List.set_cons_zero, List.set_cons_succ, List.getElem_toArray, List.getElem_cons_zero, List.getElem_cons_succ]
        refine wpAnyH_take (i := 8) (v := ?_) rfl (by kernel_rfl) (by kernel_rfl) (by kernel_rfl) (fun _ _ _ h => h) (Or.inl ⟨by rfl, ?_⟩) (by assumption) ?_
        rotate_left
        · intro w hSw
          (try dsimp only at hSw)
          go_simp
          all_goals with_reducible rfl
        try simp only [Act.put, List.setIfInBounds_toArray, List.set_cons_zero, List.set_cons_succ, List.getElem_toArray, List.getElem_cons_zero, List.getElem_cons_succ]
        refine wpAnyH_take (i := 9) (v := ?_) rfl (by kernel_rfl) (by kernel_rfl) (by kernel_rfl) (fun _ _ _ h => h) (Or.inl ⟨by rfl, ?_⟩) (by assumption) ?_
        rotate_left
        · intro w hSw
          (try dsimp only at hSw)
          go_simp
          all_goals with_reducible rfl
        try simp only [Act.put, List.setIfInBounds_toArray, List.set_cons_zero, List.set_cons_succ, List.getElem_toArray, List.getElem_cons_zero, List.getElem_cons_succ]
        refine wpAnyH_take (i := 10) (v := ?_) rfl (by kernel_rfl) (by kernel_rfl) (by kernel_rfl) (fun _ _ _ h => h) (Or.inl ⟨by rfl, ?_⟩) (by assumption) ?_
        rotate_left
        · intro w hSw
          (try dsimp only at hSw)
          go_simp
          all_goals with_reducible rfl
        try simp only [Act.put, List.setIfInBounds_toArray, List.set_cons_zero, List.set_cons_succ, List.getElem_toArray, List.getElem_cons_zero, List.getElem_cons_succ]
        refine wpAnyH_take (i := 11) (v := ?_) rfl (by kernel_rfl) (by kernel_rfl) (by kernel_rfl) (fun _ _ _ h => h) (Or.inl ⟨by rfl, ?_⟩) (by assumption) ?_
        rotate_left
        · intro w hSw
          (try dsimp only at hSw)
          go_simp
          all_goals with_reducible rfl
        try simp only [Act.put, List.setIfInBounds_toArray, List.set_cons_zero, List.set_cons_succ, List.getElem_toArray, List.getElem_cons_zero, List.getElem_cons_succ]
        refine wpAnyH_take (i := 12) (v := ?_) rfl (by kernel_rfl) (by kernel_rfl) (by kernel_rfl) (fun _ _ _ h => h) (Or.inl ⟨by rfl, ?_⟩) (by assumption) ?_
        rotate_left
        · intro w hSw
          (try dsimp only at hSw)
          go_simp
          all_goals with_reducible rfl
        try simp only [Act.put, List.setIfInBounds_toArray, List.set_cons_zero, List.set_cons_succ, List.getElem_toArray, List.getElem_cons_zero, List.getElem_cons_succ]
        refine wpAnyH_take (i := 13) (v := ?_) rfl (by kernel_rfl) (by kernel_rfl) (by kernel_rfl) (fun _ _ _ h => h) (Or.inl ⟨by rfl, ?_⟩) (by assumption) ?_
        rotate_left
        · intro w hSw
          (try dsimp only at hSw)
          go_simp
          all_goals with_reducible rfl
        try simp only [Act.put, List.setIfInBounds_toArray, List.set_cons_zero, List.set_cons_succ, List.getElem_toArray, List.getElem_cons_zero, List.getElem_cons_succ]
        refine wpAnyH_take (i := 14) (v := ?_) rfl (by kernel_rfl) (by kernel_rfl) (by kernel_rfl) (fun _ _ _ h => h) (Or.inl ⟨by rfl, ?_⟩) (by assumption) ?_
        rotate_left
        · intro w hSw
          (try dsimp only at hSw)
          go_simp
          all_goals with_reducible rfl
        try simp only [Act.put, List.setIfInBounds_toArray, List.set_cons_zero, List.set_cons_succ, List.getElem_toArray, List.getElem_cons_zero, List.getElem_cons_succ]
        refine wpAnyH_done (by kernel_rfl) ?_ _
        go_wp2
        go_roundw
        case rel => exact ⟨k + 1, q + 1, by omega, by omega, by go_num, by go_num, HQ1.out, HP.out.1.here, HP.out.2⟩
        case measure => simp [intOf]; omega
      · rw [if_neg (by simpa using h5), List.append_nil] at hsn
        have hq1 : ((l.take (k + 1)).filter (fun p => decide (B.tk p t < 5))).length = q := by rw [hsn, hq]
        have HQ1 := Lib.hid hq1
        generalize B.tk (Q.of l k, Q.de l k, Q.tm l k) t = T at *
        have A8 := Lib.hid k8
        clear k8 h9 hsn hq1 d1 d2 hb
        go_wp2_with fail
        refine (A8.out _ st6.here).mono ?_
        rintro e w7 ⟨rfl, b7⟩
        have HP := Lib.hid (And.intro (P6.keepB b7) (st6.b b7))
        clear P6 st6 b7 d0 A8 hq
        go_wp2
        go_roundw
        case rel => exact ⟨k + 1, q, by omega, by omega, by go_num, rfl, HQ1.out, HP.out⟩
        case measure => simp [intOf]; omega
    · obtain rfl : k = l.length := by omega
      rw [List.take_length, ← HALL.out] at hq
      subst hq
      have HB := Lib.hid st6.bel
      clear P6 st6
      go_wp2
      go_ret
      exact ⟨ret_bool (by first | rfl | simp), HB.out⟩

/-! ### THE ROW's STEP: WRITTEN OUT: LEAVE IT -/
set_option maxRecDepth 100000 in
theorem lifted (os : Os) (started : os.Started) (H : Type) (enc : TypeId × Value → H) :
    ReturnsInHanded {} Try.checked os 15 .any (Rows.fnDropFullNoneSpec.pre6 enc Try.prog Try.f15 Rows.fnDropFullNoneRow.domain false) (Rows.fnDropFullNoneSpec.post enc Try.prog Try.f15 false true false false) := by
  refine returnsInHanded_of_change (C := Try.checked) own started (by kernel_rfl) Try.func15
    (ChangeSpec.witness6 (enc := enc) (C := Try.checked) false ⟨#[], #[.slice none 0 0], []⟩ 8 (by kernel_rfl) (by kernel_rfl) (by kernel_rfl) (by kernel_rfl)) ?_
  intro W base args ds gs before hval0 hW hcnd _
  have hval : ∀ (j : Nat) t v, Try.f15.params[j]? = some t → args[j]? = some v → Value.okWide Try.prog W .any base t v := hval0
  have hW' := hW
  obtain ⟨p, q, hA0, hV, rfl, hfz, hnd⟩ := hW
  have hA : DataW.TrodAll enc Try.prog W 0 (fun _ => true) true Try.f15.params.toList args.toList ds p := hA0
  rw [Try.params15] at hA hval
  obtain ⟨v0, vs0, d0, ds0, p0, q0, hargs, rfl, rfl, h0, r0⟩ := trodAll_cons hA
  obtain ⟨rfl, rfl, rfl⟩ := trodAll_nil r0
  obtain rfl : args = #[v0] := by cases args; simp_all
  obtain ⟨rfl, rfl⟩ := trodVars_none hV
  obtain ⟨a0, len0, cap0, rfl⟩ := okWide_slice Try.underlying29 (hval 0 29 v0 rfl rfl)
  have k0 := h0
  have lt0 : ∀ x ∈ p0, x.block < W.heap.size := by obtain ⟨m, hm⟩ := k0; exact DataW.trod_lt m _ _ _ hm
  obtain ⟨z0, w0⟩ : ∃ zs, IsRow .u8 W a0 len0 cap0 zs := by
    obtain ⟨fuel, hf⟩ := h0
    rcases open_ints Try.underlying29 Try.underlying5 (by kernel_rfl) hf with ⟨hcs, _⟩ | ⟨x, l, c, zs, hcs, _, hl, hm, hz, _, hcell, hwz⟩
    · simp [Value.cells] at hcs
      obtain ⟨rfl, rfl, rfl⟩ := hcs
      exact ⟨[], .inl ⟨rfl, rfl, rfl, rfl⟩⟩
    · simp [Value.cells] at hcs
      obtain ⟨rfl, rfl, rfl⟩ := hcs
      exact ⟨zs, .inr ⟨_, rfl, hl, hm, by simpa using hz, hcell, hwz⟩⟩
  clear hA0 hval0
  refine (walk a0 len0 cap0 z0 W w0).mono fun e W' ⟨he, bel⟩ => ?_
  subst he
  exact ⟨_, rfl, _, _, _, [], _, [], hW', trodAll_mk1 (shut_bool Try.underlying4 _), (trodAll_cons_mk (Below.trod laidOut (by kernel_rfl) (of_decide_eq_true (by kernel_rfl)) k0 bel lt0) trodAll_mk0), rfl, bel.frame _, fun h => by cases h⟩

theorem closed : joinedFacts Try.pinned.checked.prog 15 Try.f15 Rows.fnDropFullNoneSpec Rows.fnDropFullNoneRow = true := by
  unfold joinedFacts
  rw [mayJ, liftsJ, makeJ]
  kernel_rfl

theorem over : Rows.fnDropFullNoneRow.holds Try.pinned (OpenSpec.ofChange Rows.fnDropFullNoneSpec) :=
  OpenClaim.holds_of_wide 15 Try.f15 rfl rfl rfl rfl rfl rfl rfl ⟨rfl, rfl, rfl, rfl, rfl⟩ rfl rfl rfl rfl rfl (by kernel_rfl) Try.func15 closed
    (of_decide_eq_true (by kernel_rfl)) (by unfold Func.isWrapper; first | (rw [if_pos (by decide +kernel)]; kernel_rfl) | (rw [if_neg (by decide +kernel)]; exact ⟨rfl, rfl⟩))
    (fun os started H enc _ => lifted os started H enc)

/-- ████ THE STATEMENT ████ -/
theorem proved : Rows.FnDropFullNoneSaid := over
#print axioms proved
end Go.Proofs.Ytoaaedbfjbgakaa.fnDropFullNone
