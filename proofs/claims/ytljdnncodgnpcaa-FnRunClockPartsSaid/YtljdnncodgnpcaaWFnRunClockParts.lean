/-
  PROVED: FnRunClockParts: for every input the law returns true, and the input reads as it did. No condition.
  The frame is as the kit prints it (proof-skeleton.mjs); the walk is mine.
-/
import Derived.Test.YtljdnncodgnpcaaRows
import Derived.Test.YtljdnncodgnpcaaCopyK
import Derived.Test.YtljdnncodgnpcaaRunS
import Derived.Test.YtljdnncodgnpcaaDrawR
import Derived.Test.YtljdnncodgnpcaaRMathB
import Derived.WalkKit
import Derived.ProofKit
import Derived.OpenShut
import Derived.ShutString
import Derived.ChangeOld
import Derived.Below
namespace Go.Proofs.Ytljdnncodgnpcaa.fnRunClockParts
open Go.ChangeShapes Go.WideShapes Go.ChangeAt Go.RowKit
open Go.ChangeMaps (open_string shut_string)
set_option linter.unusedVariables false


/-- WHAT THE WALK IS TOLD OF A SLICE OF INTEGERS THAT CAME IN: it is nil; or it leads to a row of 'cap' cells, the numbers 'zs' (the first 'len' are its elements, the rest its spare room), each fitting its kind. -/
def IsRow (k : IntKind) (w : World) (a : Option Addr) (len cap : Nat) (zs : List Int) : Prop :=
  (a = none ∧ len = 0 ∧ cap = 0 ∧ zs = []) ∨
  ∃ x, a = some x ∧ len ≤ cap ∧ cap ≤ maxLen ∧ zs.length = cap ∧ (∀ i, i < zs.length → w.cell? (x.add i) = some (.int k (zs.getD i 0))) ∧ ∀ n ∈ zs, (Lit.int k n).wf = true

/-! ### STEP 1: THE WALK: the Go text returns true, AND WRITES NOTHING THAT WAS THERE: 'Below w.heap.size w w'' (Derived/Below.lean: '.refl', '.alloc', '.drew', '.setCell' at a new block, '.trans'). Open each 'IsRow' by 'rcases' AHEAD of 'go_enter'; part every test ahead of the walk. -/
theorem both_runs (x y z : Int) (l : List Q.Sm) : ∃ X1 X2 X3 : Int, ∃ k : Bool,
    (∀ (B n c : Nat) (a : Option Addr) (w : World), Sms B w a n l → B ≤ w.heap.size → Calls Try.prog 18 #[.agg #[.int .i64 x, .int .i64 y, .int .i64 z], .slice a n c] w fun e w' => e = .returned (.tuple #[.agg #[.int .i64 X1, .int .i64 X2, .int .i64 X3], .bool k]) ∧ Below w.heap.size w w') ∧
    (∀ (B n c : Nat) (a : Option Addr) (w : World), Sms B w a n l → B ≤ w.heap.size → Calls Try.prog 17 #[.agg #[.int .i64 x, .int .i64 y, .int .i64 z], .slice a n c] w fun e w' => e = .returned (.tuple #[.agg #[.int .i64 X1, .int .i64 X2, .int .i64 X3], .bool k]) ∧ Below w.heap.size w w') ∧
    (k = true → K.rok (x, y, z) l = true ∧ K.rs (x, y, z) l l.length = (X1, X2, X3)) :=
  ⟨(K.re (x, y, z) l).1, (K.re (x, y, z) l).2.1, (K.re (x, y, z) l).2.2, K.rok (x, y, z) l, fun B n c a w h hB => RC_spec B n c a l (x, y, z) w h hB, fun B n c a w h hB => RC_impl B n c a l (x, y, z) w h hB, fun hk => ⟨hk, by rw [K.re_yes hk]⟩⟩
structure Gs (w w' : World) (D1 : Nat) (o p c : Int) (D2 : Nat) (x y z : Int) : Prop where
  st : Kq w w' D1 o p c
  d : C3 w' D2 x y z
theorem Gs.b {w w' w'' : World} {D1 D2 : Nat} {o p c x y z : Int} (h : Gs w w' D1 o p c D2 x y z) (hb : Below w'.heap.size w' w'') : Gs w w'' D1 o p c D2 x y z := ⟨h.st.b hb, h.d.b hb⟩
theorem Gs.al {w w' : World} {D1 D2 : Nat} {o p c x y z : Int} (h : Gs w w' D1 o p c D2 x y z) (k : Obj) : Gs w (w'.alloc k) D1 o p c D2 x y z := ⟨h.st.al k, h.d.al k⟩
theorem Gs.drew {w w' : World} {D1 D2 : Nat} {o p c x y z : Int} (h : Gs w w' D1 o p c D2 x y z) : Gs w w'.drew D1 o p c D2 x y z := ⟨h.st.dr 1, h.d.dr 1⟩
theorem Gs.keep3 {w w' w'' : World} {D1 D2 : Nat} {o p c x y z : Int} (h : Gs w w' D1 o p c D2 x y z) (hb : Below w'.heap.size w' w'') : w''.cell? ⟨D1, 0, none⟩ = some (.int .i64 o) ∧ w''.cell? ⟨D1, 1, none⟩ = some (.int .i64 p) ∧ w''.cell? ⟨D1, 2, none⟩ = some (.int .i64 c) := ⟨(h.b hb).st.here.c0, (h.b hb).st.here.c1, (h.b hb).st.here.c2⟩
theorem Gs.keep0 {w w' : World} {D1 D2 : Nat} {o p c x y z : Int} (h : Gs w w' D1 o p c D2 x y z) : w'.drew.cell? ⟨D1, 0, none⟩ = some (.int .i64 o) ∧ w'.drew.cell? ⟨D1, 1, none⟩ = some (.int .i64 p) ∧ w'.drew.cell? ⟨D1, 2, none⟩ = some (.int .i64 c) := ⟨h.drew.st.here.c0, h.drew.st.here.c1, h.drew.st.here.c2⟩
structure Gt (w w' : World) (D1 : Nat) (o p c : Int) (D2 : Nat) (x y z : Int) (E : Nat) (u v q : Int) : Prop where
  G : Gs w w' D1 o p c D2 x y z
  e : C3 w' E u v q
theorem Gt.b {w w' w'' : World} {D1 D2 E : Nat} {o p c x y z u v q : Int} (h : Gt w w' D1 o p c D2 x y z E u v q) (hb : Below w'.heap.size w' w'') : Gt w w'' D1 o p c D2 x y z E u v q := ⟨h.G.b hb, h.e.b hb⟩
theorem Gt.al {w w' : World} {D1 D2 E : Nat} {o p c x y z u v q : Int} (h : Gt w w' D1 o p c D2 x y z E u v q) (k : Obj) : Gt w (w'.alloc k) D1 o p c D2 x y z E u v q := ⟨h.G.al k, h.e.al k⟩
theorem Gt.drew {w w' : World} {D1 D2 E : Nat} {o p c x y z u v q : Int} (h : Gt w w' D1 o p c D2 x y z E u v q) : Gt w w'.drew D1 o p c D2 x y z E u v q := ⟨h.G.drew, h.e.dr 1⟩
theorem Gt.keep3 {w w' w'' : World} {D1 D2 E : Nat} {o p c x y z u v q : Int} (h : Gt w w' D1 o p c D2 x y z E u v q) (hb : Below w'.heap.size w' w'') : w''.cell? ⟨E, 0, none⟩ = some (.int .i64 u) ∧ w''.cell? ⟨E, 1, none⟩ = some (.int .i64 v) ∧ w''.cell? ⟨E, 2, none⟩ = some (.int .i64 q) := ⟨(h.b hb).e.c0, (h.b hb).e.c1, (h.b hb).e.c2⟩
theorem Gt.keep0 {w w' : World} {D1 D2 E : Nat} {o p c x y z u v q : Int} (h : Gt w w' D1 o p c D2 x y z E u v q) : w'.drew.cell? ⟨E, 0, none⟩ = some (.int .i64 u) ∧ w'.drew.cell? ⟨E, 1, none⟩ = some (.int .i64 v) ∧ w'.drew.cell? ⟨E, 2, none⟩ = some (.int .i64 q) := ⟨h.drew.e.c0, h.drew.e.c1, h.drew.e.c2⟩
theorem Sms.dropR {B b off : Nat} {w : World} {n : Nat} {l : List Q.Sm} (h : Sms B w (some ⟨b, off, none⟩) n l) (k : Nat) (hk : k ≤ n) : Sms B w (some ⟨b, off + k * 3, none⟩) (n - k) (l.drop k) := by
  refine ⟨by rw [List.length_drop, h.1], by have := h.2.1; omega, ?_⟩
  rcases Nat.eq_zero_or_pos (n - k) with h0 | h0
  · exact .inl h0
  · obtain ⟨b', off', e, hb, hc⟩ := h.at_ 0 (by omega)
    injection e with e; injection e with e1 e2
    subst e1; subst e2
    refine .inr ⟨b, off + k * 3, rfl, hb, fun i hi => ?_⟩
    have d := K.dr_at l k i
    rw [d.1, d.2.1, d.2.2]
    have := hc (k + i) (by omega)
    rw [show off + k * 3 + i * 3 = off + (k + i) * 3 by omega]
    exact this
set_option maxRecDepth 100000 in
set_option maxHeartbeats 8000000 in
theorem walked (a0 : Option Addr) (len0 cap0 : Nat) (z0 : List Int) (w : World) (w0 : IsRow .u8 w a0 len0 cap0 z0) :
    Calls Try.prog 4 #[.slice a0 len0 cap0] w fun e w' => e = .returned (.bool true) ∧ Below w.heap.size w w' := by
  by_cases hl : 1048576 < len0
  · have hl' : (1048576 : Int) < (len0 : Int) := by omega
    clear w0 hl
    go_enter Try.func4, Try.ntmps4
    go_wp2
    go_ret
    exact ⟨rfl, Below.refl _ _⟩
  have hl' : ¬ (1048576 : Int) < (len0 : Int) := by omega
  obtain ⟨hc, hcap⟩ := code_of w0 (by omega)
  clear w0 hl
  go_enter Try.func4, Try.ntmps4
  go_wp2_with fail
  refine (DrawRunClock_any w a0 len0 cap0 hc hcap).mono ?_
  rintro e w1 ⟨o, p, c, ad, cp, l, rfl, ho, hp, hc, hl9, hcp, hcm, hS3, hS, bl, hnl⟩
  clear hc hcap
  have st1 := Kq.new bl o p c 24
  have hA1 := (hS.below ((Below.refl w1.heap.size w1).alloc (Nat.le_refl _) (.cells #[.int .i64 o, .int .i64 p, .int .i64 c] 24))).more (show w1.heap.size ≤ (w1.alloc (.cells #[.int .i64 o, .int .i64 p, .int .i64 c] 24)).heap.size by simp)
  have r10 := st1.here.c0
  have r11 := st1.here.c1
  have r12 := st1.here.c2
  obtain ⟨X1, X2, X3, k, KS, KI, KF⟩ := both_runs o p c l
  have HS := Lib.hid KS
  have HI := Lib.hid KI
  have HF := Lib.hid KF
  clear KS KI KF hS bl
  rcases hk : k with _ | _
  · subst hk
    go_wp2_with fail
    refine (HI.out _ _ _ _ _ hA1 (Nat.le_refl _)).mono ?_
    rintro e w2 ⟨rfl, b2⟩
    have bb2 := b2.alloc b2.size (.cells #[.int .i64 X1, .int .i64 X2, .int .i64 X3] 24)
    have st2 := st1.b bb2
    have hA2 := (hA1.below bb2).more bb2.size
    have d2 := C3.new w2 X1 X2 X3 24
    have r20 := st2.here.c0
    have r21 := st2.here.c1
    have r22 := st2.here.c2
    clear st1 hA1 b2 bb2 r10 r11 r12
    go_wp2_with fail
    refine (HS.out _ _ _ _ _ hA2 (Nat.le_refl _)).mono ?_
    rintro e w3 ⟨rfl, b3⟩
    have bb3 := b3.alloc b3.size (.cells #[.int .i64 X1, .int .i64 X2, .int .i64 X3] 24)
    have st3 := st2.b bb3
    have hA3 := (hA2.below bb3).more bb3.size
    have d3 := d2.b bb3
    have e3 := C3.new w3 X1 X2 X3 24
    have r30 := st3.here.c0
    have r31 := st3.here.c1
    have r32 := st3.here.c2
    have d30 := d3.c0
    have d31 := d3.c1
    have d32 := d3.c2
    have e30 := e3.c0
    have e31 := e3.c1
    have e32 := e3.c2
    have ld := d2.lt
    have ld3 := b3.size
    clear st2 hA2 b3 bb3 d2 e3 r20 r21 r22
    go_wp2
    go_ret
    exact ⟨ret_bool (by first | rfl | simp), st3.bel⟩
  · subst hk
    have hl := hA1.1
    obtain ⟨hok, hrs⟩ := HF.out rfl
    have hp := K.parts hok (k := l.length / 2) (by omega)
    generalize hm : l.length / 2 = m at *
    have hml : m ≤ l.length := by omega
    obtain ⟨Y1, Y2, Y3, hY⟩ : ∃ Y1 Y2 Y3 : Int, K.rs (o, p, c) l m = (Y1, Y2, Y3) := ⟨_, _, _, rfl⟩
    rw [hY, hrs] at hp
    have k4 := fun (B n cp : Nat) (a : Option Addr) (w' : World) (h : Sms B w' a n (qtk l m)) (hB : B ≤ w'.heap.size) => RC_impl B n cp a (qtk l m) (o, p, c) w' h hB
    simp only [hp.1, hp.2.1] at k4
    have k5 := fun (B n cp : Nat) (a : Option Addr) (w' : World) (h : Sms B w' a n (l.drop m)) (hB : B ≤ w'.heap.size) => RC_impl B n cp a (l.drop m) (Y1, Y2, Y3) w' h hB
    simp only [hp.2.2.1, hp.2.2.2] at k5
    clear hp hok hrs hY
    rcases Nat.eq_zero_or_pos l.length with hln | hln
    · obtain ⟨rfl, rfl⟩ := hnl (List.length_eq_zero_iff.mp hln)
      obtain rfl : m = 0 := by omega
      rw [hln] at hA1 hml
      have K4 := Lib.hid k4
      have K5 := Lib.hid k5
      have HM := Lib.hid hln
      clear k4 k5 hm hl hnl hcp hcm
      go_wp2_with fail
      refine (HI.out _ _ _ _ _ hA1 (Nat.le_refl _)).mono ?_
      rintro e w2 ⟨rfl, b2⟩
      have bb2 := b2.alloc b2.size (.cells #[.int .i64 X1, .int .i64 X2, .int .i64 X3] 24)
      have st2 := st1.b bb2
      have hA2 := (hA1.below bb2).more bb2.size
      have d2 := C3.new w2 X1 X2 X3 24
      have r20 := st2.here.c0
      have r21 := st2.here.c1
      have r22 := st2.here.c2
      clear st1 hA1 b2 bb2 r10 r11 r12
      go_wp2_with fail
      refine (HS.out _ _ _ _ _ hA2 (Nat.le_refl _)).mono ?_
      rintro e w3 ⟨rfl, b3⟩
      have bb3 := b3.alloc b3.size (.cells #[.int .i64 X1, .int .i64 X2, .int .i64 X3] 24)
      have st3 := st2.b bb3
      have hA3 := (hA2.below bb3).more bb3.size
      have d3 := d2.b bb3
      have e3 := C3.new w3 X1 X2 X3 24
      have r30 := st3.here.c0
      have r31 := st3.here.c1
      have r32 := st3.here.c2
      have d30 := d3.c0
      have d31 := d3.c1
      have d32 := d3.c2
      have e30 := e3.c0
      have e31 := e3.c1
      have e32 := e3.c2
      have ld := d2.lt
      have ld3 := b3.size
      clear st2 hA2 b3 bb3 d2 e3 r20 r21 r22
      go_wp2_with fail
      have G9 : Gs w (w3.alloc (Obj.cells #[.int .i64 X1, .int .i64 X2, .int .i64 X3] 24)) w1.heap.size o p c w2.heap.size X1 X2 X3 := ⟨st3, d3⟩
      have hL9 := hA3
      have bW9 := st3.bel
      clear st3 d3 r30 r31 r32 d30 d31 d32 e30 e31 e32 ld ld3 hA3
      generalize w3.alloc (Obj.cells #[.int .i64 X1, .int .i64 X2, .int .i64 X3] 24) = W3 at *
      generalize w1.heap.size = D1 at *
      generalize w2.heap.size = D2 at *
      generalize w3.heap.size = D3 at *
      refine wp_region_held_drew (S := (fun w' => w'.cell? ⟨D1, 0, none⟩ = some (.int .i64 o) ∧ w'.cell? ⟨D1, 1, none⟩ = some (.int .i64 p) ∧ w'.cell? ⟨D1, 2, none⟩ = some (.int .i64 c))) (by kernel_rfl) (G9.keep0) (fun hHeld => ?_)
      have G9 := G9.drew
      replace hL9 : Sms W3.drew.heap.size W3.drew _ _ _ := hL9
      replace bW9 := bW9.drew
      generalize W3.drew = V9 at *
      refine wpAnyH_take (i := 0) (v := ?_) rfl (by kernel_rfl) (by kernel_rfl) (by kernel_rfl) (fun _ _ _ h => h) (Or.inl ⟨by rfl, ?_⟩) (by assumption) ?_
      rotate_left
      · intro w hSw
        (try dsimp only at hSw)
        go_simp
        all_goals with_reducible rfl
      try simp only [Act.put, List.setIfInBounds_toArray, List.set_cons_zero, List.set_cons_succ, List.getElem_toArray, List.getElem_cons_zero]
      refine wpAnyH_take (i := 1) (v := ?_) rfl (by kernel_rfl) (by kernel_rfl) (by kernel_rfl) (fun _ _ _ h => h) (Or.inl ⟨by rfl, ?_⟩) (by assumption) ?_
      rotate_left
      · intro w hSw
        (try dsimp only at hSw)
        go_simp
        all_goals with_reducible rfl
      try simp only [Act.put, List.setIfInBounds_toArray, List.set_cons_zero, List.set_cons_succ, List.getElem_toArray, List.getElem_cons_zero, List.getElem_cons_succ]
      refine wpAnyH_take (i := 2) (v := ?_) rfl (by kernel_rfl) (by kernel_rfl) (by kernel_rfl) (fun _ _ _ h => h) (Or.inl ⟨by rfl, ?_⟩) (by assumption) ?_
      rotate_left
      · intro w hSw
        (try dsimp only at hSw)
        go_simp
        all_goals with_reducible rfl
      try simp only [Act.put, List.setIfInBounds_toArray, List.set_cons_zero, List.set_cons_succ, List.getElem_toArray, List.getElem_cons_zero, List.getElem_cons_succ]
      refine wpAnyH_take (i := 3) (v := ?_) rfl (by kernel_rfl) (by kernel_rfl) (by kernel_rfl) (fun _ _ _ h => h) (Or.inl ⟨by rfl, ?_⟩) (by assumption) ?_
      rotate_left
      · intro w hSw
        (try dsimp only at hSw)
        go_simp
        all_goals with_reducible rfl
      try simp only [Act.put, List.setIfInBounds_toArray, List.set_cons_zero, List.set_cons_succ, List.getElem_toArray, List.getElem_cons_zero, List.getElem_cons_succ]
      refine wpAnyH_ready (rs := [4, 8]) (by kernel_rfl) (by simp) ?_
      refine AllReadyH.cons rfl (fun K hK => ?_) (AllReadyH.cons rfl (fun K hK => ?_) AllReadyH.nil)
      · go_simp
        (go_at_call 17; refine (K4.out _ _ _ _ _ (Sms.take hL9 0 (Nat.zero_le _)) (Nat.le_refl _)).mono ?_; rintro e w95 ⟨rfl, b95⟩)
        refine hK.out _ _ (G9.keep3 b95) (fun hHeld => ?_)
        clear hK K
        try simp only [Act.put, List.setIfInBounds_toArray, List.set_cons_zero, List.set_cons_succ, List.getElem_toArray, List.getElem_cons_zero, List.getElem_cons_succ]
        refine wpAnyH_take (i := 5) (v := ?_) rfl (by kernel_rfl) (by kernel_rfl) (by kernel_rfl) (fun _ _ _ h => h) (Or.inl ⟨by rfl, ?_⟩) (by assumption) ?_
        rotate_left
        · intro w hSw
          (try dsimp only at hSw)
          go_simp
          all_goals with_reducible rfl
        try simp only [Act.put, List.setIfInBounds_toArray, List.set_cons_zero, List.set_cons_succ, List.getElem_toArray, List.getElem_cons_zero, List.getElem_cons_succ]
        refine wpAnyH_take (i := 6) (v := ?_) rfl (by kernel_rfl) (by kernel_rfl) (by kernel_rfl) (fun _ _ _ h => h) (Or.inl ⟨by rfl, ?_⟩) (by assumption) ?_
        rotate_left
        · intro w hSw
          (try dsimp only at hSw)
          go_simp
          all_goals with_reducible rfl
        try simp only [Act.put, List.setIfInBounds_toArray, List.set_cons_zero, List.set_cons_succ, List.getElem_toArray, List.getElem_cons_zero, List.getElem_cons_succ]
        refine wpAnyH_take (i := 7) (v := ?_) rfl (by kernel_rfl) (by kernel_rfl) (by kernel_rfl) (fun _ _ _ h => h) (Or.inl ⟨by rfl, ?_⟩) (by assumption) ?_
        rotate_left
        · intro w hSw
          (try dsimp only at hSw)
          go_simp
          all_goals with_reducible rfl
        try simp only [Act.put, List.setIfInBounds_toArray, List.set_cons_zero, List.set_cons_succ, List.getElem_toArray, List.getElem_cons_zero, List.getElem_cons_succ]
        have e0 : (w95.alloc (.cells #[.int .i64 0, .int .i64 0, .int .i64 0] 24)).cell? ⟨w95.heap.size, 0, none⟩ = some (.int .i64 0) := by simp
        have e1 : (w95.alloc (.cells #[.int .i64 0, .int .i64 0, .int .i64 0] 24)).cell? ⟨w95.heap.size, 1, none⟩ = some (.int .i64 0) := by simp
        have e2 : (w95.alloc (.cells #[.int .i64 0, .int .i64 0, .int .i64 0] 24)).cell? ⟨w95.heap.size, 2, none⟩ = some (.int .i64 0) := by simp
        have h0 : (w95.alloc (.cells #[.int .i64 0, .int .i64 0, .int .i64 0] 24)).frozen? ⟨w95.heap.size, 0, none⟩ = false := by simp
        have h1 : (w95.alloc (.cells #[.int .i64 0, .int .i64 0, .int .i64 0] 24)).frozen? ⟨w95.heap.size, 1, none⟩ = false := by simp
        have h2 : (w95.alloc (.cells #[.int .i64 0, .int .i64 0, .int .i64 0] 24)).frozen? ⟨w95.heap.size, 2, none⟩ = false := by simp
        have bX := b95.alloc b95.size (.cells #[.int .i64 0, .int .i64 0, .int .i64 0] 24)
        have hE := b95.size
        refine wpAnyH_ready (rs := [8]) (by kernel_rfl) (by simp) ?_
        refine AllReadyH.cons rfl (fun K hK => ?_) AllReadyH.nil
        go_simp
        skip
        refine hK.out _ _ (G9.keep3 bX) (fun hHeld => ?_)
        clear hK K
        try simp only [Act.put, List.setIfInBounds_toArray, List.set_cons_zero, List.set_cons_succ, List.getElem_toArray, List.getElem_cons_zero, List.getElem_cons_succ]
        clear b95
        generalize w95.alloc (.cells #[.int .i64 0, .int .i64 0, .int .i64 0] 24) = X5 at *
        generalize w95.heap.size = E9 at *
        obtain ⟨v0, v1, v2, vo, vf⟩ := set3 (x := (.int .i64 Y1)) (y := (.int .i64 Y2)) (z := (.int .i64 Y3)) e0 e1 e2
        have bF := ((bX.setCell (p := ⟨E9, 0, none⟩) hE (.int .i64 Y1)).setCell (p := ⟨E9, 1, none⟩) hE (.int .i64 Y2)).setCell (p := ⟨E9, 2, none⟩) hE (.int .i64 Y3)
        refine wpAnyH_ready (rs := [9]) (by kernel_rfl) (by simp) ?_
        refine AllReadyH.cons rfl (fun K hK => ?_) AllReadyH.nil
        go_simp
        skip
        refine hK.out _ _ (G9.keep3 bF) (fun hHeld => ?_)
        clear hK K
        try simp only [Act.put, List.setIfInBounds_toArray, List.set_cons_zero, List.set_cons_succ, List.getElem_toArray, List.getElem_cons_zero, List.getElem_cons_succ]
        have hlt : E9 < (((X5.setCell ⟨E9, 0, none⟩ (.int .i64 Y1)).setCell ⟨E9, 1, none⟩ (.int .i64 Y2)).setCell ⟨E9, 2, none⟩ (.int .i64 Y3)).heap.size := World.block_lt_of_cell? _ _ v0
        refine wpAnyH_take (i := 10) (v := ?_) rfl (by kernel_rfl) (by kernel_rfl) (by kernel_rfl) (fun _ _ _ h => h) (Or.inl ⟨by rfl, ?_⟩) (by assumption) ?_
        rotate_left
        · intro w hSw
          (try dsimp only at hSw)
          go_simp
          all_goals with_reducible rfl
        try simp only [Act.put, List.setIfInBounds_toArray, List.set_cons_zero, List.set_cons_succ, List.getElem_toArray, List.getElem_cons_zero, List.getElem_cons_succ]
        refine wpAnyH_done (by kernel_rfl) ?_ _
        clear hHeld e0 e1 e2 h0 h1 h2 vo vf bX
        generalize ((X5.setCell ⟨E9, 0, none⟩ (.int .i64 Y1)).setCell ⟨E9, 1, none⟩ (.int .i64 Y2)).setCell ⟨E9, 2, none⟩ (.int .i64 Y3) = W9 at *
        have G10 : Gt w W9 D1 o p c D2 X1 X2 X3 E9 Y1 Y2 Y3 := ⟨G9.b bF, ⟨v0, v1, v2, hlt⟩⟩
        have hL10 := (hL9.below bF).more bF.size
        have bW10 := (G9.b bF).st.bel
        clear G9 hL9 bW9 bF v0 v1 v2 hE hlt
        go_wp2_with fail
        refine wp_region_held_drew (S := (fun w' => w'.cell? ⟨E9, 0, none⟩ = some (.int .i64 Y1) ∧ w'.cell? ⟨E9, 1, none⟩ = some (.int .i64 Y2) ∧ w'.cell? ⟨E9, 2, none⟩ = some (.int .i64 Y3))) (by kernel_rfl) (G10.keep0) (fun hHeld => ?_)
        have G10 := G10.drew
        replace hL10 : Sms W9.drew.heap.size W9.drew _ _ _ := hL10
        replace bW10 := bW10.drew
        generalize W9.drew = V10 at *
        refine wpAnyH_take (i := 0) (v := ?_) rfl (by kernel_rfl) (by kernel_rfl) (by kernel_rfl) (fun _ _ _ h => h) (Or.inl ⟨by rfl, ?_⟩) (by assumption) ?_
        rotate_left
        · intro w hSw
          (try dsimp only at hSw)
          go_simp
          all_goals with_reducible rfl
        try simp only [Act.put, List.setIfInBounds_toArray, List.set_cons_zero, List.set_cons_succ, List.getElem_toArray, List.getElem_cons_zero]
        refine wpAnyH_take (i := 1) (v := ?_) rfl (by kernel_rfl) (by kernel_rfl) (by kernel_rfl) (fun _ _ _ h => h) (Or.inl ⟨by rfl, ?_⟩) (by assumption) ?_
        rotate_left
        · intro w hSw
          (try dsimp only at hSw)
          go_simp
          all_goals with_reducible rfl
        try simp only [Act.put, List.setIfInBounds_toArray, List.set_cons_zero, List.set_cons_succ, List.getElem_toArray, List.getElem_cons_zero, List.getElem_cons_succ]
        refine wpAnyH_take (i := 2) (v := ?_) rfl (by kernel_rfl) (by kernel_rfl) (by kernel_rfl) (fun _ _ _ h => h) (Or.inl ⟨by rfl, ?_⟩) (by assumption) ?_
        rotate_left
        · intro w hSw
          (try dsimp only at hSw)
          go_simp
          all_goals with_reducible rfl
        try simp only [Act.put, List.setIfInBounds_toArray, List.set_cons_zero, List.set_cons_succ, List.getElem_toArray, List.getElem_cons_zero, List.getElem_cons_succ]
        refine wpAnyH_take (i := 3) (v := ?_) rfl (by kernel_rfl) (by kernel_rfl) (by kernel_rfl) (fun _ _ _ h => h) (Or.inl ⟨by rfl, ?_⟩) (by assumption) ?_
        rotate_left
        · intro w hSw
          (try dsimp only at hSw)
          go_simp
          all_goals with_reducible rfl
        try simp only [Act.put, List.setIfInBounds_toArray, List.set_cons_zero, List.set_cons_succ, List.getElem_toArray, List.getElem_cons_zero, List.getElem_cons_succ]
        refine wpAnyH_ready (rs := [4, 8]) (by kernel_rfl) (by simp) ?_
        refine AllReadyH.cons rfl (fun K hK => ?_) (AllReadyH.cons rfl (fun K hK => ?_) AllReadyH.nil)
        · go_simp
          (go_at_call 17; refine (K5.out _ _ _ _ _ ⟨by simp [HM.out], by omega, .inl rfl⟩ (Nat.le_refl _)).mono ?_; rintro e w105 ⟨rfl, b105⟩)
          refine hK.out _ _ (G10.keep3 b105) (fun hHeld => ?_)
          clear hK K
          try simp only [Act.put, List.setIfInBounds_toArray, List.set_cons_zero, List.set_cons_succ, List.getElem_toArray, List.getElem_cons_zero, List.getElem_cons_succ]
          refine wpAnyH_take (i := 5) (v := ?_) rfl (by kernel_rfl) (by kernel_rfl) (by kernel_rfl) (fun _ _ _ h => h) (Or.inl ⟨by rfl, ?_⟩) (by assumption) ?_
          rotate_left
          · intro w hSw
            (try dsimp only at hSw)
            go_simp
            all_goals with_reducible rfl
          try simp only [Act.put, List.setIfInBounds_toArray, List.set_cons_zero, List.set_cons_succ, List.getElem_toArray, List.getElem_cons_zero, List.getElem_cons_succ]
          refine wpAnyH_take (i := 6) (v := ?_) rfl (by kernel_rfl) (by kernel_rfl) (by kernel_rfl) (fun _ _ _ h => h) (Or.inl ⟨by rfl, ?_⟩) (by assumption) ?_
          rotate_left
          · intro w hSw
            (try dsimp only at hSw)
            go_simp
            all_goals with_reducible rfl
          try simp only [Act.put, List.setIfInBounds_toArray, List.set_cons_zero, List.set_cons_succ, List.getElem_toArray, List.getElem_cons_zero, List.getElem_cons_succ]
          refine wpAnyH_take (i := 7) (v := ?_) rfl (by kernel_rfl) (by kernel_rfl) (by kernel_rfl) (fun _ _ _ h => h) (Or.inl ⟨by rfl, ?_⟩) (by assumption) ?_
          rotate_left
          · intro w hSw
            (try dsimp only at hSw)
            go_simp
            all_goals with_reducible rfl
          try simp only [Act.put, List.setIfInBounds_toArray, List.set_cons_zero, List.set_cons_succ, List.getElem_toArray, List.getElem_cons_zero, List.getElem_cons_succ]
          have e0 : (w105.alloc (.cells #[.int .i64 0, .int .i64 0, .int .i64 0] 24)).cell? ⟨w105.heap.size, 0, none⟩ = some (.int .i64 0) := by simp
          have e1 : (w105.alloc (.cells #[.int .i64 0, .int .i64 0, .int .i64 0] 24)).cell? ⟨w105.heap.size, 1, none⟩ = some (.int .i64 0) := by simp
          have e2 : (w105.alloc (.cells #[.int .i64 0, .int .i64 0, .int .i64 0] 24)).cell? ⟨w105.heap.size, 2, none⟩ = some (.int .i64 0) := by simp
          have h0 : (w105.alloc (.cells #[.int .i64 0, .int .i64 0, .int .i64 0] 24)).frozen? ⟨w105.heap.size, 0, none⟩ = false := by simp
          have h1 : (w105.alloc (.cells #[.int .i64 0, .int .i64 0, .int .i64 0] 24)).frozen? ⟨w105.heap.size, 1, none⟩ = false := by simp
          have h2 : (w105.alloc (.cells #[.int .i64 0, .int .i64 0, .int .i64 0] 24)).frozen? ⟨w105.heap.size, 2, none⟩ = false := by simp
          have bX := b105.alloc b105.size (.cells #[.int .i64 0, .int .i64 0, .int .i64 0] 24)
          have hE := b105.size
          refine wpAnyH_ready (rs := [8]) (by kernel_rfl) (by simp) ?_
          refine AllReadyH.cons rfl (fun K hK => ?_) AllReadyH.nil
          go_simp
          skip
          refine hK.out _ _ (G10.keep3 bX) (fun hHeld => ?_)
          clear hK K
          try simp only [Act.put, List.setIfInBounds_toArray, List.set_cons_zero, List.set_cons_succ, List.getElem_toArray, List.getElem_cons_zero, List.getElem_cons_succ]
          clear b105
          generalize w105.alloc (.cells #[.int .i64 0, .int .i64 0, .int .i64 0] 24) = X5 at *
          generalize w105.heap.size = E10 at *
          obtain ⟨v0, v1, v2, vo, vf⟩ := set3 (x := (.int .i64 X1)) (y := (.int .i64 X2)) (z := (.int .i64 X3)) e0 e1 e2
          have bF := ((bX.setCell (p := ⟨E10, 0, none⟩) hE (.int .i64 X1)).setCell (p := ⟨E10, 1, none⟩) hE (.int .i64 X2)).setCell (p := ⟨E10, 2, none⟩) hE (.int .i64 X3)
          refine wpAnyH_ready (rs := [9]) (by kernel_rfl) (by simp) ?_
          refine AllReadyH.cons rfl (fun K hK => ?_) AllReadyH.nil
          go_simp
          skip
          refine hK.out _ _ (G10.keep3 bF) (fun hHeld => ?_)
          clear hK K
          try simp only [Act.put, List.setIfInBounds_toArray, List.set_cons_zero, List.set_cons_succ, List.getElem_toArray, List.getElem_cons_zero, List.getElem_cons_succ]
          have hlt : E10 < (((X5.setCell ⟨E10, 0, none⟩ (.int .i64 X1)).setCell ⟨E10, 1, none⟩ (.int .i64 X2)).setCell ⟨E10, 2, none⟩ (.int .i64 X3)).heap.size := World.block_lt_of_cell? _ _ v0
          refine wpAnyH_take (i := 10) (v := ?_) rfl (by kernel_rfl) (by kernel_rfl) (by kernel_rfl) (fun _ _ _ h => h) (Or.inl ⟨by rfl, ?_⟩) (by assumption) ?_
          rotate_left
          · intro w hSw
            (try dsimp only at hSw)
            go_simp
            all_goals with_reducible rfl
          try simp only [Act.put, List.setIfInBounds_toArray, List.set_cons_zero, List.set_cons_succ, List.getElem_toArray, List.getElem_cons_zero, List.getElem_cons_succ]
          refine wpAnyH_done (by kernel_rfl) ?_ _
          clear hHeld e0 e1 e2 h0 h1 h2 vo vf bX
          generalize ((X5.setCell ⟨E10, 0, none⟩ (.int .i64 X1)).setCell ⟨E10, 1, none⟩ (.int .i64 X2)).setCell ⟨E10, 2, none⟩ (.int .i64 X3) = WX at *
          have hbel := (G10.b bF).G.st.bel
          have y0 := (G10.b bF).G.d.c0
          have y1 := (G10.b bF).G.d.c1
          have y2 := (G10.b bF).G.d.c2
          clear hL10 bF G10 bW10 hE hlt
          go_wp2
          go_ret
          exact ⟨ret_bool (by first | rfl | simp), hbel⟩
        · go_simp
          have bZ := (Below.refl V10.heap.size V10).alloc (Nat.le_refl _) (.cells #[.int .i64 0, .int .i64 0, .int .i64 0] 24)
          refine hK.out _ _ (G10.keep3 bZ) (fun hHeld => ?_)
          clear hK K
          try simp only [Act.put, List.setIfInBounds_toArray, List.set_cons_zero, List.set_cons_succ, List.getElem_toArray, List.getElem_cons_zero, List.getElem_cons_succ]
          have G10z := G10.al (.cells #[.int .i64 0, .int .i64 0, .int .i64 0] 24)
          have hSz : V10.heap.size < (V10.alloc (.cells #[.int .i64 0, .int .i64 0, .int .i64 0] 24)).heap.size := by simp
          have c0 : (V10.alloc (.cells #[.int .i64 0, .int .i64 0, .int .i64 0] 24)).cell? ⟨V10.heap.size, 0, none⟩ = some (.int .i64 0) := by simp
          have c1 : (V10.alloc (.cells #[.int .i64 0, .int .i64 0, .int .i64 0] 24)).cell? ⟨V10.heap.size, 1, none⟩ = some (.int .i64 0) := by simp
          have c2 : (V10.alloc (.cells #[.int .i64 0, .int .i64 0, .int .i64 0] 24)).cell? ⟨V10.heap.size, 2, none⟩ = some (.int .i64 0) := by simp
          have f0 : (V10.alloc (.cells #[.int .i64 0, .int .i64 0, .int .i64 0] 24)).frozen? ⟨V10.heap.size, 0, none⟩ = false := by simp
          have f1 : (V10.alloc (.cells #[.int .i64 0, .int .i64 0, .int .i64 0] 24)).frozen? ⟨V10.heap.size, 1, none⟩ = false := by simp
          have f2 : (V10.alloc (.cells #[.int .i64 0, .int .i64 0, .int .i64 0] 24)).frozen? ⟨V10.heap.size, 2, none⟩ = false := by simp
          have hL10z := (hL10.below bZ).more bZ.size
          refine wpAnyH_ready (rs := [4]) (by kernel_rfl) (by simp) ?_
          refine AllReadyH.cons rfl (fun K hK => ?_) AllReadyH.nil
          go_simp
          (go_at_call 17; refine (K5.out _ _ _ _ _ ⟨by simp [HM.out], by omega, .inl rfl⟩ (Nat.le_refl _)).mono ?_; rintro e w105 ⟨rfl, b105⟩)
          refine hK.out _ _ (G10z.keep3 b105) (fun hHeld => ?_)
          clear hK K
          try simp only [Act.put, List.setIfInBounds_toArray, List.set_cons_zero, List.set_cons_succ, List.getElem_toArray, List.getElem_cons_zero, List.getElem_cons_succ]
          have e0 := (b105.cell (p := ⟨V10.heap.size, 0, none⟩) hSz).trans c0
          have e1 := (b105.cell (p := ⟨V10.heap.size, 1, none⟩) hSz).trans c1
          have e2 := (b105.cell (p := ⟨V10.heap.size, 2, none⟩) hSz).trans c2
          have h0 := (b105.frozen (p := ⟨V10.heap.size, 0, none⟩) hSz).trans f0
          have h1 := (b105.frozen (p := ⟨V10.heap.size, 1, none⟩) hSz).trans f1
          have h2 := (b105.frozen (p := ⟨V10.heap.size, 2, none⟩) hSz).trans f2
          have bX := bZ.trans (b105.mono bZ.size)
          have hE := Nat.le_refl V10.heap.size
          clear c0 c1 c2 f0 f1 f2 b105 bZ hSz hL10z G10z
          refine wpAnyH_take (i := 5) (v := ?_) rfl (by kernel_rfl) (by kernel_rfl) (by kernel_rfl) (fun _ _ _ h => h) (Or.inl ⟨by rfl, ?_⟩) (by assumption) ?_
          rotate_left
          · intro w hSw
            (try dsimp only at hSw)
            go_simp
            all_goals with_reducible rfl
          try simp only [Act.put, List.setIfInBounds_toArray, List.set_cons_zero, List.set_cons_succ, List.getElem_toArray, List.getElem_cons_zero, List.getElem_cons_succ]
          refine wpAnyH_take (i := 6) (v := ?_) rfl (by kernel_rfl) (by kernel_rfl) (by kernel_rfl) (fun _ _ _ h => h) (Or.inl ⟨by rfl, ?_⟩) (by assumption) ?_
          rotate_left
          · intro w hSw
            (try dsimp only at hSw)
            go_simp
            all_goals with_reducible rfl
          try simp only [Act.put, List.setIfInBounds_toArray, List.set_cons_zero, List.set_cons_succ, List.getElem_toArray, List.getElem_cons_zero, List.getElem_cons_succ]
          refine wpAnyH_take (i := 7) (v := ?_) rfl (by kernel_rfl) (by kernel_rfl) (by kernel_rfl) (fun _ _ _ h => h) (Or.inl ⟨by rfl, ?_⟩) (by assumption) ?_
          rotate_left
          · intro w hSw
            (try dsimp only at hSw)
            go_simp
            all_goals with_reducible rfl
          try simp only [Act.put, List.setIfInBounds_toArray, List.set_cons_zero, List.set_cons_succ, List.getElem_toArray, List.getElem_cons_zero, List.getElem_cons_succ]
          generalize hEE : V10.heap.size = E10 at e0 e1 e2 h0 h1 h2 ⊢
          have hE : V10.heap.size ≤ E10 := by omega
          clear hEE
          generalize w105 = X5 at *
          obtain ⟨v0, v1, v2, vo, vf⟩ := set3 (x := (.int .i64 X1)) (y := (.int .i64 X2)) (z := (.int .i64 X3)) e0 e1 e2
          have bF := ((bX.setCell (p := ⟨E10, 0, none⟩) hE (.int .i64 X1)).setCell (p := ⟨E10, 1, none⟩) hE (.int .i64 X2)).setCell (p := ⟨E10, 2, none⟩) hE (.int .i64 X3)
          refine wpAnyH_ready (rs := [9]) (by kernel_rfl) (by simp) ?_
          refine AllReadyH.cons rfl (fun K hK => ?_) AllReadyH.nil
          go_simp
          skip
          refine hK.out _ _ (G10.keep3 bF) (fun hHeld => ?_)
          clear hK K
          try simp only [Act.put, List.setIfInBounds_toArray, List.set_cons_zero, List.set_cons_succ, List.getElem_toArray, List.getElem_cons_zero, List.getElem_cons_succ]
          have hlt : E10 < (((X5.setCell ⟨E10, 0, none⟩ (.int .i64 X1)).setCell ⟨E10, 1, none⟩ (.int .i64 X2)).setCell ⟨E10, 2, none⟩ (.int .i64 X3)).heap.size := World.block_lt_of_cell? _ _ v0
          refine wpAnyH_take (i := 10) (v := ?_) rfl (by kernel_rfl) (by kernel_rfl) (by kernel_rfl) (fun _ _ _ h => h) (Or.inl ⟨by rfl, ?_⟩) (by assumption) ?_
          rotate_left
          · intro w hSw
            (try dsimp only at hSw)
            go_simp
            all_goals with_reducible rfl
          try simp only [Act.put, List.setIfInBounds_toArray, List.set_cons_zero, List.set_cons_succ, List.getElem_toArray, List.getElem_cons_zero, List.getElem_cons_succ]
          refine wpAnyH_done (by kernel_rfl) ?_ _
          clear hHeld e0 e1 e2 h0 h1 h2 vo vf bX
          generalize ((X5.setCell ⟨E10, 0, none⟩ (.int .i64 X1)).setCell ⟨E10, 1, none⟩ (.int .i64 X2)).setCell ⟨E10, 2, none⟩ (.int .i64 X3) = WX at *
          have hbel := (G10.b bF).G.st.bel
          have y0 := (G10.b bF).G.d.c0
          have y1 := (G10.b bF).G.d.c1
          have y2 := (G10.b bF).G.d.c2
          clear hL10 bF G10 bW10 hE hlt
          go_wp2
          go_ret
          exact ⟨ret_bool (by first | rfl | simp), hbel⟩
      · go_simp
        have bZ := (Below.refl V9.heap.size V9).alloc (Nat.le_refl _) (.cells #[.int .i64 0, .int .i64 0, .int .i64 0] 24)
        refine hK.out _ _ (G9.keep3 bZ) (fun hHeld => ?_)
        clear hK K
        try simp only [Act.put, List.setIfInBounds_toArray, List.set_cons_zero, List.set_cons_succ, List.getElem_toArray, List.getElem_cons_zero, List.getElem_cons_succ]
        have G9z := G9.al (.cells #[.int .i64 0, .int .i64 0, .int .i64 0] 24)
        have hSz : V9.heap.size < (V9.alloc (.cells #[.int .i64 0, .int .i64 0, .int .i64 0] 24)).heap.size := by simp
        have c0 : (V9.alloc (.cells #[.int .i64 0, .int .i64 0, .int .i64 0] 24)).cell? ⟨V9.heap.size, 0, none⟩ = some (.int .i64 0) := by simp
        have c1 : (V9.alloc (.cells #[.int .i64 0, .int .i64 0, .int .i64 0] 24)).cell? ⟨V9.heap.size, 1, none⟩ = some (.int .i64 0) := by simp
        have c2 : (V9.alloc (.cells #[.int .i64 0, .int .i64 0, .int .i64 0] 24)).cell? ⟨V9.heap.size, 2, none⟩ = some (.int .i64 0) := by simp
        have f0 : (V9.alloc (.cells #[.int .i64 0, .int .i64 0, .int .i64 0] 24)).frozen? ⟨V9.heap.size, 0, none⟩ = false := by simp
        have f1 : (V9.alloc (.cells #[.int .i64 0, .int .i64 0, .int .i64 0] 24)).frozen? ⟨V9.heap.size, 1, none⟩ = false := by simp
        have f2 : (V9.alloc (.cells #[.int .i64 0, .int .i64 0, .int .i64 0] 24)).frozen? ⟨V9.heap.size, 2, none⟩ = false := by simp
        have hL9z := (hL9.below bZ).more bZ.size
        refine wpAnyH_ready (rs := [4]) (by kernel_rfl) (by simp) ?_
        refine AllReadyH.cons rfl (fun K hK => ?_) AllReadyH.nil
        go_simp
        (go_at_call 17; refine (K4.out _ _ _ _ _ (Sms.take hL9z 0 (Nat.zero_le _)) (Nat.le_refl _)).mono ?_; rintro e w95 ⟨rfl, b95⟩)
        refine hK.out _ _ (G9z.keep3 b95) (fun hHeld => ?_)
        clear hK K
        try simp only [Act.put, List.setIfInBounds_toArray, List.set_cons_zero, List.set_cons_succ, List.getElem_toArray, List.getElem_cons_zero, List.getElem_cons_succ]
        have e0 := (b95.cell (p := ⟨V9.heap.size, 0, none⟩) hSz).trans c0
        have e1 := (b95.cell (p := ⟨V9.heap.size, 1, none⟩) hSz).trans c1
        have e2 := (b95.cell (p := ⟨V9.heap.size, 2, none⟩) hSz).trans c2
        have h0 := (b95.frozen (p := ⟨V9.heap.size, 0, none⟩) hSz).trans f0
        have h1 := (b95.frozen (p := ⟨V9.heap.size, 1, none⟩) hSz).trans f1
        have h2 := (b95.frozen (p := ⟨V9.heap.size, 2, none⟩) hSz).trans f2
        have bX := bZ.trans (b95.mono bZ.size)
        have hE := Nat.le_refl V9.heap.size
        clear c0 c1 c2 f0 f1 f2 b95 bZ hSz hL9z G9z
        refine wpAnyH_take (i := 5) (v := ?_) rfl (by kernel_rfl) (by kernel_rfl) (by kernel_rfl) (fun _ _ _ h => h) (Or.inl ⟨by rfl, ?_⟩) (by assumption) ?_
        rotate_left
        · intro w hSw
          (try dsimp only at hSw)
          go_simp
          all_goals with_reducible rfl
        try simp only [Act.put, List.setIfInBounds_toArray, List.set_cons_zero, List.set_cons_succ, List.getElem_toArray, List.getElem_cons_zero, List.getElem_cons_succ]
        refine wpAnyH_take (i := 6) (v := ?_) rfl (by kernel_rfl) (by kernel_rfl) (by kernel_rfl) (fun _ _ _ h => h) (Or.inl ⟨by rfl, ?_⟩) (by assumption) ?_
        rotate_left
        · intro w hSw
          (try dsimp only at hSw)
          go_simp
          all_goals with_reducible rfl
        try simp only [Act.put, List.setIfInBounds_toArray, List.set_cons_zero, List.set_cons_succ, List.getElem_toArray, List.getElem_cons_zero, List.getElem_cons_succ]
        refine wpAnyH_take (i := 7) (v := ?_) rfl (by kernel_rfl) (by kernel_rfl) (by kernel_rfl) (fun _ _ _ h => h) (Or.inl ⟨by rfl, ?_⟩) (by assumption) ?_
        rotate_left
        · intro w hSw
          (try dsimp only at hSw)
          go_simp
          all_goals with_reducible rfl
        try simp only [Act.put, List.setIfInBounds_toArray, List.set_cons_zero, List.set_cons_succ, List.getElem_toArray, List.getElem_cons_zero, List.getElem_cons_succ]
        generalize hEE : V9.heap.size = E9 at e0 e1 e2 h0 h1 h2 ⊢
        have hE : V9.heap.size ≤ E9 := by omega
        clear hEE
        generalize w95 = X5 at *
        obtain ⟨v0, v1, v2, vo, vf⟩ := set3 (x := (.int .i64 Y1)) (y := (.int .i64 Y2)) (z := (.int .i64 Y3)) e0 e1 e2
        have bF := ((bX.setCell (p := ⟨E9, 0, none⟩) hE (.int .i64 Y1)).setCell (p := ⟨E9, 1, none⟩) hE (.int .i64 Y2)).setCell (p := ⟨E9, 2, none⟩) hE (.int .i64 Y3)
        refine wpAnyH_ready (rs := [9]) (by kernel_rfl) (by simp) ?_
        refine AllReadyH.cons rfl (fun K hK => ?_) AllReadyH.nil
        go_simp
        skip
        refine hK.out _ _ (G9.keep3 bF) (fun hHeld => ?_)
        clear hK K
        try simp only [Act.put, List.setIfInBounds_toArray, List.set_cons_zero, List.set_cons_succ, List.getElem_toArray, List.getElem_cons_zero, List.getElem_cons_succ]
        have hlt : E9 < (((X5.setCell ⟨E9, 0, none⟩ (.int .i64 Y1)).setCell ⟨E9, 1, none⟩ (.int .i64 Y2)).setCell ⟨E9, 2, none⟩ (.int .i64 Y3)).heap.size := World.block_lt_of_cell? _ _ v0
        refine wpAnyH_take (i := 10) (v := ?_) rfl (by kernel_rfl) (by kernel_rfl) (by kernel_rfl) (fun _ _ _ h => h) (Or.inl ⟨by rfl, ?_⟩) (by assumption) ?_
        rotate_left
        · intro w hSw
          (try dsimp only at hSw)
          go_simp
          all_goals with_reducible rfl
        try simp only [Act.put, List.setIfInBounds_toArray, List.set_cons_zero, List.set_cons_succ, List.getElem_toArray, List.getElem_cons_zero, List.getElem_cons_succ]
        refine wpAnyH_done (by kernel_rfl) ?_ _
        clear hHeld e0 e1 e2 h0 h1 h2 vo vf bX
        generalize ((X5.setCell ⟨E9, 0, none⟩ (.int .i64 Y1)).setCell ⟨E9, 1, none⟩ (.int .i64 Y2)).setCell ⟨E9, 2, none⟩ (.int .i64 Y3) = W9 at *
        have G10 : Gt w W9 D1 o p c D2 X1 X2 X3 E9 Y1 Y2 Y3 := ⟨G9.b bF, ⟨v0, v1, v2, hlt⟩⟩
        have hL10 := (hL9.below bF).more bF.size
        have bW10 := (G9.b bF).st.bel
        clear G9 hL9 bW9 bF v0 v1 v2 hE hlt
        go_wp2_with fail
        refine wp_region_held_drew (S := (fun w' => w'.cell? ⟨E9, 0, none⟩ = some (.int .i64 Y1) ∧ w'.cell? ⟨E9, 1, none⟩ = some (.int .i64 Y2) ∧ w'.cell? ⟨E9, 2, none⟩ = some (.int .i64 Y3))) (by kernel_rfl) (G10.keep0) (fun hHeld => ?_)
        have G10 := G10.drew
        replace hL10 : Sms W9.drew.heap.size W9.drew _ _ _ := hL10
        replace bW10 := bW10.drew
        generalize W9.drew = V10 at *
        refine wpAnyH_take (i := 0) (v := ?_) rfl (by kernel_rfl) (by kernel_rfl) (by kernel_rfl) (fun _ _ _ h => h) (Or.inl ⟨by rfl, ?_⟩) (by assumption) ?_
        rotate_left
        · intro w hSw
          (try dsimp only at hSw)
          go_simp
          all_goals with_reducible rfl
        try simp only [Act.put, List.setIfInBounds_toArray, List.set_cons_zero, List.set_cons_succ, List.getElem_toArray, List.getElem_cons_zero]
        refine wpAnyH_take (i := 1) (v := ?_) rfl (by kernel_rfl) (by kernel_rfl) (by kernel_rfl) (fun _ _ _ h => h) (Or.inl ⟨by rfl, ?_⟩) (by assumption) ?_
        rotate_left
        · intro w hSw
          (try dsimp only at hSw)
          go_simp
          all_goals with_reducible rfl
        try simp only [Act.put, List.setIfInBounds_toArray, List.set_cons_zero, List.set_cons_succ, List.getElem_toArray, List.getElem_cons_zero, List.getElem_cons_succ]
        refine wpAnyH_take (i := 2) (v := ?_) rfl (by kernel_rfl) (by kernel_rfl) (by kernel_rfl) (fun _ _ _ h => h) (Or.inl ⟨by rfl, ?_⟩) (by assumption) ?_
        rotate_left
        · intro w hSw
          (try dsimp only at hSw)
          go_simp
          all_goals with_reducible rfl
        try simp only [Act.put, List.setIfInBounds_toArray, List.set_cons_zero, List.set_cons_succ, List.getElem_toArray, List.getElem_cons_zero, List.getElem_cons_succ]
        refine wpAnyH_take (i := 3) (v := ?_) rfl (by kernel_rfl) (by kernel_rfl) (by kernel_rfl) (fun _ _ _ h => h) (Or.inl ⟨by rfl, ?_⟩) (by assumption) ?_
        rotate_left
        · intro w hSw
          (try dsimp only at hSw)
          go_simp
          all_goals with_reducible rfl
        try simp only [Act.put, List.setIfInBounds_toArray, List.set_cons_zero, List.set_cons_succ, List.getElem_toArray, List.getElem_cons_zero, List.getElem_cons_succ]
        refine wpAnyH_ready (rs := [4, 8]) (by kernel_rfl) (by simp) ?_
        refine AllReadyH.cons rfl (fun K hK => ?_) (AllReadyH.cons rfl (fun K hK => ?_) AllReadyH.nil)
        · go_simp
          (go_at_call 17; refine (K5.out _ _ _ _ _ ⟨by simp [HM.out], by omega, .inl rfl⟩ (Nat.le_refl _)).mono ?_; rintro e w105 ⟨rfl, b105⟩)
          refine hK.out _ _ (G10.keep3 b105) (fun hHeld => ?_)
          clear hK K
          try simp only [Act.put, List.setIfInBounds_toArray, List.set_cons_zero, List.set_cons_succ, List.getElem_toArray, List.getElem_cons_zero, List.getElem_cons_succ]
          refine wpAnyH_take (i := 5) (v := ?_) rfl (by kernel_rfl) (by kernel_rfl) (by kernel_rfl) (fun _ _ _ h => h) (Or.inl ⟨by rfl, ?_⟩) (by assumption) ?_
          rotate_left
          · intro w hSw
            (try dsimp only at hSw)
            go_simp
            all_goals with_reducible rfl
          try simp only [Act.put, List.setIfInBounds_toArray, List.set_cons_zero, List.set_cons_succ, List.getElem_toArray, List.getElem_cons_zero, List.getElem_cons_succ]
          refine wpAnyH_take (i := 6) (v := ?_) rfl (by kernel_rfl) (by kernel_rfl) (by kernel_rfl) (fun _ _ _ h => h) (Or.inl ⟨by rfl, ?_⟩) (by assumption) ?_
          rotate_left
          · intro w hSw
            (try dsimp only at hSw)
            go_simp
            all_goals with_reducible rfl
          try simp only [Act.put, List.setIfInBounds_toArray, List.set_cons_zero, List.set_cons_succ, List.getElem_toArray, List.getElem_cons_zero, List.getElem_cons_succ]
          refine wpAnyH_take (i := 7) (v := ?_) rfl (by kernel_rfl) (by kernel_rfl) (by kernel_rfl) (fun _ _ _ h => h) (Or.inl ⟨by rfl, ?_⟩) (by assumption) ?_
          rotate_left
          · intro w hSw
            (try dsimp only at hSw)
            go_simp
            all_goals with_reducible rfl
          try simp only [Act.put, List.setIfInBounds_toArray, List.set_cons_zero, List.set_cons_succ, List.getElem_toArray, List.getElem_cons_zero, List.getElem_cons_succ]
          have e0 : (w105.alloc (.cells #[.int .i64 0, .int .i64 0, .int .i64 0] 24)).cell? ⟨w105.heap.size, 0, none⟩ = some (.int .i64 0) := by simp
          have e1 : (w105.alloc (.cells #[.int .i64 0, .int .i64 0, .int .i64 0] 24)).cell? ⟨w105.heap.size, 1, none⟩ = some (.int .i64 0) := by simp
          have e2 : (w105.alloc (.cells #[.int .i64 0, .int .i64 0, .int .i64 0] 24)).cell? ⟨w105.heap.size, 2, none⟩ = some (.int .i64 0) := by simp
          have h0 : (w105.alloc (.cells #[.int .i64 0, .int .i64 0, .int .i64 0] 24)).frozen? ⟨w105.heap.size, 0, none⟩ = false := by simp
          have h1 : (w105.alloc (.cells #[.int .i64 0, .int .i64 0, .int .i64 0] 24)).frozen? ⟨w105.heap.size, 1, none⟩ = false := by simp
          have h2 : (w105.alloc (.cells #[.int .i64 0, .int .i64 0, .int .i64 0] 24)).frozen? ⟨w105.heap.size, 2, none⟩ = false := by simp
          have bX := b105.alloc b105.size (.cells #[.int .i64 0, .int .i64 0, .int .i64 0] 24)
          have hE := b105.size
          refine wpAnyH_ready (rs := [8]) (by kernel_rfl) (by simp) ?_
          refine AllReadyH.cons rfl (fun K hK => ?_) AllReadyH.nil
          go_simp
          skip
          refine hK.out _ _ (G10.keep3 bX) (fun hHeld => ?_)
          clear hK K
          try simp only [Act.put, List.setIfInBounds_toArray, List.set_cons_zero, List.set_cons_succ, List.getElem_toArray, List.getElem_cons_zero, List.getElem_cons_succ]
          clear b105
          generalize w105.alloc (.cells #[.int .i64 0, .int .i64 0, .int .i64 0] 24) = X5 at *
          generalize w105.heap.size = E10 at *
          obtain ⟨v0, v1, v2, vo, vf⟩ := set3 (x := (.int .i64 X1)) (y := (.int .i64 X2)) (z := (.int .i64 X3)) e0 e1 e2
          have bF := ((bX.setCell (p := ⟨E10, 0, none⟩) hE (.int .i64 X1)).setCell (p := ⟨E10, 1, none⟩) hE (.int .i64 X2)).setCell (p := ⟨E10, 2, none⟩) hE (.int .i64 X3)
          refine wpAnyH_ready (rs := [9]) (by kernel_rfl) (by simp) ?_
          refine AllReadyH.cons rfl (fun K hK => ?_) AllReadyH.nil
          go_simp
          skip
          refine hK.out _ _ (G10.keep3 bF) (fun hHeld => ?_)
          clear hK K
          try simp only [Act.put, List.setIfInBounds_toArray, List.set_cons_zero, List.set_cons_succ, List.getElem_toArray, List.getElem_cons_zero, List.getElem_cons_succ]
          have hlt : E10 < (((X5.setCell ⟨E10, 0, none⟩ (.int .i64 X1)).setCell ⟨E10, 1, none⟩ (.int .i64 X2)).setCell ⟨E10, 2, none⟩ (.int .i64 X3)).heap.size := World.block_lt_of_cell? _ _ v0
          refine wpAnyH_take (i := 10) (v := ?_) rfl (by kernel_rfl) (by kernel_rfl) (by kernel_rfl) (fun _ _ _ h => h) (Or.inl ⟨by rfl, ?_⟩) (by assumption) ?_
          rotate_left
          · intro w hSw
            (try dsimp only at hSw)
            go_simp
            all_goals with_reducible rfl
          try simp only [Act.put, List.setIfInBounds_toArray, List.set_cons_zero, List.set_cons_succ, List.getElem_toArray, List.getElem_cons_zero, List.getElem_cons_succ]
          refine wpAnyH_done (by kernel_rfl) ?_ _
          clear hHeld e0 e1 e2 h0 h1 h2 vo vf bX
          generalize ((X5.setCell ⟨E10, 0, none⟩ (.int .i64 X1)).setCell ⟨E10, 1, none⟩ (.int .i64 X2)).setCell ⟨E10, 2, none⟩ (.int .i64 X3) = WX at *
          have hbel := (G10.b bF).G.st.bel
          have y0 := (G10.b bF).G.d.c0
          have y1 := (G10.b bF).G.d.c1
          have y2 := (G10.b bF).G.d.c2
          clear hL10 bF G10 bW10 hE hlt
          go_wp2
          go_ret
          exact ⟨ret_bool (by first | rfl | simp), hbel⟩
        · go_simp
          have bZ := (Below.refl V10.heap.size V10).alloc (Nat.le_refl _) (.cells #[.int .i64 0, .int .i64 0, .int .i64 0] 24)
          refine hK.out _ _ (G10.keep3 bZ) (fun hHeld => ?_)
          clear hK K
          try simp only [Act.put, List.setIfInBounds_toArray, List.set_cons_zero, List.set_cons_succ, List.getElem_toArray, List.getElem_cons_zero, List.getElem_cons_succ]
          have G10z := G10.al (.cells #[.int .i64 0, .int .i64 0, .int .i64 0] 24)
          have hSz : V10.heap.size < (V10.alloc (.cells #[.int .i64 0, .int .i64 0, .int .i64 0] 24)).heap.size := by simp
          have c0 : (V10.alloc (.cells #[.int .i64 0, .int .i64 0, .int .i64 0] 24)).cell? ⟨V10.heap.size, 0, none⟩ = some (.int .i64 0) := by simp
          have c1 : (V10.alloc (.cells #[.int .i64 0, .int .i64 0, .int .i64 0] 24)).cell? ⟨V10.heap.size, 1, none⟩ = some (.int .i64 0) := by simp
          have c2 : (V10.alloc (.cells #[.int .i64 0, .int .i64 0, .int .i64 0] 24)).cell? ⟨V10.heap.size, 2, none⟩ = some (.int .i64 0) := by simp
          have f0 : (V10.alloc (.cells #[.int .i64 0, .int .i64 0, .int .i64 0] 24)).frozen? ⟨V10.heap.size, 0, none⟩ = false := by simp
          have f1 : (V10.alloc (.cells #[.int .i64 0, .int .i64 0, .int .i64 0] 24)).frozen? ⟨V10.heap.size, 1, none⟩ = false := by simp
          have f2 : (V10.alloc (.cells #[.int .i64 0, .int .i64 0, .int .i64 0] 24)).frozen? ⟨V10.heap.size, 2, none⟩ = false := by simp
          have hL10z := (hL10.below bZ).more bZ.size
          refine wpAnyH_ready (rs := [4]) (by kernel_rfl) (by simp) ?_
          refine AllReadyH.cons rfl (fun K hK => ?_) AllReadyH.nil
          go_simp
          (go_at_call 17; refine (K5.out _ _ _ _ _ ⟨by simp [HM.out], by omega, .inl rfl⟩ (Nat.le_refl _)).mono ?_; rintro e w105 ⟨rfl, b105⟩)
          refine hK.out _ _ (G10z.keep3 b105) (fun hHeld => ?_)
          clear hK K
          try simp only [Act.put, List.setIfInBounds_toArray, List.set_cons_zero, List.set_cons_succ, List.getElem_toArray, List.getElem_cons_zero, List.getElem_cons_succ]
          have e0 := (b105.cell (p := ⟨V10.heap.size, 0, none⟩) hSz).trans c0
          have e1 := (b105.cell (p := ⟨V10.heap.size, 1, none⟩) hSz).trans c1
          have e2 := (b105.cell (p := ⟨V10.heap.size, 2, none⟩) hSz).trans c2
          have h0 := (b105.frozen (p := ⟨V10.heap.size, 0, none⟩) hSz).trans f0
          have h1 := (b105.frozen (p := ⟨V10.heap.size, 1, none⟩) hSz).trans f1
          have h2 := (b105.frozen (p := ⟨V10.heap.size, 2, none⟩) hSz).trans f2
          have bX := bZ.trans (b105.mono bZ.size)
          have hE := Nat.le_refl V10.heap.size
          clear c0 c1 c2 f0 f1 f2 b105 bZ hSz hL10z G10z
          refine wpAnyH_take (i := 5) (v := ?_) rfl (by kernel_rfl) (by kernel_rfl) (by kernel_rfl) (fun _ _ _ h => h) (Or.inl ⟨by rfl, ?_⟩) (by assumption) ?_
          rotate_left
          · intro w hSw
            (try dsimp only at hSw)
            go_simp
            all_goals with_reducible rfl
          try simp only [Act.put, List.setIfInBounds_toArray, List.set_cons_zero, List.set_cons_succ, List.getElem_toArray, List.getElem_cons_zero, List.getElem_cons_succ]
          refine wpAnyH_take (i := 6) (v := ?_) rfl (by kernel_rfl) (by kernel_rfl) (by kernel_rfl) (fun _ _ _ h => h) (Or.inl ⟨by rfl, ?_⟩) (by assumption) ?_
          rotate_left
          · intro w hSw
            (try dsimp only at hSw)
            go_simp
            all_goals with_reducible rfl
          try simp only [Act.put, List.setIfInBounds_toArray, List.set_cons_zero, List.set_cons_succ, List.getElem_toArray, List.getElem_cons_zero, List.getElem_cons_succ]
          refine wpAnyH_take (i := 7) (v := ?_) rfl (by kernel_rfl) (by kernel_rfl) (by kernel_rfl) (fun _ _ _ h => h) (Or.inl ⟨by rfl, ?_⟩) (by assumption) ?_
          rotate_left
          · intro w hSw
            (try dsimp only at hSw)
            go_simp
            all_goals with_reducible rfl
          try simp only [Act.put, List.setIfInBounds_toArray, List.set_cons_zero, List.set_cons_succ, List.getElem_toArray, List.getElem_cons_zero, List.getElem_cons_succ]
          generalize hEE : V10.heap.size = E10 at e0 e1 e2 h0 h1 h2 ⊢
          have hE : V10.heap.size ≤ E10 := by omega
          clear hEE
          generalize w105 = X5 at *
          obtain ⟨v0, v1, v2, vo, vf⟩ := set3 (x := (.int .i64 X1)) (y := (.int .i64 X2)) (z := (.int .i64 X3)) e0 e1 e2
          have bF := ((bX.setCell (p := ⟨E10, 0, none⟩) hE (.int .i64 X1)).setCell (p := ⟨E10, 1, none⟩) hE (.int .i64 X2)).setCell (p := ⟨E10, 2, none⟩) hE (.int .i64 X3)
          refine wpAnyH_ready (rs := [9]) (by kernel_rfl) (by simp) ?_
          refine AllReadyH.cons rfl (fun K hK => ?_) AllReadyH.nil
          go_simp
          skip
          refine hK.out _ _ (G10.keep3 bF) (fun hHeld => ?_)
          clear hK K
          try simp only [Act.put, List.setIfInBounds_toArray, List.set_cons_zero, List.set_cons_succ, List.getElem_toArray, List.getElem_cons_zero, List.getElem_cons_succ]
          have hlt : E10 < (((X5.setCell ⟨E10, 0, none⟩ (.int .i64 X1)).setCell ⟨E10, 1, none⟩ (.int .i64 X2)).setCell ⟨E10, 2, none⟩ (.int .i64 X3)).heap.size := World.block_lt_of_cell? _ _ v0
          refine wpAnyH_take (i := 10) (v := ?_) rfl (by kernel_rfl) (by kernel_rfl) (by kernel_rfl) (fun _ _ _ h => h) (Or.inl ⟨by rfl, ?_⟩) (by assumption) ?_
          rotate_left
          · intro w hSw
            (try dsimp only at hSw)
            go_simp
            all_goals with_reducible rfl
          try simp only [Act.put, List.setIfInBounds_toArray, List.set_cons_zero, List.set_cons_succ, List.getElem_toArray, List.getElem_cons_zero, List.getElem_cons_succ]
          refine wpAnyH_done (by kernel_rfl) ?_ _
          clear hHeld e0 e1 e2 h0 h1 h2 vo vf bX
          generalize ((X5.setCell ⟨E10, 0, none⟩ (.int .i64 X1)).setCell ⟨E10, 1, none⟩ (.int .i64 X2)).setCell ⟨E10, 2, none⟩ (.int .i64 X3) = WX at *
          have hbel := (G10.b bF).G.st.bel
          have y0 := (G10.b bF).G.d.c0
          have y1 := (G10.b bF).G.d.c1
          have y2 := (G10.b bF).G.d.c2
          clear hL10 bF G10 bW10 hE hlt
          go_wp2
          go_ret
          exact ⟨ret_bool (by first | rfl | simp), hbel⟩
    · obtain ⟨b, off, rfl, hb, -⟩ := hA1.at_ 0 hln
      have K4 := Lib.hid k4
      have K5 := Lib.hid k5
      have HM := Lib.hid (And.intro hm hln)
      have hmi : (l.length : Int) / 2 = (m : Int) := by omega
      have hmc : (m : Int) ≤ (cp : Int) := by omega
      have hmn : (m : Int) ≤ (l.length : Int) := by omega
      have hne : ¬ cp = m := by omega
      clear k4 k5 hm hnl hb hl
      go_wp2_with fail
      refine (HI.out _ _ _ _ _ hA1 (Nat.le_refl _)).mono ?_
      rintro e w2 ⟨rfl, b2⟩
      have bb2 := b2.alloc b2.size (.cells #[.int .i64 X1, .int .i64 X2, .int .i64 X3] 24)
      have st2 := st1.b bb2
      have hA2 := (hA1.below bb2).more bb2.size
      have d2 := C3.new w2 X1 X2 X3 24
      have r20 := st2.here.c0
      have r21 := st2.here.c1
      have r22 := st2.here.c2
      clear st1 hA1 b2 bb2 r10 r11 r12
      go_wp2_with fail
      refine (HS.out _ _ _ _ _ hA2 (Nat.le_refl _)).mono ?_
      rintro e w3 ⟨rfl, b3⟩
      have bb3 := b3.alloc b3.size (.cells #[.int .i64 X1, .int .i64 X2, .int .i64 X3] 24)
      have st3 := st2.b bb3
      have hA3 := (hA2.below bb3).more bb3.size
      have d3 := d2.b bb3
      have e3 := C3.new w3 X1 X2 X3 24
      have r30 := st3.here.c0
      have r31 := st3.here.c1
      have r32 := st3.here.c2
      have d30 := d3.c0
      have d31 := d3.c1
      have d32 := d3.c2
      have e30 := e3.c0
      have e31 := e3.c1
      have e32 := e3.c2
      have ld := d2.lt
      have ld3 := b3.size
      clear st2 hA2 b3 bb3 d2 e3 r20 r21 r22
      go_wp2_with fail
      have G9 : Gs w (w3.alloc (Obj.cells #[.int .i64 X1, .int .i64 X2, .int .i64 X3] 24)) w1.heap.size o p c w2.heap.size X1 X2 X3 := ⟨st3, d3⟩
      have hL9 := hA3
      have bW9 := st3.bel
      clear st3 d3 r30 r31 r32 d30 d31 d32 e30 e31 e32 ld ld3 hA3
      generalize w3.alloc (Obj.cells #[.int .i64 X1, .int .i64 X2, .int .i64 X3] 24) = W3 at *
      generalize w1.heap.size = D1 at *
      generalize w2.heap.size = D2 at *
      generalize w3.heap.size = D3 at *
      refine wp_region_held_drew (S := (fun w' => w'.cell? ⟨D1, 0, none⟩ = some (.int .i64 o) ∧ w'.cell? ⟨D1, 1, none⟩ = some (.int .i64 p) ∧ w'.cell? ⟨D1, 2, none⟩ = some (.int .i64 c))) (by kernel_rfl) (G9.keep0) (fun hHeld => ?_)
      have G9 := G9.drew
      replace hL9 : Sms W3.drew.heap.size W3.drew _ _ _ := hL9
      replace bW9 := bW9.drew
      generalize W3.drew = V9 at *
      refine wpAnyH_take (i := 0) (v := ?_) rfl (by kernel_rfl) (by kernel_rfl) (by kernel_rfl) (fun _ _ _ h => h) (Or.inl ⟨by rfl, ?_⟩) (by assumption) ?_
      rotate_left
      · intro w hSw
        (try dsimp only at hSw)
        go_simp
        all_goals with_reducible rfl
      try simp only [Act.put, List.setIfInBounds_toArray, List.set_cons_zero, List.set_cons_succ, List.getElem_toArray, List.getElem_cons_zero]
      refine wpAnyH_take (i := 1) (v := ?_) rfl (by kernel_rfl) (by kernel_rfl) (by kernel_rfl) (fun _ _ _ h => h) (Or.inl ⟨by rfl, ?_⟩) (by assumption) ?_
      rotate_left
      · intro w hSw
        (try dsimp only at hSw)
        go_simp
        all_goals with_reducible rfl
      try simp only [Act.put, List.setIfInBounds_toArray, List.set_cons_zero, List.set_cons_succ, List.getElem_toArray, List.getElem_cons_zero, List.getElem_cons_succ]
      refine wpAnyH_take (i := 2) (v := ?_) rfl (by kernel_rfl) (by kernel_rfl) (by kernel_rfl) (fun _ _ _ h => h) (Or.inl ⟨by rfl, ?_⟩) (by assumption) ?_
      rotate_left
      · intro w hSw
        (try dsimp only at hSw)
        go_simp
        all_goals with_reducible rfl
      try simp only [Act.put, List.setIfInBounds_toArray, List.set_cons_zero, List.set_cons_succ, List.getElem_toArray, List.getElem_cons_zero, List.getElem_cons_succ]
      refine wpAnyH_take (i := 3) (v := ?_) rfl (by kernel_rfl) (by kernel_rfl) (by kernel_rfl) (fun _ _ _ h => h) (Or.inl ⟨by rfl, ?_⟩) (by assumption) ?_
      rotate_left
      · intro w hSw
        (try dsimp only at hSw)
        go_simp
        all_goals with_reducible rfl
      try simp only [Act.put, List.setIfInBounds_toArray, List.set_cons_zero, List.set_cons_succ, List.getElem_toArray, List.getElem_cons_zero, List.getElem_cons_succ]
      refine wpAnyH_ready (rs := [4, 8]) (by kernel_rfl) (by simp) ?_
      refine AllReadyH.cons rfl (fun K hK => ?_) (AllReadyH.cons rfl (fun K hK => ?_) AllReadyH.nil)
      · go_simp
        (go_at_call 17; refine (K4.out _ _ _ _ _ (Sms.take hL9 m hml) (Nat.le_refl _)).mono ?_; rintro e w95 ⟨rfl, b95⟩)
        refine hK.out _ _ (G9.keep3 b95) (fun hHeld => ?_)
        clear hK K
        try simp only [Act.put, List.setIfInBounds_toArray, List.set_cons_zero, List.set_cons_succ, List.getElem_toArray, List.getElem_cons_zero, List.getElem_cons_succ]
        refine wpAnyH_take (i := 5) (v := ?_) rfl (by kernel_rfl) (by kernel_rfl) (by kernel_rfl) (fun _ _ _ h => h) (Or.inl ⟨by rfl, ?_⟩) (by assumption) ?_
        rotate_left
        · intro w hSw
          (try dsimp only at hSw)
          go_simp
          all_goals with_reducible rfl
        try simp only [Act.put, List.setIfInBounds_toArray, List.set_cons_zero, List.set_cons_succ, List.getElem_toArray, List.getElem_cons_zero, List.getElem_cons_succ]
        refine wpAnyH_take (i := 6) (v := ?_) rfl (by kernel_rfl) (by kernel_rfl) (by kernel_rfl) (fun _ _ _ h => h) (Or.inl ⟨by rfl, ?_⟩) (by assumption) ?_
        rotate_left
        · intro w hSw
          (try dsimp only at hSw)
          go_simp
          all_goals with_reducible rfl
        try simp only [Act.put, List.setIfInBounds_toArray, List.set_cons_zero, List.set_cons_succ, List.getElem_toArray, List.getElem_cons_zero, List.getElem_cons_succ]
        refine wpAnyH_take (i := 7) (v := ?_) rfl (by kernel_rfl) (by kernel_rfl) (by kernel_rfl) (fun _ _ _ h => h) (Or.inl ⟨by rfl, ?_⟩) (by assumption) ?_
        rotate_left
        · intro w hSw
          (try dsimp only at hSw)
          go_simp
          all_goals with_reducible rfl
        try simp only [Act.put, List.setIfInBounds_toArray, List.set_cons_zero, List.set_cons_succ, List.getElem_toArray, List.getElem_cons_zero, List.getElem_cons_succ]
        have e0 : (w95.alloc (.cells #[.int .i64 0, .int .i64 0, .int .i64 0] 24)).cell? ⟨w95.heap.size, 0, none⟩ = some (.int .i64 0) := by simp
        have e1 : (w95.alloc (.cells #[.int .i64 0, .int .i64 0, .int .i64 0] 24)).cell? ⟨w95.heap.size, 1, none⟩ = some (.int .i64 0) := by simp
        have e2 : (w95.alloc (.cells #[.int .i64 0, .int .i64 0, .int .i64 0] 24)).cell? ⟨w95.heap.size, 2, none⟩ = some (.int .i64 0) := by simp
        have h0 : (w95.alloc (.cells #[.int .i64 0, .int .i64 0, .int .i64 0] 24)).frozen? ⟨w95.heap.size, 0, none⟩ = false := by simp
        have h1 : (w95.alloc (.cells #[.int .i64 0, .int .i64 0, .int .i64 0] 24)).frozen? ⟨w95.heap.size, 1, none⟩ = false := by simp
        have h2 : (w95.alloc (.cells #[.int .i64 0, .int .i64 0, .int .i64 0] 24)).frozen? ⟨w95.heap.size, 2, none⟩ = false := by simp
        have bX := b95.alloc b95.size (.cells #[.int .i64 0, .int .i64 0, .int .i64 0] 24)
        have hE := b95.size
        refine wpAnyH_ready (rs := [8]) (by kernel_rfl) (by simp) ?_
        refine AllReadyH.cons rfl (fun K hK => ?_) AllReadyH.nil
        go_simp
        skip
        refine hK.out _ _ (G9.keep3 bX) (fun hHeld => ?_)
        clear hK K
        try simp only [Act.put, List.setIfInBounds_toArray, List.set_cons_zero, List.set_cons_succ, List.getElem_toArray, List.getElem_cons_zero, List.getElem_cons_succ]
        clear b95
        generalize w95.alloc (.cells #[.int .i64 0, .int .i64 0, .int .i64 0] 24) = X5 at *
        generalize w95.heap.size = E9 at *
        obtain ⟨v0, v1, v2, vo, vf⟩ := set3 (x := (.int .i64 Y1)) (y := (.int .i64 Y2)) (z := (.int .i64 Y3)) e0 e1 e2
        have bF := ((bX.setCell (p := ⟨E9, 0, none⟩) hE (.int .i64 Y1)).setCell (p := ⟨E9, 1, none⟩) hE (.int .i64 Y2)).setCell (p := ⟨E9, 2, none⟩) hE (.int .i64 Y3)
        refine wpAnyH_ready (rs := [9]) (by kernel_rfl) (by simp) ?_
        refine AllReadyH.cons rfl (fun K hK => ?_) AllReadyH.nil
        go_simp
        skip
        refine hK.out _ _ (G9.keep3 bF) (fun hHeld => ?_)
        clear hK K
        try simp only [Act.put, List.setIfInBounds_toArray, List.set_cons_zero, List.set_cons_succ, List.getElem_toArray, List.getElem_cons_zero, List.getElem_cons_succ]
        have hlt : E9 < (((X5.setCell ⟨E9, 0, none⟩ (.int .i64 Y1)).setCell ⟨E9, 1, none⟩ (.int .i64 Y2)).setCell ⟨E9, 2, none⟩ (.int .i64 Y3)).heap.size := World.block_lt_of_cell? _ _ v0
        refine wpAnyH_take (i := 10) (v := ?_) rfl (by kernel_rfl) (by kernel_rfl) (by kernel_rfl) (fun _ _ _ h => h) (Or.inl ⟨by rfl, ?_⟩) (by assumption) ?_
        rotate_left
        · intro w hSw
          (try dsimp only at hSw)
          go_simp
          all_goals with_reducible rfl
        try simp only [Act.put, List.setIfInBounds_toArray, List.set_cons_zero, List.set_cons_succ, List.getElem_toArray, List.getElem_cons_zero, List.getElem_cons_succ]
        refine wpAnyH_done (by kernel_rfl) ?_ _
        clear hHeld e0 e1 e2 h0 h1 h2 vo vf bX
        generalize ((X5.setCell ⟨E9, 0, none⟩ (.int .i64 Y1)).setCell ⟨E9, 1, none⟩ (.int .i64 Y2)).setCell ⟨E9, 2, none⟩ (.int .i64 Y3) = W9 at *
        have G10 : Gt w W9 D1 o p c D2 X1 X2 X3 E9 Y1 Y2 Y3 := ⟨G9.b bF, ⟨v0, v1, v2, hlt⟩⟩
        have hL10 := (hL9.below bF).more bF.size
        have bW10 := (G9.b bF).st.bel
        clear G9 hL9 bW9 bF v0 v1 v2 hE hlt
        go_wp2_with fail
        refine wp_region_held_drew (S := (fun w' => w'.cell? ⟨E9, 0, none⟩ = some (.int .i64 Y1) ∧ w'.cell? ⟨E9, 1, none⟩ = some (.int .i64 Y2) ∧ w'.cell? ⟨E9, 2, none⟩ = some (.int .i64 Y3))) (by kernel_rfl) (G10.keep0) (fun hHeld => ?_)
        have G10 := G10.drew
        replace hL10 : Sms W9.drew.heap.size W9.drew _ _ _ := hL10
        replace bW10 := bW10.drew
        generalize W9.drew = V10 at *
        refine wpAnyH_take (i := 0) (v := ?_) rfl (by kernel_rfl) (by kernel_rfl) (by kernel_rfl) (fun _ _ _ h => h) (Or.inl ⟨by rfl, ?_⟩) (by assumption) ?_
        rotate_left
        · intro w hSw
          (try dsimp only at hSw)
          go_simp
          all_goals with_reducible rfl
        try simp only [Act.put, List.setIfInBounds_toArray, List.set_cons_zero, List.set_cons_succ, List.getElem_toArray, List.getElem_cons_zero]
        refine wpAnyH_take (i := 1) (v := ?_) rfl (by kernel_rfl) (by kernel_rfl) (by kernel_rfl) (fun _ _ _ h => h) (Or.inl ⟨by rfl, ?_⟩) (by assumption) ?_
        rotate_left
        · intro w hSw
          (try dsimp only at hSw)
          go_simp
          all_goals with_reducible rfl
        try simp only [Act.put, List.setIfInBounds_toArray, List.set_cons_zero, List.set_cons_succ, List.getElem_toArray, List.getElem_cons_zero, List.getElem_cons_succ]
        refine wpAnyH_take (i := 2) (v := ?_) rfl (by kernel_rfl) (by kernel_rfl) (by kernel_rfl) (fun _ _ _ h => h) (Or.inl ⟨by rfl, ?_⟩) (by assumption) ?_
        rotate_left
        · intro w hSw
          (try dsimp only at hSw)
          go_simp
          all_goals with_reducible rfl
        try simp only [Act.put, List.setIfInBounds_toArray, List.set_cons_zero, List.set_cons_succ, List.getElem_toArray, List.getElem_cons_zero, List.getElem_cons_succ]
        refine wpAnyH_take (i := 3) (v := ?_) rfl (by kernel_rfl) (by kernel_rfl) (by kernel_rfl) (fun _ _ _ h => h) (Or.inl ⟨by rfl, ?_⟩) (by assumption) ?_
        rotate_left
        · intro w hSw
          (try dsimp only at hSw)
          go_simp
          all_goals with_reducible rfl
        try simp only [Act.put, List.setIfInBounds_toArray, List.set_cons_zero, List.set_cons_succ, List.getElem_toArray, List.getElem_cons_zero, List.getElem_cons_succ]
        refine wpAnyH_ready (rs := [4, 8]) (by kernel_rfl) (by simp) ?_
        refine AllReadyH.cons rfl (fun K hK => ?_) (AllReadyH.cons rfl (fun K hK => ?_) AllReadyH.nil)
        · go_simp
          (go_at_call 17; refine (K5.out _ _ _ _ _ (Sms.dropR hL10 m hml) (Nat.le_refl _)).mono ?_; rintro e w105 ⟨rfl, b105⟩)
          refine hK.out _ _ (G10.keep3 b105) (fun hHeld => ?_)
          clear hK K
          try simp only [Act.put, List.setIfInBounds_toArray, List.set_cons_zero, List.set_cons_succ, List.getElem_toArray, List.getElem_cons_zero, List.getElem_cons_succ]
          refine wpAnyH_take (i := 5) (v := ?_) rfl (by kernel_rfl) (by kernel_rfl) (by kernel_rfl) (fun _ _ _ h => h) (Or.inl ⟨by rfl, ?_⟩) (by assumption) ?_
          rotate_left
          · intro w hSw
            (try dsimp only at hSw)
            go_simp
            all_goals with_reducible rfl
          try simp only [Act.put, List.setIfInBounds_toArray, List.set_cons_zero, List.set_cons_succ, List.getElem_toArray, List.getElem_cons_zero, List.getElem_cons_succ]
          refine wpAnyH_take (i := 6) (v := ?_) rfl (by kernel_rfl) (by kernel_rfl) (by kernel_rfl) (fun _ _ _ h => h) (Or.inl ⟨by rfl, ?_⟩) (by assumption) ?_
          rotate_left
          · intro w hSw
            (try dsimp only at hSw)
            go_simp
            all_goals with_reducible rfl
          try simp only [Act.put, List.setIfInBounds_toArray, List.set_cons_zero, List.set_cons_succ, List.getElem_toArray, List.getElem_cons_zero, List.getElem_cons_succ]
          refine wpAnyH_take (i := 7) (v := ?_) rfl (by kernel_rfl) (by kernel_rfl) (by kernel_rfl) (fun _ _ _ h => h) (Or.inl ⟨by rfl, ?_⟩) (by assumption) ?_
          rotate_left
          · intro w hSw
            (try dsimp only at hSw)
            go_simp
            all_goals with_reducible rfl
          try simp only [Act.put, List.setIfInBounds_toArray, List.set_cons_zero, List.set_cons_succ, List.getElem_toArray, List.getElem_cons_zero, List.getElem_cons_succ]
          have e0 : (w105.alloc (.cells #[.int .i64 0, .int .i64 0, .int .i64 0] 24)).cell? ⟨w105.heap.size, 0, none⟩ = some (.int .i64 0) := by simp
          have e1 : (w105.alloc (.cells #[.int .i64 0, .int .i64 0, .int .i64 0] 24)).cell? ⟨w105.heap.size, 1, none⟩ = some (.int .i64 0) := by simp
          have e2 : (w105.alloc (.cells #[.int .i64 0, .int .i64 0, .int .i64 0] 24)).cell? ⟨w105.heap.size, 2, none⟩ = some (.int .i64 0) := by simp
          have h0 : (w105.alloc (.cells #[.int .i64 0, .int .i64 0, .int .i64 0] 24)).frozen? ⟨w105.heap.size, 0, none⟩ = false := by simp
          have h1 : (w105.alloc (.cells #[.int .i64 0, .int .i64 0, .int .i64 0] 24)).frozen? ⟨w105.heap.size, 1, none⟩ = false := by simp
          have h2 : (w105.alloc (.cells #[.int .i64 0, .int .i64 0, .int .i64 0] 24)).frozen? ⟨w105.heap.size, 2, none⟩ = false := by simp
          have bX := b105.alloc b105.size (.cells #[.int .i64 0, .int .i64 0, .int .i64 0] 24)
          have hE := b105.size
          refine wpAnyH_ready (rs := [8]) (by kernel_rfl) (by simp) ?_
          refine AllReadyH.cons rfl (fun K hK => ?_) AllReadyH.nil
          go_simp
          skip
          refine hK.out _ _ (G10.keep3 bX) (fun hHeld => ?_)
          clear hK K
          try simp only [Act.put, List.setIfInBounds_toArray, List.set_cons_zero, List.set_cons_succ, List.getElem_toArray, List.getElem_cons_zero, List.getElem_cons_succ]
          clear b105
          generalize w105.alloc (.cells #[.int .i64 0, .int .i64 0, .int .i64 0] 24) = X5 at *
          generalize w105.heap.size = E10 at *
          obtain ⟨v0, v1, v2, vo, vf⟩ := set3 (x := (.int .i64 X1)) (y := (.int .i64 X2)) (z := (.int .i64 X3)) e0 e1 e2
          have bF := ((bX.setCell (p := ⟨E10, 0, none⟩) hE (.int .i64 X1)).setCell (p := ⟨E10, 1, none⟩) hE (.int .i64 X2)).setCell (p := ⟨E10, 2, none⟩) hE (.int .i64 X3)
          refine wpAnyH_ready (rs := [9]) (by kernel_rfl) (by simp) ?_
          refine AllReadyH.cons rfl (fun K hK => ?_) AllReadyH.nil
          go_simp
          skip
          refine hK.out _ _ (G10.keep3 bF) (fun hHeld => ?_)
          clear hK K
          try simp only [Act.put, List.setIfInBounds_toArray, List.set_cons_zero, List.set_cons_succ, List.getElem_toArray, List.getElem_cons_zero, List.getElem_cons_succ]
          have hlt : E10 < (((X5.setCell ⟨E10, 0, none⟩ (.int .i64 X1)).setCell ⟨E10, 1, none⟩ (.int .i64 X2)).setCell ⟨E10, 2, none⟩ (.int .i64 X3)).heap.size := World.block_lt_of_cell? _ _ v0
          refine wpAnyH_take (i := 10) (v := ?_) rfl (by kernel_rfl) (by kernel_rfl) (by kernel_rfl) (fun _ _ _ h => h) (Or.inl ⟨by rfl, ?_⟩) (by assumption) ?_
          rotate_left
          · intro w hSw
            (try dsimp only at hSw)
            go_simp
            all_goals with_reducible rfl
          try simp only [Act.put, List.setIfInBounds_toArray, List.set_cons_zero, List.set_cons_succ, List.getElem_toArray, List.getElem_cons_zero, List.getElem_cons_succ]
          refine wpAnyH_done (by kernel_rfl) ?_ _
          clear hHeld e0 e1 e2 h0 h1 h2 vo vf bX
          generalize ((X5.setCell ⟨E10, 0, none⟩ (.int .i64 X1)).setCell ⟨E10, 1, none⟩ (.int .i64 X2)).setCell ⟨E10, 2, none⟩ (.int .i64 X3) = WX at *
          have hbel := (G10.b bF).G.st.bel
          have y0 := (G10.b bF).G.d.c0
          have y1 := (G10.b bF).G.d.c1
          have y2 := (G10.b bF).G.d.c2
          clear hL10 bF G10 bW10 hE hlt
          go_wp2
          go_ret
          exact ⟨ret_bool (by first | rfl | simp), hbel⟩
        · go_simp
          have bZ := (Below.refl V10.heap.size V10).alloc (Nat.le_refl _) (.cells #[.int .i64 0, .int .i64 0, .int .i64 0] 24)
          refine hK.out _ _ (G10.keep3 bZ) (fun hHeld => ?_)
          clear hK K
          try simp only [Act.put, List.setIfInBounds_toArray, List.set_cons_zero, List.set_cons_succ, List.getElem_toArray, List.getElem_cons_zero, List.getElem_cons_succ]
          have G10z := G10.al (.cells #[.int .i64 0, .int .i64 0, .int .i64 0] 24)
          have hSz : V10.heap.size < (V10.alloc (.cells #[.int .i64 0, .int .i64 0, .int .i64 0] 24)).heap.size := by simp
          have c0 : (V10.alloc (.cells #[.int .i64 0, .int .i64 0, .int .i64 0] 24)).cell? ⟨V10.heap.size, 0, none⟩ = some (.int .i64 0) := by simp
          have c1 : (V10.alloc (.cells #[.int .i64 0, .int .i64 0, .int .i64 0] 24)).cell? ⟨V10.heap.size, 1, none⟩ = some (.int .i64 0) := by simp
          have c2 : (V10.alloc (.cells #[.int .i64 0, .int .i64 0, .int .i64 0] 24)).cell? ⟨V10.heap.size, 2, none⟩ = some (.int .i64 0) := by simp
          have f0 : (V10.alloc (.cells #[.int .i64 0, .int .i64 0, .int .i64 0] 24)).frozen? ⟨V10.heap.size, 0, none⟩ = false := by simp
          have f1 : (V10.alloc (.cells #[.int .i64 0, .int .i64 0, .int .i64 0] 24)).frozen? ⟨V10.heap.size, 1, none⟩ = false := by simp
          have f2 : (V10.alloc (.cells #[.int .i64 0, .int .i64 0, .int .i64 0] 24)).frozen? ⟨V10.heap.size, 2, none⟩ = false := by simp
          have hL10z := (hL10.below bZ).more bZ.size
          refine wpAnyH_ready (rs := [4]) (by kernel_rfl) (by simp) ?_
          refine AllReadyH.cons rfl (fun K hK => ?_) AllReadyH.nil
          go_simp
          (go_at_call 17; refine (K5.out _ _ _ _ _ (Sms.dropR hL10z m hml) (Nat.le_refl _)).mono ?_; rintro e w105 ⟨rfl, b105⟩)
          refine hK.out _ _ (G10z.keep3 b105) (fun hHeld => ?_)
          clear hK K
          try simp only [Act.put, List.setIfInBounds_toArray, List.set_cons_zero, List.set_cons_succ, List.getElem_toArray, List.getElem_cons_zero, List.getElem_cons_succ]
          have e0 := (b105.cell (p := ⟨V10.heap.size, 0, none⟩) hSz).trans c0
          have e1 := (b105.cell (p := ⟨V10.heap.size, 1, none⟩) hSz).trans c1
          have e2 := (b105.cell (p := ⟨V10.heap.size, 2, none⟩) hSz).trans c2
          have h0 := (b105.frozen (p := ⟨V10.heap.size, 0, none⟩) hSz).trans f0
          have h1 := (b105.frozen (p := ⟨V10.heap.size, 1, none⟩) hSz).trans f1
          have h2 := (b105.frozen (p := ⟨V10.heap.size, 2, none⟩) hSz).trans f2
          have bX := bZ.trans (b105.mono bZ.size)
          have hE := Nat.le_refl V10.heap.size
          clear c0 c1 c2 f0 f1 f2 b105 bZ hSz hL10z G10z
          refine wpAnyH_take (i := 5) (v := ?_) rfl (by kernel_rfl) (by kernel_rfl) (by kernel_rfl) (fun _ _ _ h => h) (Or.inl ⟨by rfl, ?_⟩) (by assumption) ?_
          rotate_left
          · intro w hSw
            (try dsimp only at hSw)
            go_simp
            all_goals with_reducible rfl
          try simp only [Act.put, List.setIfInBounds_toArray, List.set_cons_zero, List.set_cons_succ, List.getElem_toArray, List.getElem_cons_zero, List.getElem_cons_succ]
          refine wpAnyH_take (i := 6) (v := ?_) rfl (by kernel_rfl) (by kernel_rfl) (by kernel_rfl) (fun _ _ _ h => h) (Or.inl ⟨by rfl, ?_⟩) (by assumption) ?_
          rotate_left
          · intro w hSw
            (try dsimp only at hSw)
            go_simp
            all_goals with_reducible rfl
          try simp only [Act.put, List.setIfInBounds_toArray, List.set_cons_zero, List.set_cons_succ, List.getElem_toArray, List.getElem_cons_zero, List.getElem_cons_succ]
          refine wpAnyH_take (i := 7) (v := ?_) rfl (by kernel_rfl) (by kernel_rfl) (by kernel_rfl) (fun _ _ _ h => h) (Or.inl ⟨by rfl, ?_⟩) (by assumption) ?_
          rotate_left
          · intro w hSw
            (try dsimp only at hSw)
            go_simp
            all_goals with_reducible rfl
          try simp only [Act.put, List.setIfInBounds_toArray, List.set_cons_zero, List.set_cons_succ, List.getElem_toArray, List.getElem_cons_zero, List.getElem_cons_succ]
          generalize hEE : V10.heap.size = E10 at e0 e1 e2 h0 h1 h2 ⊢
          have hE : V10.heap.size ≤ E10 := by omega
          clear hEE
          generalize w105 = X5 at *
          obtain ⟨v0, v1, v2, vo, vf⟩ := set3 (x := (.int .i64 X1)) (y := (.int .i64 X2)) (z := (.int .i64 X3)) e0 e1 e2
          have bF := ((bX.setCell (p := ⟨E10, 0, none⟩) hE (.int .i64 X1)).setCell (p := ⟨E10, 1, none⟩) hE (.int .i64 X2)).setCell (p := ⟨E10, 2, none⟩) hE (.int .i64 X3)
          refine wpAnyH_ready (rs := [9]) (by kernel_rfl) (by simp) ?_
          refine AllReadyH.cons rfl (fun K hK => ?_) AllReadyH.nil
          go_simp
          skip
          refine hK.out _ _ (G10.keep3 bF) (fun hHeld => ?_)
          clear hK K
          try simp only [Act.put, List.setIfInBounds_toArray, List.set_cons_zero, List.set_cons_succ, List.getElem_toArray, List.getElem_cons_zero, List.getElem_cons_succ]
          have hlt : E10 < (((X5.setCell ⟨E10, 0, none⟩ (.int .i64 X1)).setCell ⟨E10, 1, none⟩ (.int .i64 X2)).setCell ⟨E10, 2, none⟩ (.int .i64 X3)).heap.size := World.block_lt_of_cell? _ _ v0
          refine wpAnyH_take (i := 10) (v := ?_) rfl (by kernel_rfl) (by kernel_rfl) (by kernel_rfl) (fun _ _ _ h => h) (Or.inl ⟨by rfl, ?_⟩) (by assumption) ?_
          rotate_left
          · intro w hSw
            (try dsimp only at hSw)
            go_simp
            all_goals with_reducible rfl
          try simp only [Act.put, List.setIfInBounds_toArray, List.set_cons_zero, List.set_cons_succ, List.getElem_toArray, List.getElem_cons_zero, List.getElem_cons_succ]
          refine wpAnyH_done (by kernel_rfl) ?_ _
          clear hHeld e0 e1 e2 h0 h1 h2 vo vf bX
          generalize ((X5.setCell ⟨E10, 0, none⟩ (.int .i64 X1)).setCell ⟨E10, 1, none⟩ (.int .i64 X2)).setCell ⟨E10, 2, none⟩ (.int .i64 X3) = WX at *
          have hbel := (G10.b bF).G.st.bel
          have y0 := (G10.b bF).G.d.c0
          have y1 := (G10.b bF).G.d.c1
          have y2 := (G10.b bF).G.d.c2
          clear hL10 bF G10 bW10 hE hlt
          go_wp2
          go_ret
          exact ⟨ret_bool (by first | rfl | simp), hbel⟩
      · go_simp
        have bZ := (Below.refl V9.heap.size V9).alloc (Nat.le_refl _) (.cells #[.int .i64 0, .int .i64 0, .int .i64 0] 24)
        refine hK.out _ _ (G9.keep3 bZ) (fun hHeld => ?_)
        clear hK K
        try simp only [Act.put, List.setIfInBounds_toArray, List.set_cons_zero, List.set_cons_succ, List.getElem_toArray, List.getElem_cons_zero, List.getElem_cons_succ]
        have G9z := G9.al (.cells #[.int .i64 0, .int .i64 0, .int .i64 0] 24)
        have hSz : V9.heap.size < (V9.alloc (.cells #[.int .i64 0, .int .i64 0, .int .i64 0] 24)).heap.size := by simp
        have c0 : (V9.alloc (.cells #[.int .i64 0, .int .i64 0, .int .i64 0] 24)).cell? ⟨V9.heap.size, 0, none⟩ = some (.int .i64 0) := by simp
        have c1 : (V9.alloc (.cells #[.int .i64 0, .int .i64 0, .int .i64 0] 24)).cell? ⟨V9.heap.size, 1, none⟩ = some (.int .i64 0) := by simp
        have c2 : (V9.alloc (.cells #[.int .i64 0, .int .i64 0, .int .i64 0] 24)).cell? ⟨V9.heap.size, 2, none⟩ = some (.int .i64 0) := by simp
        have f0 : (V9.alloc (.cells #[.int .i64 0, .int .i64 0, .int .i64 0] 24)).frozen? ⟨V9.heap.size, 0, none⟩ = false := by simp
        have f1 : (V9.alloc (.cells #[.int .i64 0, .int .i64 0, .int .i64 0] 24)).frozen? ⟨V9.heap.size, 1, none⟩ = false := by simp
        have f2 : (V9.alloc (.cells #[.int .i64 0, .int .i64 0, .int .i64 0] 24)).frozen? ⟨V9.heap.size, 2, none⟩ = false := by simp
        have hL9z := (hL9.below bZ).more bZ.size
        refine wpAnyH_ready (rs := [4]) (by kernel_rfl) (by simp) ?_
        refine AllReadyH.cons rfl (fun K hK => ?_) AllReadyH.nil
        go_simp
        (go_at_call 17; refine (K4.out _ _ _ _ _ (Sms.take hL9z m hml) (Nat.le_refl _)).mono ?_; rintro e w95 ⟨rfl, b95⟩)
        refine hK.out _ _ (G9z.keep3 b95) (fun hHeld => ?_)
        clear hK K
        try simp only [Act.put, List.setIfInBounds_toArray, List.set_cons_zero, List.set_cons_succ, List.getElem_toArray, List.getElem_cons_zero, List.getElem_cons_succ]
        have e0 := (b95.cell (p := ⟨V9.heap.size, 0, none⟩) hSz).trans c0
        have e1 := (b95.cell (p := ⟨V9.heap.size, 1, none⟩) hSz).trans c1
        have e2 := (b95.cell (p := ⟨V9.heap.size, 2, none⟩) hSz).trans c2
        have h0 := (b95.frozen (p := ⟨V9.heap.size, 0, none⟩) hSz).trans f0
        have h1 := (b95.frozen (p := ⟨V9.heap.size, 1, none⟩) hSz).trans f1
        have h2 := (b95.frozen (p := ⟨V9.heap.size, 2, none⟩) hSz).trans f2
        have bX := bZ.trans (b95.mono bZ.size)
        have hE := Nat.le_refl V9.heap.size
        clear c0 c1 c2 f0 f1 f2 b95 bZ hSz hL9z G9z
        refine wpAnyH_take (i := 5) (v := ?_) rfl (by kernel_rfl) (by kernel_rfl) (by kernel_rfl) (fun _ _ _ h => h) (Or.inl ⟨by rfl, ?_⟩) (by assumption) ?_
        rotate_left
        · intro w hSw
          (try dsimp only at hSw)
          go_simp
          all_goals with_reducible rfl
        try simp only [Act.put, List.setIfInBounds_toArray, List.set_cons_zero, List.set_cons_succ, List.getElem_toArray, List.getElem_cons_zero, List.getElem_cons_succ]
        refine wpAnyH_take (i := 6) (v := ?_) rfl (by kernel_rfl) (by kernel_rfl) (by kernel_rfl) (fun _ _ _ h => h) (Or.inl ⟨by rfl, ?_⟩) (by assumption) ?_
        rotate_left
        · intro w hSw
          (try dsimp only at hSw)
          go_simp
          all_goals with_reducible rfl
        try simp only [Act.put, List.setIfInBounds_toArray, List.set_cons_zero, List.set_cons_succ, List.getElem_toArray, List.getElem_cons_zero, List.getElem_cons_succ]
        refine wpAnyH_take (i := 7) (v := ?_) rfl (by kernel_rfl) (by kernel_rfl) (by kernel_rfl) (fun _ _ _ h => h) (Or.inl ⟨by rfl, ?_⟩) (by assumption) ?_
        rotate_left
        · intro w hSw
          (try dsimp only at hSw)
          go_simp
          all_goals with_reducible rfl
        try simp only [Act.put, List.setIfInBounds_toArray, List.set_cons_zero, List.set_cons_succ, List.getElem_toArray, List.getElem_cons_zero, List.getElem_cons_succ]
        generalize hEE : V9.heap.size = E9 at e0 e1 e2 h0 h1 h2 ⊢
        have hE : V9.heap.size ≤ E9 := by omega
        clear hEE
        generalize w95 = X5 at *
        obtain ⟨v0, v1, v2, vo, vf⟩ := set3 (x := (.int .i64 Y1)) (y := (.int .i64 Y2)) (z := (.int .i64 Y3)) e0 e1 e2
        have bF := ((bX.setCell (p := ⟨E9, 0, none⟩) hE (.int .i64 Y1)).setCell (p := ⟨E9, 1, none⟩) hE (.int .i64 Y2)).setCell (p := ⟨E9, 2, none⟩) hE (.int .i64 Y3)
        refine wpAnyH_ready (rs := [9]) (by kernel_rfl) (by simp) ?_
        refine AllReadyH.cons rfl (fun K hK => ?_) AllReadyH.nil
        go_simp
        skip
        refine hK.out _ _ (G9.keep3 bF) (fun hHeld => ?_)
        clear hK K
        try simp only [Act.put, List.setIfInBounds_toArray, List.set_cons_zero, List.set_cons_succ, List.getElem_toArray, List.getElem_cons_zero, List.getElem_cons_succ]
        have hlt : E9 < (((X5.setCell ⟨E9, 0, none⟩ (.int .i64 Y1)).setCell ⟨E9, 1, none⟩ (.int .i64 Y2)).setCell ⟨E9, 2, none⟩ (.int .i64 Y3)).heap.size := World.block_lt_of_cell? _ _ v0
        refine wpAnyH_take (i := 10) (v := ?_) rfl (by kernel_rfl) (by kernel_rfl) (by kernel_rfl) (fun _ _ _ h => h) (Or.inl ⟨by rfl, ?_⟩) (by assumption) ?_
        rotate_left
        · intro w hSw
          (try dsimp only at hSw)
          go_simp
          all_goals with_reducible rfl
        try simp only [Act.put, List.setIfInBounds_toArray, List.set_cons_zero, List.set_cons_succ, List.getElem_toArray, List.getElem_cons_zero, List.getElem_cons_succ]
        refine wpAnyH_done (by kernel_rfl) ?_ _
        clear hHeld e0 e1 e2 h0 h1 h2 vo vf bX
        generalize ((X5.setCell ⟨E9, 0, none⟩ (.int .i64 Y1)).setCell ⟨E9, 1, none⟩ (.int .i64 Y2)).setCell ⟨E9, 2, none⟩ (.int .i64 Y3) = W9 at *
        have G10 : Gt w W9 D1 o p c D2 X1 X2 X3 E9 Y1 Y2 Y3 := ⟨G9.b bF, ⟨v0, v1, v2, hlt⟩⟩
        have hL10 := (hL9.below bF).more bF.size
        have bW10 := (G9.b bF).st.bel
        clear G9 hL9 bW9 bF v0 v1 v2 hE hlt
        go_wp2_with fail
        refine wp_region_held_drew (S := (fun w' => w'.cell? ⟨E9, 0, none⟩ = some (.int .i64 Y1) ∧ w'.cell? ⟨E9, 1, none⟩ = some (.int .i64 Y2) ∧ w'.cell? ⟨E9, 2, none⟩ = some (.int .i64 Y3))) (by kernel_rfl) (G10.keep0) (fun hHeld => ?_)
        have G10 := G10.drew
        replace hL10 : Sms W9.drew.heap.size W9.drew _ _ _ := hL10
        replace bW10 := bW10.drew
        generalize W9.drew = V10 at *
        refine wpAnyH_take (i := 0) (v := ?_) rfl (by kernel_rfl) (by kernel_rfl) (by kernel_rfl) (fun _ _ _ h => h) (Or.inl ⟨by rfl, ?_⟩) (by assumption) ?_
        rotate_left
        · intro w hSw
          (try dsimp only at hSw)
          go_simp
          all_goals with_reducible rfl
        try simp only [Act.put, List.setIfInBounds_toArray, List.set_cons_zero, List.set_cons_succ, List.getElem_toArray, List.getElem_cons_zero]
        refine wpAnyH_take (i := 1) (v := ?_) rfl (by kernel_rfl) (by kernel_rfl) (by kernel_rfl) (fun _ _ _ h => h) (Or.inl ⟨by rfl, ?_⟩) (by assumption) ?_
        rotate_left
        · intro w hSw
          (try dsimp only at hSw)
          go_simp
          all_goals with_reducible rfl
        try simp only [Act.put, List.setIfInBounds_toArray, List.set_cons_zero, List.set_cons_succ, List.getElem_toArray, List.getElem_cons_zero, List.getElem_cons_succ]
        refine wpAnyH_take (i := 2) (v := ?_) rfl (by kernel_rfl) (by kernel_rfl) (by kernel_rfl) (fun _ _ _ h => h) (Or.inl ⟨by rfl, ?_⟩) (by assumption) ?_
        rotate_left
        · intro w hSw
          (try dsimp only at hSw)
          go_simp
          all_goals with_reducible rfl
        try simp only [Act.put, List.setIfInBounds_toArray, List.set_cons_zero, List.set_cons_succ, List.getElem_toArray, List.getElem_cons_zero, List.getElem_cons_succ]
        refine wpAnyH_take (i := 3) (v := ?_) rfl (by kernel_rfl) (by kernel_rfl) (by kernel_rfl) (fun _ _ _ h => h) (Or.inl ⟨by rfl, ?_⟩) (by assumption) ?_
        rotate_left
        · intro w hSw
          (try dsimp only at hSw)
          go_simp
          all_goals with_reducible rfl
        try simp only [Act.put, List.setIfInBounds_toArray, List.set_cons_zero, List.set_cons_succ, List.getElem_toArray, List.getElem_cons_zero, List.getElem_cons_succ]
        refine wpAnyH_ready (rs := [4, 8]) (by kernel_rfl) (by simp) ?_
        refine AllReadyH.cons rfl (fun K hK => ?_) (AllReadyH.cons rfl (fun K hK => ?_) AllReadyH.nil)
        · go_simp
          (go_at_call 17; refine (K5.out _ _ _ _ _ (Sms.dropR hL10 m hml) (Nat.le_refl _)).mono ?_; rintro e w105 ⟨rfl, b105⟩)
          refine hK.out _ _ (G10.keep3 b105) (fun hHeld => ?_)
          clear hK K
          try simp only [Act.put, List.setIfInBounds_toArray, List.set_cons_zero, List.set_cons_succ, List.getElem_toArray, List.getElem_cons_zero, List.getElem_cons_succ]
          refine wpAnyH_take (i := 5) (v := ?_) rfl (by kernel_rfl) (by kernel_rfl) (by kernel_rfl) (fun _ _ _ h => h) (Or.inl ⟨by rfl, ?_⟩) (by assumption) ?_
          rotate_left
          · intro w hSw
            (try dsimp only at hSw)
            go_simp
            all_goals with_reducible rfl
          try simp only [Act.put, List.setIfInBounds_toArray, List.set_cons_zero, List.set_cons_succ, List.getElem_toArray, List.getElem_cons_zero, List.getElem_cons_succ]
          refine wpAnyH_take (i := 6) (v := ?_) rfl (by kernel_rfl) (by kernel_rfl) (by kernel_rfl) (fun _ _ _ h => h) (Or.inl ⟨by rfl, ?_⟩) (by assumption) ?_
          rotate_left
          · intro w hSw
            (try dsimp only at hSw)
            go_simp
            all_goals with_reducible rfl
          try simp only [Act.put, List.setIfInBounds_toArray, List.set_cons_zero, List.set_cons_succ, List.getElem_toArray, List.getElem_cons_zero, List.getElem_cons_succ]
          refine wpAnyH_take (i := 7) (v := ?_) rfl (by kernel_rfl) (by kernel_rfl) (by kernel_rfl) (fun _ _ _ h => h) (Or.inl ⟨by rfl, ?_⟩) (by assumption) ?_
          rotate_left
          · intro w hSw
            (try dsimp only at hSw)
            go_simp
            all_goals with_reducible rfl
          try simp only [Act.put, List.setIfInBounds_toArray, List.set_cons_zero, List.set_cons_succ, List.getElem_toArray, List.getElem_cons_zero, List.getElem_cons_succ]
          have e0 : (w105.alloc (.cells #[.int .i64 0, .int .i64 0, .int .i64 0] 24)).cell? ⟨w105.heap.size, 0, none⟩ = some (.int .i64 0) := by simp
          have e1 : (w105.alloc (.cells #[.int .i64 0, .int .i64 0, .int .i64 0] 24)).cell? ⟨w105.heap.size, 1, none⟩ = some (.int .i64 0) := by simp
          have e2 : (w105.alloc (.cells #[.int .i64 0, .int .i64 0, .int .i64 0] 24)).cell? ⟨w105.heap.size, 2, none⟩ = some (.int .i64 0) := by simp
          have h0 : (w105.alloc (.cells #[.int .i64 0, .int .i64 0, .int .i64 0] 24)).frozen? ⟨w105.heap.size, 0, none⟩ = false := by simp
          have h1 : (w105.alloc (.cells #[.int .i64 0, .int .i64 0, .int .i64 0] 24)).frozen? ⟨w105.heap.size, 1, none⟩ = false := by simp
          have h2 : (w105.alloc (.cells #[.int .i64 0, .int .i64 0, .int .i64 0] 24)).frozen? ⟨w105.heap.size, 2, none⟩ = false := by simp
          have bX := b105.alloc b105.size (.cells #[.int .i64 0, .int .i64 0, .int .i64 0] 24)
          have hE := b105.size
          refine wpAnyH_ready (rs := [8]) (by kernel_rfl) (by simp) ?_
          refine AllReadyH.cons rfl (fun K hK => ?_) AllReadyH.nil
          go_simp
          skip
          refine hK.out _ _ (G10.keep3 bX) (fun hHeld => ?_)
          clear hK K
          try simp only [Act.put, List.setIfInBounds_toArray, List.set_cons_zero, List.set_cons_succ, List.getElem_toArray, List.getElem_cons_zero, List.getElem_cons_succ]
          clear b105
          generalize w105.alloc (.cells #[.int .i64 0, .int .i64 0, .int .i64 0] 24) = X5 at *
          generalize w105.heap.size = E10 at *
          obtain ⟨v0, v1, v2, vo, vf⟩ := set3 (x := (.int .i64 X1)) (y := (.int .i64 X2)) (z := (.int .i64 X3)) e0 e1 e2
          have bF := ((bX.setCell (p := ⟨E10, 0, none⟩) hE (.int .i64 X1)).setCell (p := ⟨E10, 1, none⟩) hE (.int .i64 X2)).setCell (p := ⟨E10, 2, none⟩) hE (.int .i64 X3)
          refine wpAnyH_ready (rs := [9]) (by kernel_rfl) (by simp) ?_
          refine AllReadyH.cons rfl (fun K hK => ?_) AllReadyH.nil
          go_simp
          skip
          refine hK.out _ _ (G10.keep3 bF) (fun hHeld => ?_)
          clear hK K
          try simp only [Act.put, List.setIfInBounds_toArray, List.set_cons_zero, List.set_cons_succ, List.getElem_toArray, List.getElem_cons_zero, List.getElem_cons_succ]
          have hlt : E10 < (((X5.setCell ⟨E10, 0, none⟩ (.int .i64 X1)).setCell ⟨E10, 1, none⟩ (.int .i64 X2)).setCell ⟨E10, 2, none⟩ (.int .i64 X3)).heap.size := World.block_lt_of_cell? _ _ v0
          refine wpAnyH_take (i := 10) (v := ?_) rfl (by kernel_rfl) (by kernel_rfl) (by kernel_rfl) (fun _ _ _ h => h) (Or.inl ⟨by rfl, ?_⟩) (by assumption) ?_
          rotate_left
          · intro w hSw
            (try dsimp only at hSw)
            go_simp
            all_goals with_reducible rfl
          try simp only [Act.put, List.setIfInBounds_toArray, List.set_cons_zero, List.set_cons_succ, List.getElem_toArray, List.getElem_cons_zero, List.getElem_cons_succ]
          refine wpAnyH_done (by kernel_rfl) ?_ _
          clear hHeld e0 e1 e2 h0 h1 h2 vo vf bX
          generalize ((X5.setCell ⟨E10, 0, none⟩ (.int .i64 X1)).setCell ⟨E10, 1, none⟩ (.int .i64 X2)).setCell ⟨E10, 2, none⟩ (.int .i64 X3) = WX at *
          have hbel := (G10.b bF).G.st.bel
          have y0 := (G10.b bF).G.d.c0
          have y1 := (G10.b bF).G.d.c1
          have y2 := (G10.b bF).G.d.c2
          clear hL10 bF G10 bW10 hE hlt
          go_wp2
          go_ret
          exact ⟨ret_bool (by first | rfl | simp), hbel⟩
        · go_simp
          have bZ := (Below.refl V10.heap.size V10).alloc (Nat.le_refl _) (.cells #[.int .i64 0, .int .i64 0, .int .i64 0] 24)
          refine hK.out _ _ (G10.keep3 bZ) (fun hHeld => ?_)
          clear hK K
          try simp only [Act.put, List.setIfInBounds_toArray, List.set_cons_zero, List.set_cons_succ, List.getElem_toArray, List.getElem_cons_zero, List.getElem_cons_succ]
          have G10z := G10.al (.cells #[.int .i64 0, .int .i64 0, .int .i64 0] 24)
          have hSz : V10.heap.size < (V10.alloc (.cells #[.int .i64 0, .int .i64 0, .int .i64 0] 24)).heap.size := by simp
          have c0 : (V10.alloc (.cells #[.int .i64 0, .int .i64 0, .int .i64 0] 24)).cell? ⟨V10.heap.size, 0, none⟩ = some (.int .i64 0) := by simp
          have c1 : (V10.alloc (.cells #[.int .i64 0, .int .i64 0, .int .i64 0] 24)).cell? ⟨V10.heap.size, 1, none⟩ = some (.int .i64 0) := by simp
          have c2 : (V10.alloc (.cells #[.int .i64 0, .int .i64 0, .int .i64 0] 24)).cell? ⟨V10.heap.size, 2, none⟩ = some (.int .i64 0) := by simp
          have f0 : (V10.alloc (.cells #[.int .i64 0, .int .i64 0, .int .i64 0] 24)).frozen? ⟨V10.heap.size, 0, none⟩ = false := by simp
          have f1 : (V10.alloc (.cells #[.int .i64 0, .int .i64 0, .int .i64 0] 24)).frozen? ⟨V10.heap.size, 1, none⟩ = false := by simp
          have f2 : (V10.alloc (.cells #[.int .i64 0, .int .i64 0, .int .i64 0] 24)).frozen? ⟨V10.heap.size, 2, none⟩ = false := by simp
          have hL10z := (hL10.below bZ).more bZ.size
          refine wpAnyH_ready (rs := [4]) (by kernel_rfl) (by simp) ?_
          refine AllReadyH.cons rfl (fun K hK => ?_) AllReadyH.nil
          go_simp
          (go_at_call 17; refine (K5.out _ _ _ _ _ (Sms.dropR hL10z m hml) (Nat.le_refl _)).mono ?_; rintro e w105 ⟨rfl, b105⟩)
          refine hK.out _ _ (G10z.keep3 b105) (fun hHeld => ?_)
          clear hK K
          try simp only [Act.put, List.setIfInBounds_toArray, List.set_cons_zero, List.set_cons_succ, List.getElem_toArray, List.getElem_cons_zero, List.getElem_cons_succ]
          have e0 := (b105.cell (p := ⟨V10.heap.size, 0, none⟩) hSz).trans c0
          have e1 := (b105.cell (p := ⟨V10.heap.size, 1, none⟩) hSz).trans c1
          have e2 := (b105.cell (p := ⟨V10.heap.size, 2, none⟩) hSz).trans c2
          have h0 := (b105.frozen (p := ⟨V10.heap.size, 0, none⟩) hSz).trans f0
          have h1 := (b105.frozen (p := ⟨V10.heap.size, 1, none⟩) hSz).trans f1
          have h2 := (b105.frozen (p := ⟨V10.heap.size, 2, none⟩) hSz).trans f2
          have bX := bZ.trans (b105.mono bZ.size)
          have hE := Nat.le_refl V10.heap.size
          clear c0 c1 c2 f0 f1 f2 b105 bZ hSz hL10z G10z
          refine wpAnyH_take (i := 5) (v := ?_) rfl (by kernel_rfl) (by kernel_rfl) (by kernel_rfl) (fun _ _ _ h => h) (Or.inl ⟨by rfl, ?_⟩) (by assumption) ?_
          rotate_left
          · intro w hSw
            (try dsimp only at hSw)
            go_simp
            all_goals with_reducible rfl
          try simp only [Act.put, List.setIfInBounds_toArray, List.set_cons_zero, List.set_cons_succ, List.getElem_toArray, List.getElem_cons_zero, List.getElem_cons_succ]
          refine wpAnyH_take (i := 6) (v := ?_) rfl (by kernel_rfl) (by kernel_rfl) (by kernel_rfl) (fun _ _ _ h => h) (Or.inl ⟨by rfl, ?_⟩) (by assumption) ?_
          rotate_left
          · intro w hSw
            (try dsimp only at hSw)
            go_simp
            all_goals with_reducible rfl
          try simp only [Act.put, List.setIfInBounds_toArray, List.set_cons_zero, List.set_cons_succ, List.getElem_toArray, List.getElem_cons_zero, List.getElem_cons_succ]
          refine wpAnyH_take (i := 7) (v := ?_) rfl (by kernel_rfl) (by kernel_rfl) (by kernel_rfl) (fun _ _ _ h => h) (Or.inl ⟨by rfl, ?_⟩) (by assumption) ?_
          rotate_left
          · intro w hSw
            (try dsimp only at hSw)
            go_simp
            all_goals with_reducible rfl
          try simp only [Act.put, List.setIfInBounds_toArray, List.set_cons_zero, List.set_cons_succ, List.getElem_toArray, List.getElem_cons_zero, List.getElem_cons_succ]
          generalize hEE : V10.heap.size = E10 at e0 e1 e2 h0 h1 h2 ⊢
          have hE : V10.heap.size ≤ E10 := by omega
          clear hEE
          generalize w105 = X5 at *
          obtain ⟨v0, v1, v2, vo, vf⟩ := set3 (x := (.int .i64 X1)) (y := (.int .i64 X2)) (z := (.int .i64 X3)) e0 e1 e2
          have bF := ((bX.setCell (p := ⟨E10, 0, none⟩) hE (.int .i64 X1)).setCell (p := ⟨E10, 1, none⟩) hE (.int .i64 X2)).setCell (p := ⟨E10, 2, none⟩) hE (.int .i64 X3)
          refine wpAnyH_ready (rs := [9]) (by kernel_rfl) (by simp) ?_
          refine AllReadyH.cons rfl (fun K hK => ?_) AllReadyH.nil
          go_simp
          skip
          refine hK.out _ _ (G10.keep3 bF) (fun hHeld => ?_)
          clear hK K
          try simp only [Act.put, List.setIfInBounds_toArray, List.set_cons_zero, List.set_cons_succ, List.getElem_toArray, List.getElem_cons_zero, List.getElem_cons_succ]
          have hlt : E10 < (((X5.setCell ⟨E10, 0, none⟩ (.int .i64 X1)).setCell ⟨E10, 1, none⟩ (.int .i64 X2)).setCell ⟨E10, 2, none⟩ (.int .i64 X3)).heap.size := World.block_lt_of_cell? _ _ v0
          refine wpAnyH_take (i := 10) (v := ?_) rfl (by kernel_rfl) (by kernel_rfl) (by kernel_rfl) (fun _ _ _ h => h) (Or.inl ⟨by rfl, ?_⟩) (by assumption) ?_
          rotate_left
          · intro w hSw
            (try dsimp only at hSw)
            go_simp
            all_goals with_reducible rfl
          try simp only [Act.put, List.setIfInBounds_toArray, List.set_cons_zero, List.set_cons_succ, List.getElem_toArray, List.getElem_cons_zero, List.getElem_cons_succ]
          refine wpAnyH_done (by kernel_rfl) ?_ _
          clear hHeld e0 e1 e2 h0 h1 h2 vo vf bX
          generalize ((X5.setCell ⟨E10, 0, none⟩ (.int .i64 X1)).setCell ⟨E10, 1, none⟩ (.int .i64 X2)).setCell ⟨E10, 2, none⟩ (.int .i64 X3) = WX at *
          have hbel := (G10.b bF).G.st.bel
          have y0 := (G10.b bF).G.d.c0
          have y1 := (G10.b bF).G.d.c1
          have y2 := (G10.b bF).G.d.c2
          clear hL10 bF G10 bW10 hE hlt
          go_wp2
          go_ret
          exact ⟨ret_bool (by first | rfl | simp), hbel⟩

end Go.Proofs.Ytljdnncodgnpcaa.fnRunClockParts
