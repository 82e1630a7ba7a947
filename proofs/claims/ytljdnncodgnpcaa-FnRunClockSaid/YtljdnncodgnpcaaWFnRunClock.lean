/-
  PROVED: FnRunClock: for every input the law returns true, and the input reads as it did. No condition.
  The frame is as the kit prints it (proof-skeleton.mjs); the walk is mine.
-/
import Derived.Test.YtljdnncodgnpcaaRows
import Derived.Test.YtljdnncodgnpcaaCopyK
import Derived.Test.YtljdnncodgnpcaaRunS
import Derived.Test.YtljdnncodgnpcaaDrawR
import Derived.Test.YtljdnncodgnpcaaRMathB
import Derived.WalkKit
import Derived.ProofKit
import Derived.OpenShut
import Derived.ShutString
import Derived.ChangeOld
import Derived.Below
namespace Go.Proofs.Ytljdnncodgnpcaa.fnRunClock
open Go.ChangeShapes Go.WideShapes Go.ChangeAt Go.RowKit
open Go.ChangeMaps (open_string shut_string)
set_option linter.unusedVariables false


/-- WHAT THE WALK IS TOLD OF A SLICE OF INTEGERS THAT CAME IN: it is nil; or it leads to a row of 'cap' cells, the numbers 'zs' (the first 'len' are its elements, the rest its spare room), each fitting its kind. -/
def IsRow (k : IntKind) (w : World) (a : Option Addr) (len cap : Nat) (zs : List Int) : Prop :=
  (a = none ∧ len = 0 ∧ cap = 0 ∧ zs = []) ∨
  ∃ x, a = some x ∧ len ≤ cap ∧ cap ≤ maxLen ∧ zs.length = cap ∧ (∀ i, i < zs.length → w.cell? (x.add i) = some (.int k (zs.getD i 0))) ∧ ∀ n ∈ zs, (Lit.int k n).wf = true

/-! ### STEP 1: THE WALK: the Go text returns true, AND WRITES NOTHING THAT WAS THERE: 'Below w.heap.size w w'' (Derived/Below.lean: '.refl', '.alloc', '.drew', '.setCell' at a new block, '.trans'). Open each 'IsRow' by 'rcases' AHEAD of 'go_enter'; part every test ahead of the walk. -/
theorem both_runs (x y z : Int) (l : List Q.Sm) : ∃ X1 X2 X3 : Int, ∃ k : Bool,
    (∀ (B n c : Nat) (a : Option Addr) (w : World), Sms B w a n l → B ≤ w.heap.size → Calls Try.prog 18 #[.agg #[.int .i64 x, .int .i64 y, .int .i64 z], .slice a n c] w fun e w' => e = .returned (.tuple #[.agg #[.int .i64 X1, .int .i64 X2, .int .i64 X3], .bool k]) ∧ Below w.heap.size w w') ∧
    (∀ (B n c : Nat) (a : Option Addr) (w : World), Sms B w a n l → B ≤ w.heap.size → Calls Try.prog 17 #[.agg #[.int .i64 x, .int .i64 y, .int .i64 z], .slice a n c] w fun e w' => e = .returned (.tuple #[.agg #[.int .i64 X1, .int .i64 X2, .int .i64 X3], .bool k]) ∧ Below w.heap.size w w') ∧
    (k = true → K.rok (x, y, z) l = true ∧ K.rs (x, y, z) l l.length = (X1, X2, X3)) :=
  ⟨(K.re (x, y, z) l).1, (K.re (x, y, z) l).2.1, (K.re (x, y, z) l).2.2, K.rok (x, y, z) l, fun B n c a w h hB => RC_spec B n c a l (x, y, z) w h hB, fun B n c a w h hB => RC_impl B n c a l (x, y, z) w h hB, fun hk => ⟨hk, by rw [K.re_yes hk]⟩⟩
/-- The clock that runs (its block can be written), the clock that was told, and what lay there before. -/
structure Ge (w w' : World) (E : Nat) (u v q : Int) (D : Nat) (x y z : Int) : Prop where
  e : C3 w' E u v q
  f0 : w'.frozen? ⟨E, 0, none⟩ = false
  f1 : w'.frozen? ⟨E, 1, none⟩ = false
  f2 : w'.frozen? ⟨E, 2, none⟩ = false
  d : C3 w' D x y z
  ne : D ≠ E
  lo : w.heap.size ≤ E
  bel : Below w.heap.size w w'
section
variable {w w' w'' : World} {E D : Nat} {u v q x y z : Int}
theorem Ge.b (h : Ge w w' E u v q D x y z) (hb : Below w'.heap.size w' w'') : Ge w w'' E u v q D x y z :=
  ⟨h.e.b hb, (hb.frozen (p := ⟨E, 0, none⟩) h.e.lt).trans h.f0, (hb.frozen (p := ⟨E, 1, none⟩) h.e.lt).trans h.f1, (hb.frozen (p := ⟨E, 2, none⟩) h.e.lt).trans h.f2, h.d.b hb, h.ne, h.lo, h.bel.trans (hb.mono h.bel.size)⟩
theorem Ge.drew (h : Ge w w' E u v q D x y z) : Ge w w'.drew E u v q D x y z := ⟨h.e.dr 1, h.f0, h.f1, h.f2, h.d.dr 1, h.ne, h.lo, h.bel.drew⟩
theorem Ge.set (h : Ge w w' E u v q D x y z) (u' v' q' : Int) : Ge w (((w'.setCell ⟨E, 0, none⟩ (.int .i64 u')).setCell ⟨E, 1, none⟩ (.int .i64 v')).setCell ⟨E, 2, none⟩ (.int .i64 q')) E u' v' q' D x y z := by
  obtain ⟨v0, v1, v2, vo, vf⟩ := set3 (x := .int .i64 u') (y := .int .i64 v') (z := .int .i64 q') h.e.c0 h.e.c1 h.e.c2
  exact ⟨⟨v0, v1, v2, World.block_lt_of_cell? _ _ v0⟩, (vf _ _).trans h.f0, (vf _ _).trans h.f1, (vf _ _).trans h.f2, ⟨(vo _ _ h.ne).trans h.d.c0, (vo _ _ h.ne).trans h.d.c1, (vo _ _ h.ne).trans h.d.c2, World.block_lt_of_cell? _ _ ((vo _ _ h.ne).trans h.d.c0)⟩, h.ne, h.lo,
    ((h.bel.setCell (p := ⟨E, 0, none⟩) h.lo _).setCell (p := ⟨E, 1, none⟩) h.lo _).setCell (p := ⟨E, 2, none⟩) h.lo _⟩
end
theorem Sms.keepB {B : Nat} {w w' : World} {a : Option Addr} {n : Nat} {l : List Q.Sm} (h : Sms B w a n l) (hB : B ≤ w.heap.size) (hb : Below w.heap.size w w') : Sms B w' a n l := h.below (hb.mono hB)
/-- What the region's loads read. -/
def Rdz (w' : World) (E : Nat) (u v q : Int) (b o : Nat) (x t : Int) : Prop := w'.cell? ⟨E, 0, none⟩ = some (.int .i64 u) ∧ w'.cell? ⟨E, 1, none⟩ = some (.int .i64 v) ∧ w'.cell? ⟨E, 2, none⟩ = some (.int .i64 q) ∧ w'.cell? ⟨b, o, none⟩ = some (.int .i64 x) ∧ w'.cell? ⟨b, o + 2, none⟩ = some (.int .i64 t)
theorem Rdz.b {w w' : World} {E b o : Nat} {u v q x t : Int} (h : Rdz w E u v q b o x t) (hE : E < w.heap.size) (hb : b < w.heap.size) (k : Below w.heap.size w w') : Rdz w' E u v q b o x t :=
  ⟨(k.cell (p := ⟨E, 0, none⟩) hE).trans h.1, (k.cell (p := ⟨E, 1, none⟩) hE).trans h.2.1, (k.cell (p := ⟨E, 2, none⟩) hE).trans h.2.2.1, (k.cell (p := ⟨b, o, none⟩) hb).trans h.2.2.2.1, (k.cell (p := ⟨b, o + 2, none⟩) hb).trans h.2.2.2.2⟩
set_option maxRecDepth 100000 in
set_option maxHeartbeats 8000000 in
theorem walked (a0 : Option Addr) (len0 cap0 : Nat) (z0 : List Int) (w : World) (w0 : IsRow .u8 w a0 len0 cap0 z0) :
    Calls Try.prog 3 #[.slice a0 len0 cap0] w fun e w' => e = .returned (.bool true) ∧ Below w.heap.size w w' := by
  by_cases hl : 1048576 < len0
  · have hl' : (1048576 : Int) < (len0 : Int) := by omega
    clear w0 hl
    go_enter Try.func3, Try.ntmps3
    go_wp2
    go_ret
    exact ⟨rfl, Below.refl _ _⟩
  have hl' : ¬ (1048576 : Int) < (len0 : Int) := by omega
  obtain ⟨hc, hcap⟩ := code_of w0 (by omega)
  clear w0 hl
  go_enter Try.func3, Try.ntmps3
  go_wp2_with fail
  refine (DrawRunClock_any w a0 len0 cap0 hc hcap).mono ?_
  rintro e w1 ⟨o, p, c, ad, cp, l, rfl, ho, hp, hc, hl9, hcp, hcm, hS3, hS, bl, hnl⟩
  clear hc hcap
  have st1 := Kq.new bl o p c 24
  have hA1 := (hS.below ((Below.refl w1.heap.size w1).alloc (Nat.le_refl _) (.cells #[.int .i64 o, .int .i64 p, .int .i64 c] 24))).more (show w1.heap.size ≤ (w1.alloc (.cells #[.int .i64 o, .int .i64 p, .int .i64 c] 24)).heap.size by simp)
  have r10 := st1.here.c0
  have r11 := st1.here.c1
  have r12 := st1.here.c2
  obtain ⟨X1, X2, X3, k, KS, KI, KF⟩ := both_runs o p c l
  have HS := Lib.hid KS
  have HI := Lib.hid KI
  have HF := Lib.hid KF
  clear KS KI KF hS bl
  rcases hk : k with _ | _
  · subst hk
    go_wp2_with fail
    refine (HI.out _ _ _ _ _ hA1 (Nat.le_refl _)).mono ?_
    rintro e w2 ⟨rfl, b2⟩
    have bb2 := b2.alloc b2.size (.cells #[.int .i64 X1, .int .i64 X2, .int .i64 X3] 24)
    have st2 := st1.b bb2
    have hA2 := (hA1.below bb2).more bb2.size
    have d2 := C3.new w2 X1 X2 X3 24
    have r20 := st2.here.c0
    have r21 := st2.here.c1
    have r22 := st2.here.c2
    clear st1 hA1 b2 bb2 r10 r11 r12
    go_wp2_with fail
    refine (HS.out _ _ _ _ _ hA2 (Nat.le_refl _)).mono ?_
    rintro e w3 ⟨rfl, b3⟩
    have bb3 := b3.alloc b3.size (.cells #[.int .i64 X1, .int .i64 X2, .int .i64 X3] 24)
    have st3 := st2.b bb3
    have hA3 := (hA2.below bb3).more bb3.size
    have d3 := d2.b bb3
    have e3 := C3.new w3 X1 X2 X3 24
    have r30 := st3.here.c0
    have r31 := st3.here.c1
    have r32 := st3.here.c2
    have d30 := d3.c0
    have d31 := d3.c1
    have d32 := d3.c2
    have e30 := e3.c0
    have e31 := e3.c1
    have e32 := e3.c2
    have ld := d2.lt
    have ld3 := b3.size
    clear st2 hA2 b3 bb3 d2 e3 r20 r21 r22
    go_wp2
    go_ret
    exact ⟨ret_bool (by first | rfl | simp), st3.bel⟩
  · subst hk
    have hl := hA1.1
    obtain ⟨hok, hrs⟩ := HF.out rfl
    have hrk := (K.rok_of hok).2
    have hvd := K.rs_vc (K.rok_of hok).1.1 l.length hrk
    rw [hrs] at hvd
    have k6 := fun w' => vc_impl X1 X2 X3 w'
    simp only [hvd] at k6
    have K6 := Lib.hid k6
    have HRS := Lib.hid (And.intro hrs hrk)
    clear k6 hvd hrs hrk hok hnl
    go_wp2_with fail
    refine (HI.out _ _ _ _ _ hA1 (Nat.le_refl _)).mono ?_
    rintro e w2 ⟨rfl, b2⟩
    have bb2 := b2.alloc b2.size (.cells #[.int .i64 X1, .int .i64 X2, .int .i64 X3] 24)
    have st2 := st1.b bb2
    have hA2 := (hA1.below bb2).more bb2.size
    have d2 := C3.new w2 X1 X2 X3 24
    have r20 := st2.here.c0
    have r21 := st2.here.c1
    have r22 := st2.here.c2
    clear st1 hA1 b2 bb2 r10 r11 r12
    go_wp2_with fail
    refine (HS.out _ _ _ _ _ hA2 (Nat.le_refl _)).mono ?_
    rintro e w3 ⟨rfl, b3⟩
    have bb3 := b3.alloc b3.size (.cells #[.int .i64 X1, .int .i64 X2, .int .i64 X3] 24)
    have st3 := st2.b bb3
    have hA3 := (hA2.below bb3).more bb3.size
    have d3 := d2.b bb3
    have e3 := C3.new w3 X1 X2 X3 24
    have r30 := st3.here.c0
    have r31 := st3.here.c1
    have r32 := st3.here.c2
    have d30 := d3.c0
    have d31 := d3.c1
    have d32 := d3.c2
    have e30 := e3.c0
    have e31 := e3.c1
    have e32 := e3.c2
    have ld := d2.lt
    have ld3 := b3.size
    clear st2 hA2 b3 bb3 d2 e3 r20 r21 r22
    have hlD := st3.here.lt
    go_upto_region 9 with (fail)
    have hsz : (w3.alloc (Obj.cells #[.int .i64 X1, .int .i64 X2, .int .i64 X3] 24)).heap.size = w3.heap.size + 1 := by simp
    have hd3 := d3.lt
    have hw3 := st3.bel.size
    have cE := C3.new (w3.alloc (Obj.cells #[.int .i64 X1, .int .i64 X2, .int .i64 X3] 24)) o p c 24
    have G0 : Ge w ((w3.alloc (Obj.cells #[.int .i64 X1, .int .i64 X2, .int .i64 X3] 24)).alloc (Obj.cells #[.int .i64 o, .int .i64 p, .int .i64 c] 24)) (w3.alloc (Obj.cells #[.int .i64 X1, .int .i64 X2, .int .i64 X3] 24)).heap.size o p c w2.heap.size X1 X2 X3 := ⟨cE, by simp, by simp, by simp, d3.al _, by omega, by omega, st3.bel.alloc hw3 _⟩
    have hS0 : Sms (w3.alloc (Obj.cells #[.int .i64 X1, .int .i64 X2, .int .i64 X3] 24)).heap.size ((w3.alloc (Obj.cells #[.int .i64 X1, .int .i64 X2, .int .i64 X3] 24)).alloc (Obj.cells #[.int .i64 o, .int .i64 p, .int .i64 c] 24)) ad l.length l := hA3.below ((Below.refl _ _).alloc (Nat.le_refl _) _)
    rw [hsz] at G0 hS0
    have hB00 : w3.heap.size + 1 ≤ ((w3.alloc (Obj.cells #[.int .i64 X1, .int .i64 X2, .int .i64 X3] 24)).alloc (Obj.cells #[.int .i64 o, .int .i64 p, .int .i64 c] 24)).heap.size := by simp
    clear cE hd3 hw3 hsz hA3 st3 d3 r30 r31 r32 d30 d31 d32 e30 e31 e32 ld ld3 hlD
    generalize (w3.alloc (Obj.cells #[.int .i64 X1, .int .i64 X2, .int .i64 X3] 24)).alloc (Obj.cells #[.int .i64 o, .int .i64 p, .int .i64 c] 24) = WL at *
    generalize w1.heap.size = D1 at *
    generalize w2.heap.size = D at *
    generalize hEE : w3.heap.size + 1 = E at *
    clear hEE
    have hl9' : l.length ≤ 9 := hl9
    go_wp2_with fail
    go_loopw [10] (fun z wr => ∃ (i : Nat) (A1 A2 A3 : Int), i ≤ l.length ∧ z = .int .i64 i ∧ K.rs (o, p, c) l i = (A1, A2, A3) ∧ Ge w wr E A1 A2 A3 D X1 X2 X3 ∧ Sms E wr ad l.length l ∧ E ≤ wr.heap.size) (fun z _ => l.length - (intOf z).toNat)
    case atStart => exact ⟨0, o, p, c, Nat.zero_le _, rfl, rfl, G0, hS0, hB00⟩
    case round =>
      obtain ⟨i, A1, A2, A3, hi, rfl, hA, G, hS, hB0⟩ := hrel
      clear G0 hS0 hB00
      by_cases hlt : i < l.length
      · obtain ⟨b, off, rfl, hbB, hc⟩ := hS.at_ i hlt
        obtain ⟨q0, q1, q2⟩ := hc i hlt
        have hsk := HRS.out.2 i hlt
        unfold K.sk at hsk
        rw [hA] at hsk
        obtain ⟨Y1, Y2, Y3, hY⟩ : ∃ Y1 Y2 Y3 : Int, K.rs (o, p, c) l (i + 1) = (Y1, Y2, Y3) := ⟨_, _, _, rfl⟩
        have HY := Lib.hid hY
        have hY' : (K.so A1 A2 A3 (Q.tm l i) (Q.of l i), K.sr A1 A2 A3 (Q.tm l i) (Q.of l i), K.st A1 A2 A3 (Q.tm l i) (Q.of l i)) = (Y1, Y2, Y3) := by
          rw [← hY]
          show _ = (K.so _ _ _ _ _, K.sr _ _ _ _ _, K.st _ _ _ _ _)
          rw [hA]
        simp only [Prod.mk.injEq] at hY'
        have k3 := fun w' => SC_impl A1 A2 A3 (Q.tm l i) (Q.of l i) w'
        simp only [hsk, hY'.1, hY'.2.1, hY'.2.2] at k3
        have K3 := Lib.hid k3
        clear k3 hsk hY hY' hA hc q1
        have HR : Rdz wr.drew E A1 A2 A3 b (off + i * 3) (Q.of l i) (Q.tm l i) := ⟨G.drew.e.c0, G.drew.e.c1, G.drew.e.c2, q0, q2⟩
        have r0 := G.e.c0
        have r1 := G.e.c1
        have r2 := G.e.c2
        clear r0 r1 r2
        go_wp2_with fail
        refine wp_region_held_drew (S := (fun w' => w'.cell? ⟨E, 0, none⟩ = some (.int .i64 A1) ∧ w'.cell? ⟨E, 1, none⟩ = some (.int .i64 A2) ∧ w'.cell? ⟨E, 2, none⟩ = some (.int .i64 A3) ∧ w'.cell? ⟨b, off + i * 3, none⟩ = some (.int .i64 (Q.of l i)) ∧ w'.cell? ⟨b, off + i * 3 + 2, none⟩ = some (.int .i64 (Q.tm l i)))) (by kernel_rfl) (HR) (fun hHeld => ?_)
        have G := G.drew
        replace hS : Sms E wr.drew _ _ _ := hS
        replace hB0 : E ≤ wr.drew.heap.size := hB0
        have hlE := G.e.lt
        have hlb : b < wr.drew.heap.size := by omega
        generalize wr.drew = V at *
        refine wpAnyH_take (i := 0) (v := ?_) rfl (by kernel_rfl) (by kernel_rfl) (by kernel_rfl) (fun _ _ _ h => h) (Or.inl ⟨by rfl, ?_⟩) (by assumption) ?_
        rotate_left
        · intro w hSw
          (try dsimp only at hSw)
          go_simp
          all_goals with_reducible rfl
        try simp only [Act.put, List.setIfInBounds_toArray, List.set_cons_zero, List.set_cons_succ, List.getElem_toArray, List.getElem_cons_zero]
        refine wpAnyH_take (i := 1) (v := ?_) rfl (by kernel_rfl) (by kernel_rfl) (by kernel_rfl) (fun _ _ _ h => h) (Or.inl ⟨by rfl, ?_⟩) (by assumption) ?_
        rotate_left
        · intro w hSw
          (try dsimp only at hSw)
          go_simp
          all_goals with_reducible rfl
        try simp only [Act.put, List.setIfInBounds_toArray, List.set_cons_zero, List.set_cons_succ, List.getElem_toArray, List.getElem_cons_zero, List.getElem_cons_succ]
        refine wpAnyH_take (i := 2) (v := ?_) rfl (by kernel_rfl) (by kernel_rfl) (by kernel_rfl) (fun _ _ _ h => h) (Or.inl ⟨by rfl, ?_⟩) (by assumption) ?_
        rotate_left
        · intro w hSw
          (try dsimp only at hSw)
          go_simp
          all_goals with_reducible rfl
        try simp only [Act.put, List.setIfInBounds_toArray, List.set_cons_zero, List.set_cons_succ, List.getElem_toArray, List.getElem_cons_zero, List.getElem_cons_succ]
        refine wpAnyH_take (i := 3) (v := ?_) rfl (by kernel_rfl) (by kernel_rfl) (by kernel_rfl) (fun _ _ _ h => h) (Or.inl ⟨by rfl, ?_⟩) (by assumption) ?_
        rotate_left
        · intro w hSw
          (try dsimp only at hSw)
          go_simp
          all_goals with_reducible rfl
        try simp only [Act.put, List.setIfInBounds_toArray, List.set_cons_zero, List.set_cons_succ, List.getElem_toArray, List.getElem_cons_zero, List.getElem_cons_succ]
        refine wpAnyH_take (i := 4) (v := ?_) rfl (by kernel_rfl) (by kernel_rfl) (by kernel_rfl) (fun _ _ _ h => h) (Or.inl ⟨by rfl, ?_⟩) (by assumption) ?_
        rotate_left
        · intro w hSw
          (try dsimp only at hSw)
          go_simp
          all_goals with_reducible rfl
        try simp only [Act.put, List.setIfInBounds_toArray, List.set_cons_zero, List.set_cons_succ, List.getElem_toArray, List.getElem_cons_zero, List.getElem_cons_succ]
        refine wpAnyH_take (i := 5) (v := ?_) rfl (by kernel_rfl) (by kernel_rfl) (by kernel_rfl) (fun _ _ _ h => h) (Or.inl ⟨by rfl, ?_⟩) (by assumption) ?_
        rotate_left
        · intro w hSw
          (try dsimp only at hSw)
          go_simp
          all_goals with_reducible rfl
        try simp only [Act.put, List.setIfInBounds_toArray, List.set_cons_zero, List.set_cons_succ, List.getElem_toArray, List.getElem_cons_zero, List.getElem_cons_succ]
        refine wpAnyH_take (i := 6) (v := ?_) rfl (by kernel_rfl) (by kernel_rfl) (by kernel_rfl) (fun _ _ _ h => h) (Or.inl ⟨by rfl, ?_⟩) (by assumption) ?_
        rotate_left
        · intro w hSw
          (try dsimp only at hSw)
          go_simp
          all_goals with_reducible rfl
        try simp only [Act.put, List.setIfInBounds_toArray, List.set_cons_zero, List.set_cons_succ, List.getElem_toArray, List.getElem_cons_zero, List.getElem_cons_succ]
        refine wpAnyH_take (i := 7) (v := ?_) rfl (by kernel_rfl) (by kernel_rfl) (by kernel_rfl) (fun _ _ _ h => h) (Or.inl ⟨by rfl, ?_⟩) (by assumption) ?_
        rotate_left
        · intro w hSw
          (try dsimp only at hSw)
          go_simp
          all_goals with_reducible rfl
        try simp only [Act.put, List.setIfInBounds_toArray, List.set_cons_zero, List.set_cons_succ, List.getElem_toArray, List.getElem_cons_zero, List.getElem_cons_succ]
        refine wpAnyH_take (i := 8) (v := ?_) rfl (by kernel_rfl) (by kernel_rfl) (by kernel_rfl) (fun _ _ _ h => h) (Or.inl ⟨by rfl, ?_⟩) (by assumption) ?_
        rotate_left
        · intro w hSw
          (try dsimp only at hSw)
          go_simp
          all_goals with_reducible rfl
        try simp only [Act.put, List.setIfInBounds_toArray, List.set_cons_zero, List.set_cons_succ, List.getElem_toArray, List.getElem_cons_zero, List.getElem_cons_succ]
        refine wpAnyH_take (i := 9) (v := ?_) rfl (by kernel_rfl) (by kernel_rfl) (by kernel_rfl) (fun _ _ _ h => h) (Or.inl ⟨by rfl, ?_⟩) (by assumption) ?_
        rotate_left
        · intro w hSw
          (try dsimp only at hSw)
          go_simp
          all_goals with_reducible rfl
        try simp only [Act.put, List.setIfInBounds_toArray, List.set_cons_zero, List.set_cons_succ, List.getElem_toArray, List.getElem_cons_zero, List.getElem_cons_succ]
        refine wpAnyH_take (i := 10) (v := ?_) rfl (by kernel_rfl) (by kernel_rfl) (by kernel_rfl) (fun _ _ _ h => h) (Or.inl ⟨by rfl, ?_⟩) (by assumption) ?_
        rotate_left
        · intro w hSw
          (try dsimp only at hSw)
          go_simp
          all_goals with_reducible rfl
        try simp only [Act.put, List.setIfInBounds_toArray, List.set_cons_zero, List.set_cons_succ, List.getElem_toArray, List.getElem_cons_zero, List.getElem_cons_succ]
        refine wpAnyH_ready (rs := [11, 15]) (by kernel_rfl) (by simp) ?_
        refine AllReadyH.cons rfl (fun K hK => ?_) (AllReadyH.cons rfl (fun K hK => ?_) AllReadyH.nil)
        · go_simp
          (go_at_call 19; refine (K3.out _).mono ?_; rintro e w5 ⟨rfl, b5⟩)
          refine hK.out _ _ (HR.b hlE hlb b5) (fun hHeld => ?_)
          clear hK K
          try simp only [Act.put, List.setIfInBounds_toArray, List.set_cons_zero, List.set_cons_succ, List.getElem_toArray, List.getElem_cons_zero, List.getElem_cons_succ]
          refine wpAnyH_take (i := 12) (v := ?_) rfl (by kernel_rfl) (by kernel_rfl) (by kernel_rfl) (fun _ _ _ h => h) (Or.inl ⟨by rfl, ?_⟩) (by assumption) ?_
          rotate_left
          · intro w hSw
            (try dsimp only at hSw)
            go_simp
            all_goals with_reducible rfl
          try simp only [Act.put, List.setIfInBounds_toArray, List.set_cons_zero, List.set_cons_succ, List.getElem_toArray, List.getElem_cons_zero, List.getElem_cons_succ]
          refine wpAnyH_take (i := 13) (v := ?_) rfl (by kernel_rfl) (by kernel_rfl) (by kernel_rfl) (fun _ _ _ h => h) (Or.inl ⟨by rfl, ?_⟩) (by assumption) ?_
          rotate_left
          · intro w hSw
            (try dsimp only at hSw)
            go_simp
            all_goals with_reducible rfl
          try simp only [Act.put, List.setIfInBounds_toArray, List.set_cons_zero, List.set_cons_succ, List.getElem_toArray, List.getElem_cons_zero, List.getElem_cons_succ]
          refine wpAnyH_take (i := 14) (v := ?_) rfl (by kernel_rfl) (by kernel_rfl) (by kernel_rfl) (fun _ _ _ h => h) (Or.inl ⟨by rfl, ?_⟩) (by assumption) ?_
          rotate_left
          · intro w hSw
            (try dsimp only at hSw)
            go_simp
            all_goals with_reducible rfl
          try simp only [Act.put, List.setIfInBounds_toArray, List.set_cons_zero, List.set_cons_succ, List.getElem_toArray, List.getElem_cons_zero, List.getElem_cons_succ]
          have e0 : (w5.alloc (.cells #[.int .i64 0, .int .i64 0, .int .i64 0] 24)).cell? ⟨w5.heap.size, 0, none⟩ = some (.int .i64 0) := by simp
          have e1 : (w5.alloc (.cells #[.int .i64 0, .int .i64 0, .int .i64 0] 24)).cell? ⟨w5.heap.size, 1, none⟩ = some (.int .i64 0) := by simp
          have e2 : (w5.alloc (.cells #[.int .i64 0, .int .i64 0, .int .i64 0] 24)).cell? ⟨w5.heap.size, 2, none⟩ = some (.int .i64 0) := by simp
          have h0 : (w5.alloc (.cells #[.int .i64 0, .int .i64 0, .int .i64 0] 24)).frozen? ⟨w5.heap.size, 0, none⟩ = false := by simp
          have h1 : (w5.alloc (.cells #[.int .i64 0, .int .i64 0, .int .i64 0] 24)).frozen? ⟨w5.heap.size, 1, none⟩ = false := by simp
          have h2 : (w5.alloc (.cells #[.int .i64 0, .int .i64 0, .int .i64 0] 24)).frozen? ⟨w5.heap.size, 2, none⟩ = false := by simp
          have bX := b5.alloc b5.size (.cells #[.int .i64 0, .int .i64 0, .int .i64 0] 24)
          have hE := b5.size
          refine wpAnyH_ready (rs := [15]) (by kernel_rfl) (by simp) ?_
          refine AllReadyH.cons rfl (fun K hK => ?_) AllReadyH.nil
          go_simp
          skip
          refine hK.out _ _ (HR.b hlE hlb bX) (fun hHeld => ?_)
          clear hK K
          try simp only [Act.put, List.setIfInBounds_toArray, List.set_cons_zero, List.set_cons_succ, List.getElem_toArray, List.getElem_cons_zero, List.getElem_cons_succ]
          clear b5
          generalize w5.alloc (.cells #[.int .i64 0, .int .i64 0, .int .i64 0] 24) = X5 at *
          generalize w5.heap.size = F at *
          obtain ⟨v0, v1, v2, vo, vf⟩ := set3 (x := (.int .i64 Y1)) (y := (.int .i64 Y2)) (z := (.int .i64 Y3)) e0 e1 e2
          have bF := ((bX.setCell (p := ⟨F, 0, none⟩) hE (.int .i64 Y1)).setCell (p := ⟨F, 1, none⟩) hE (.int .i64 Y2)).setCell (p := ⟨F, 2, none⟩) hE (.int .i64 Y3)
          refine wpAnyH_ready (rs := [16]) (by kernel_rfl) (by simp) ?_
          refine AllReadyH.cons rfl (fun K hK => ?_) AllReadyH.nil
          go_simp
          skip
          refine hK.out _ _ (HR.b hlE hlb bF) (fun hHeld => ?_)
          clear hK K
          try simp only [Act.put, List.setIfInBounds_toArray, List.set_cons_zero, List.set_cons_succ, List.getElem_toArray, List.getElem_cons_zero, List.getElem_cons_succ]
          refine wpAnyH_take (i := 17) (v := ?_) rfl (by kernel_rfl) (by kernel_rfl) (by kernel_rfl) (fun _ _ _ h => h) (Or.inl ⟨by rfl, ?_⟩) (by assumption) ?_
          rotate_left
          · intro w hSw
            (try dsimp only at hSw)
            go_simp
            all_goals with_reducible rfl
          try simp only [Act.put, List.setIfInBounds_toArray, List.set_cons_zero, List.set_cons_succ, List.getElem_toArray, List.getElem_cons_zero, List.getElem_cons_succ]
          refine wpAnyH_done (by kernel_rfl) ?_ _
          clear hHeld e0 e1 e2 h0 h1 h2 vo vf bX
          generalize ((X5.setCell ⟨F, 0, none⟩ (.int .i64 Y1)).setCell ⟨F, 1, none⟩ (.int .i64 Y2)).setCell ⟨F, 2, none⟩ (.int .i64 Y3) = WX at *
          have GX := G.b bF
          have SX := Sms.keepB hS hB0 bF
          have g0 := GX.e.c0
          have g1 := GX.e.c1
          have g2 := GX.e.c2
          have k0 := GX.f0
          have k1 := GX.f1
          have k2 := GX.f2
          have HG := Lib.hid (GX.set Y1 Y2 Y3)
          have bS := (((Below.refl E WX).setCell (p := ⟨E, 0, none⟩) (show E ≤ E by omega) (.int .i64 Y1)).setCell (p := ⟨E, 1, none⟩) (show E ≤ E by omega) (.int .i64 Y2)).setCell (p := ⟨E, 2, none⟩) (show E ≤ E by omega) (.int .i64 Y3)
          have HS2 := Lib.hid (SX.below bS)
          have hBX : Hid (E ≤ (((WX.setCell ⟨E, 0, none⟩ (.int .i64 Y1)).setCell ⟨E, 1, none⟩ (.int .i64 Y2)).setCell ⟨E, 2, none⟩ (.int .i64 Y3)).heap.size) := Lib.hid (by have := bF.size; simp; omega)
          clear G GX hS SX bF HR bS
          go_wp2
          go_roundw
          case rel => exact ⟨i + 1, Y1, Y2, Y3, by omega, by go_num, HY.out, HG.out, HS2.out, hBX.out⟩
          case measure => simp [intOf]; omega
        · go_simp
          have bZ := (Below.refl V.heap.size V).alloc (Nat.le_refl _) (.cells #[.int .i64 0, .int .i64 0, .int .i64 0] 24)
          refine hK.out _ _ (HR.b hlE hlb bZ) (fun hHeld => ?_)
          clear hK K
          try simp only [Act.put, List.setIfInBounds_toArray, List.set_cons_zero, List.set_cons_succ, List.getElem_toArray, List.getElem_cons_zero, List.getElem_cons_succ]
          have hSz : V.heap.size < (V.alloc (.cells #[.int .i64 0, .int .i64 0, .int .i64 0] 24)).heap.size := by simp
          have c0 : (V.alloc (.cells #[.int .i64 0, .int .i64 0, .int .i64 0] 24)).cell? ⟨V.heap.size, 0, none⟩ = some (.int .i64 0) := by simp
          have c1 : (V.alloc (.cells #[.int .i64 0, .int .i64 0, .int .i64 0] 24)).cell? ⟨V.heap.size, 1, none⟩ = some (.int .i64 0) := by simp
          have c2 : (V.alloc (.cells #[.int .i64 0, .int .i64 0, .int .i64 0] 24)).cell? ⟨V.heap.size, 2, none⟩ = some (.int .i64 0) := by simp
          have f0 : (V.alloc (.cells #[.int .i64 0, .int .i64 0, .int .i64 0] 24)).frozen? ⟨V.heap.size, 0, none⟩ = false := by simp
          have f1 : (V.alloc (.cells #[.int .i64 0, .int .i64 0, .int .i64 0] 24)).frozen? ⟨V.heap.size, 1, none⟩ = false := by simp
          have f2 : (V.alloc (.cells #[.int .i64 0, .int .i64 0, .int .i64 0] 24)).frozen? ⟨V.heap.size, 2, none⟩ = false := by simp
          refine wpAnyH_ready (rs := [11]) (by kernel_rfl) (by simp) ?_
          refine AllReadyH.cons rfl (fun K hK => ?_) AllReadyH.nil
          go_simp
          (go_at_call 19; refine (K3.out _).mono ?_; rintro e w5 ⟨rfl, b5⟩)
          refine hK.out _ _ (HR.b hlE hlb (bZ.trans (b5.mono bZ.size))) (fun hHeld => ?_)
          clear hK K
          try simp only [Act.put, List.setIfInBounds_toArray, List.set_cons_zero, List.set_cons_succ, List.getElem_toArray, List.getElem_cons_zero, List.getElem_cons_succ]
          have e0 := (b5.cell (p := ⟨V.heap.size, 0, none⟩) hSz).trans c0
          have e1 := (b5.cell (p := ⟨V.heap.size, 1, none⟩) hSz).trans c1
          have e2 := (b5.cell (p := ⟨V.heap.size, 2, none⟩) hSz).trans c2
          have h0 := (b5.frozen (p := ⟨V.heap.size, 0, none⟩) hSz).trans f0
          have h1 := (b5.frozen (p := ⟨V.heap.size, 1, none⟩) hSz).trans f1
          have h2 := (b5.frozen (p := ⟨V.heap.size, 2, none⟩) hSz).trans f2
          have bX := bZ.trans (b5.mono bZ.size)
          clear c0 c1 c2 f0 f1 f2 b5 bZ hSz
          refine wpAnyH_take (i := 12) (v := ?_) rfl (by kernel_rfl) (by kernel_rfl) (by kernel_rfl) (fun _ _ _ h => h) (Or.inl ⟨by rfl, ?_⟩) (by assumption) ?_
          rotate_left
          · intro w hSw
            (try dsimp only at hSw)
            go_simp
            all_goals with_reducible rfl
          try simp only [Act.put, List.setIfInBounds_toArray, List.set_cons_zero, List.set_cons_succ, List.getElem_toArray, List.getElem_cons_zero, List.getElem_cons_succ]
          refine wpAnyH_take (i := 13) (v := ?_) rfl (by kernel_rfl) (by kernel_rfl) (by kernel_rfl) (fun _ _ _ h => h) (Or.inl ⟨by rfl, ?_⟩) (by assumption) ?_
          rotate_left
          · intro w hSw
            (try dsimp only at hSw)
            go_simp
            all_goals with_reducible rfl
          try simp only [Act.put, List.setIfInBounds_toArray, List.set_cons_zero, List.set_cons_succ, List.getElem_toArray, List.getElem_cons_zero, List.getElem_cons_succ]
          refine wpAnyH_take (i := 14) (v := ?_) rfl (by kernel_rfl) (by kernel_rfl) (by kernel_rfl) (fun _ _ _ h => h) (Or.inl ⟨by rfl, ?_⟩) (by assumption) ?_
          rotate_left
          · intro w hSw
            (try dsimp only at hSw)
            go_simp
            all_goals with_reducible rfl
          try simp only [Act.put, List.setIfInBounds_toArray, List.set_cons_zero, List.set_cons_succ, List.getElem_toArray, List.getElem_cons_zero, List.getElem_cons_succ]
          generalize hEE : V.heap.size = F at e0 e1 e2 h0 h1 h2 ⊢
          have hE : V.heap.size ≤ F := by omega
          clear hEE
          generalize w5 = X5 at *
          obtain ⟨v0, v1, v2, vo, vf⟩ := set3 (x := (.int .i64 Y1)) (y := (.int .i64 Y2)) (z := (.int .i64 Y3)) e0 e1 e2
          have bF := ((bX.setCell (p := ⟨F, 0, none⟩) hE (.int .i64 Y1)).setCell (p := ⟨F, 1, none⟩) hE (.int .i64 Y2)).setCell (p := ⟨F, 2, none⟩) hE (.int .i64 Y3)
          refine wpAnyH_ready (rs := [16]) (by kernel_rfl) (by simp) ?_
          refine AllReadyH.cons rfl (fun K hK => ?_) AllReadyH.nil
          go_simp
          skip
          refine hK.out _ _ (HR.b hlE hlb bF) (fun hHeld => ?_)
          clear hK K
          try simp only [Act.put, List.setIfInBounds_toArray, List.set_cons_zero, List.set_cons_succ, List.getElem_toArray, List.getElem_cons_zero, List.getElem_cons_succ]
          refine wpAnyH_take (i := 17) (v := ?_) rfl (by kernel_rfl) (by kernel_rfl) (by kernel_rfl) (fun _ _ _ h => h) (Or.inl ⟨by rfl, ?_⟩) (by assumption) ?_
          rotate_left
          · intro w hSw
            (try dsimp only at hSw)
            go_simp
            all_goals with_reducible rfl
          try simp only [Act.put, List.setIfInBounds_toArray, List.set_cons_zero, List.set_cons_succ, List.getElem_toArray, List.getElem_cons_zero, List.getElem_cons_succ]
          refine wpAnyH_done (by kernel_rfl) ?_ _
          clear hHeld e0 e1 e2 h0 h1 h2 vo vf bX
          generalize ((X5.setCell ⟨F, 0, none⟩ (.int .i64 Y1)).setCell ⟨F, 1, none⟩ (.int .i64 Y2)).setCell ⟨F, 2, none⟩ (.int .i64 Y3) = WX at *
          have GX := G.b bF
          have SX := Sms.keepB hS hB0 bF
          have g0 := GX.e.c0
          have g1 := GX.e.c1
          have g2 := GX.e.c2
          have k0 := GX.f0
          have k1 := GX.f1
          have k2 := GX.f2
          have HG := Lib.hid (GX.set Y1 Y2 Y3)
          have bS := (((Below.refl E WX).setCell (p := ⟨E, 0, none⟩) (show E ≤ E by omega) (.int .i64 Y1)).setCell (p := ⟨E, 1, none⟩) (show E ≤ E by omega) (.int .i64 Y2)).setCell (p := ⟨E, 2, none⟩) (show E ≤ E by omega) (.int .i64 Y3)
          have HS2 := Lib.hid (SX.below bS)
          have hBX : Hid (E ≤ (((WX.setCell ⟨E, 0, none⟩ (.int .i64 Y1)).setCell ⟨E, 1, none⟩ (.int .i64 Y2)).setCell ⟨E, 2, none⟩ (.int .i64 Y3)).heap.size) := Lib.hid (by have := bF.size; simp; omega)
          clear G GX hS SX bF HR bS
          go_wp2
          go_roundw
          case rel => exact ⟨i + 1, Y1, Y2, Y3, by omega, by go_num, HY.out, HG.out, HS2.out, hBX.out⟩
          case measure => simp [intOf]; omega
      · obtain rfl : i = l.length := by omega
        have hX : (A1, A2, A3) = (X1, X2, X3) := by rw [← hA]; exact HRS.out.1
        simp only [Prod.mk.injEq] at hX
        obtain ⟨rfl, rfl, rfl⟩ := hX
        have g0 := G.e.c0
        have g1 := G.e.c1
        have g2 := G.e.c2
        have y0 := G.d.c0
        have y1 := G.d.c1
        have y2 := G.d.c2
        have hbel := G.bel
        have hbs := hbel.size
        clear hA G hS HI HS
        go_wp2_with fail
        refine (K6.out _).mono ?_
        rintro e w9 ⟨rfl, b9⟩
        have hfin := hbel.trans (b9.mono hbs)
        clear b9 hbel hbs g0 g1 g2 y0 y1 y2
        go_wp2
        go_ret
        exact ⟨ret_bool (by first | rfl | simp), hfin⟩

end Go.Proofs.Ytljdnncodgnpcaa.fnRunClock
