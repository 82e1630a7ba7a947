/-
  PROVED: FnExactRunPolls: for every input the law returns true, and the input reads as it did. The condition that the row lists: the table of rules (impl.pollRules) holds what the program lays in it; the given tie says that it does.
  The frame is as the kit prints it (proof-skeleton.mjs); the walk is mine.
-/
import Derived.Test.YthbfjmlkcgcgaaaDoorRows
import Derived.Test.YthbfjmlkcgcgaaaDoorRunL
import Derived.Test.YthbfjmlkcgcgaaaDoorDrawRun
import Derived.Test.YthbfjmlkcgcgaaaDoorCopy
import Derived.Test.YthbfjmlkcgcgaaaDoorDoor
import Derived.Test.YthbfjmlkcgcgaaaDoorTie
import Derived.Test.YthbfjmlkcgcgaaaDoorCards
import Derived.LaidMore
import Derived.OpenVars
import Derived.ChangeVars
import Derived.SevenTiedAt
import Derived.WalkKit
import Derived.ProofKit
import Derived.OpenShut
import Derived.ShutString
import Derived.ChangeOld
import Derived.Below
import Derived.Lib.SmallJoins
namespace Go.Proofs.YthbfjmlkcgcgaaaDoor.fnExactRunPolls
open Go.ChangeShapes Go.WideShapes Go.ChangeAt Go.RowKit Go.Joins
set_option linter.unusedVariables false

def IsRow (k : IntKind) (w : World) (a : Option Addr) (len cap : Nat) (zs : List Int) : Prop :=
  (a = none ∧ len = 0 ∧ cap = 0 ∧ zs = []) ∨
  ∃ x, a = some x ∧ len ≤ cap ∧ cap ≤ maxLen ∧ zs.length = cap ∧ (∀ i, i < zs.length → w.cell? (x.add i) = some (.int k (zs.getD i 0))) ∧ ∀ n ∈ zs, (Lit.int k n).wf = true
theorem own : ownKnob Tryd.prog.godebug = none := by kernel_rfl
theorem laidOut : laidOutB Tryd.prog = true := by kernel_rfl
theorem cells : Tryd.prog.cellsOf 37 = 2 := by kernel_rfl

set_option maxRecDepth 100000 in
set_option maxHeartbeats 4000000 in
theorem walk (a0 b0 : Int) (a1 : Option Addr) (len1 cap1 : Nat) (z1 : List Int) (a2 : Int) (w : World) (wa0 : (Lit.int .i64 a0).wf = true) (wb0 : (Lit.int .i64 b0).wf = true) (w1 : IsRow .i64 w a1 len1 cap1 z1) (w2 : (Lit.int .i64 a2).wf = true) (hg : Gl w) :
    Calls Tryd.prog 10 #[.agg #[.int .i64 a0, .int .i64 b0], .slice a1 len1 cap1, .int .i64 a2] w fun e w' => e = .returned (.bool true) ∧ Below w.heap.size w w' := by
  by_cases hl : 1048576 < len1
  · have hl' : (1048576 : Int) < (len1 : Int) := by omega
    clear w1 hl
    go_enter Tryd.func10, Tryd.ntmps10
    go_wp2
    go_ret
    exact ⟨rfl, (Below.refl _ _).alloc (Nat.le_refl _) _⟩
  have hl' : ¬ (1048576 : Int) < (len1 : Int) := by omega
  obtain ⟨l, hL⟩ := lst_of w1 (by omega)
  clear w1 hl
  have b1 := (Below.refl w.heap.size w).alloc (Nat.le_refl _) (.cells #[.int .i64 a0, .int .i64 b0] 37)
  have p1 := P2.new w a0 b0 37
  have g1 := hg.al (.cells #[.int .i64 a0, .int .i64 b0] 37)
  have l1 := (hL.below b1).more b1.size
  have KT := Lib.hid (fun w' => toPoll_any a0 b0 w')
  clear hg hL
  rcases hk : J.rk (a0, b0) l a2 with _ | _
  · have K1k := fun a' n' cp' w' (h' : Lst w'.heap.size w' a' n' l) (hg' : Gl w') => RPi_no a0 b0 a2 l hk a' n' cp' w' h' hg'
    have K1 := Lib.hid K1k
    clear K1k
    have K2k := fun a' n' cp' w' (h' : Lst w'.heap.size w' a' n' l) => RPs_no a0 b0 a2 l hk a' n' cp' w' h'
    have K2 := Lib.hid K2k
    clear K2k
    clear hk
    have KE := Lib.hid (fun w' => eqPoll_same 0 0 w')
    go_enter Tryd.func10, Tryd.ntmps10
    have pc0 := p1.c0
    have pc1 := p1.c1
    go_wp2_with fail
    refine (KT.out _).mono ?_
    rintro e w2 ⟨rfl, bb⟩
    clear pc0 pc1
    have p2 := p1.b bb
    have l2 := (l1.below bb).more bb.size
    have g2 := g1.b bb
    have b2 := b1.trans (bb.mono b1.size)
    clear p1 l1 g1 b1 bb
    go_wp2_with fail
    refine (toIntS_any len1 cap1 a1 l _ l2).mono ?_
    rintro e w3 ⟨rfl, x3, bb⟩
    try simp only [World.size_alloc] at x3
    have p3 := p2.b bb
    have l3 := (l2.below bb).more bb.size
    have g3 := g2.b bb
    have b3 := b2.trans (bb.mono b2.size)
    clear p2 l2 g2 b2 bb
    have s3 := x3
    clear x3
    go_wp2_with fail
    refine (K2.out _ _ _ _ s3).mono ?_
    rintro e w4 ⟨rfl, bb⟩
    have p4 := p3.b bb
    have l4 := (l3.below bb).more bb.size
    have s4 := (s3.below bb).more bb.size
    have g4 := g3.b bb
    have b4 := b3.trans (bb.mono b3.size)
    clear p3 l3 s3 g3 b3 bb
    replace p4 := p4.al (.cells #[.int .i64 0, .int .i64 0] 24)
    replace g4 := g4.al (.cells #[.int .i64 0, .int .i64 0] 24)
    replace l4 := (l4.below ((Below.refl _ _).alloc (Nat.le_refl _) (.cells #[.int .i64 0, .int .i64 0] 24))).more (show w4.heap.size ≤ (w4.alloc (.cells #[.int .i64 0, .int .i64 0] 24)).heap.size by simp)
    replace s4 := (s4.below ((Below.refl _ _).alloc (Nat.le_refl _) (.cells #[.int .i64 0, .int .i64 0] 24))).more (show w4.heap.size ≤ (w4.alloc (.cells #[.int .i64 0, .int .i64 0] 24)).heap.size by simp)
    replace b4 := b4.alloc b4.size (.cells #[.int .i64 0, .int .i64 0] 24)
    have r4 := P2.new w4 0 0 24
    clear s4
    go_wp2_with fail
    refine (toIntS_any len1 cap1 a1 l _ l4).mono ?_
    rintro e w5 ⟨rfl, x5, bb⟩
    try simp only [World.size_alloc] at x5
    have p5 := p4.b bb
    have r5 := r4.b bb
    have l5 := (l4.below bb).more bb.size
    have g5 := g4.b bb
    have b5 := b4.trans (bb.mono b4.size)
    clear p4 r4 l4 g4 b4 bb
    have u5 := x5
    clear x5
    have pc0 := p5.c0
    have pc1 := p5.c1
    go_wp2_with fail
    refine (KT.out _).mono ?_
    rintro e w6 ⟨rfl, bb⟩
    clear pc0 pc1
    have p6 := p5.b bb
    have r6 := r5.b bb
    have l6 := (l5.below bb).more bb.size
    have u6 := (u5.below bb).more bb.size
    have g6 := g5.b bb
    have b6 := b5.trans (bb.mono b5.size)
    clear p5 r5 l5 u5 g5 b5 bb
    go_wp2_with fail
    refine (K1.out _ _ _ _ u6 g6).mono ?_
    rintro e w7 ⟨rfl, bb⟩
    have p7 := p6.b bb
    have r7 := r6.b bb
    have l7 := (l6.below bb).more bb.size
    have u7 := (u6.below bb).more bb.size
    have g7 := g6.b bb
    have b7 := b6.trans (bb.mono b6.size)
    clear p6 r6 l6 u6 g6 b6 bb
    replace p7 := p7.al (.cells #[.int .i64 0, .int .i64 0] 24)
    replace r7 := r7.al (.cells #[.int .i64 0, .int .i64 0] 24)
    replace g7 := g7.al (.cells #[.int .i64 0, .int .i64 0] 24)
    replace l7 := (l7.below ((Below.refl _ _).alloc (Nat.le_refl _) (.cells #[.int .i64 0, .int .i64 0] 24))).more (show w7.heap.size ≤ (w7.alloc (.cells #[.int .i64 0, .int .i64 0] 24)).heap.size by simp)
    replace u7 := (u7.below ((Below.refl _ _).alloc (Nat.le_refl _) (.cells #[.int .i64 0, .int .i64 0] 24))).more (show w7.heap.size ≤ (w7.alloc (.cells #[.int .i64 0, .int .i64 0] 24)).heap.size by simp)
    replace b7 := b7.alloc b7.size (.cells #[.int .i64 0, .int .i64 0] 24)
    have q7 := P2.new w7 0 0 24
    have qc0 := q7.c0
    have qc1 := q7.c1
    have rc0 := r7.c0
    have rc1 := r7.c1
    go_wp2_with fail
    refine (KE.out _).mono ?_
    rintro e w8 ⟨rfl, bb⟩
    clear qc0 qc1 rc0 rc1
    have p8 := p7.b bb
    have r8 := r7.b bb
    have q8 := q7.b bb
    have l8 := (l7.below bb).more bb.size
    have u8 := (u7.below bb).more bb.size
    have g8 := g7.b bb
    have b8 := b7.trans (bb.mono b7.size)
    clear p7 r7 q7 l7 u7 g7 b7 bb
    clear q8
    clear r8
    go_wp2_with fail
    refine (toIntS_any len1 cap1 a1 l _ l8).mono ?_
    rintro e w9 ⟨rfl, x9, bb⟩
    try simp only [World.size_alloc] at x9
    have p9 := p8.b bb
    have l9 := (l8.below bb).more bb.size
    have u9 := (u8.below bb).more bb.size
    have g9 := g8.b bb
    have b9 := b8.trans (bb.mono b8.size)
    clear p8 l8 u8 g8 b8 bb
    have s9 := x9
    clear x9
    go_wp2_with fail
    refine (eqIntS_any len1 len1 len1 _ _ _ l _ u9 s9).mono ?_
    rintro e w' ⟨rfl, qq⟩
    have bb := b9.trans (qq.below)
    go_wp2
    go_ret
    exact ⟨ret_bool (by first | rfl | (simp; done) | simp_all), bb⟩
  · have K1k := fun a' n' cp' w' (h' : Lst w'.heap.size w' a' n' l) (hg' : Gl w') => RPi_yes a0 b0 a2 l hk a' n' cp' w' h' hg'
    have K1 := Lib.hid K1k
    clear K1k
    have K2k := fun a' n' cp' w' (h' : Lst w'.heap.size w' a' n' l) => RPs_yes a0 b0 a2 l hk a' n' cp' w' h'
    have K2 := Lib.hid K2k
    clear K2k
    clear hk
    generalize (J.rn (a0, b0) l a2 l.length).1 = x at *
    generalize (J.rn (a0, b0) l a2 l.length).2 = y at *
    generalize J.rt (a0, b0) l a2 l.length = t at *
    have KE := Lib.hid (fun w' => eqPoll_same x y w')
    go_enter Tryd.func10, Tryd.ntmps10
    have pc0 := p1.c0
    have pc1 := p1.c1
    go_wp2_with fail
    refine (KT.out _).mono ?_
    rintro e w2 ⟨rfl, bb⟩
    clear pc0 pc1
    have p2 := p1.b bb
    have l2 := (l1.below bb).more bb.size
    have g2 := g1.b bb
    have b2 := b1.trans (bb.mono b1.size)
    clear p1 l1 g1 b1 bb
    go_wp2_with fail
    refine (toIntS_any len1 cap1 a1 l _ l2).mono ?_
    rintro e w3 ⟨rfl, x3, bb⟩
    try simp only [World.size_alloc] at x3
    have p3 := p2.b bb
    have l3 := (l2.below bb).more bb.size
    have g3 := g2.b bb
    have b3 := b2.trans (bb.mono b2.size)
    clear p2 l2 g2 b2 bb
    have s3 := x3
    clear x3
    go_wp2_with fail
    refine (K2.out _ _ _ _ s3).mono ?_
    rintro e w4 ⟨rfl, bb⟩
    have p4 := p3.b bb
    have l4 := (l3.below bb).more bb.size
    have s4 := (s3.below bb).more bb.size
    have g4 := g3.b bb
    have b4 := b3.trans (bb.mono b3.size)
    clear p3 l3 s3 g3 b3 bb
    replace p4 := p4.al (.cells #[.int .i64 x, .int .i64 y] 24)
    replace g4 := g4.al (.cells #[.int .i64 x, .int .i64 y] 24)
    replace l4 := (l4.below ((Below.refl _ _).alloc (Nat.le_refl _) (.cells #[.int .i64 x, .int .i64 y] 24))).more (show w4.heap.size ≤ (w4.alloc (.cells #[.int .i64 x, .int .i64 y] 24)).heap.size by simp)
    replace s4 := (s4.below ((Below.refl _ _).alloc (Nat.le_refl _) (.cells #[.int .i64 x, .int .i64 y] 24))).more (show w4.heap.size ≤ (w4.alloc (.cells #[.int .i64 x, .int .i64 y] 24)).heap.size by simp)
    replace b4 := b4.alloc b4.size (.cells #[.int .i64 x, .int .i64 y] 24)
    have r4 := P2.new w4 x y 24
    clear s4
    go_wp2_with fail
    refine (toIntS_any len1 cap1 a1 l _ l4).mono ?_
    rintro e w5 ⟨rfl, x5, bb⟩
    try simp only [World.size_alloc] at x5
    have p5 := p4.b bb
    have r5 := r4.b bb
    have l5 := (l4.below bb).more bb.size
    have g5 := g4.b bb
    have b5 := b4.trans (bb.mono b4.size)
    clear p4 r4 l4 g4 b4 bb
    have u5 := x5
    clear x5
    have pc0 := p5.c0
    have pc1 := p5.c1
    go_wp2_with fail
    refine (KT.out _).mono ?_
    rintro e w6 ⟨rfl, bb⟩
    clear pc0 pc1
    have p6 := p5.b bb
    have r6 := r5.b bb
    have l6 := (l5.below bb).more bb.size
    have u6 := (u5.below bb).more bb.size
    have g6 := g5.b bb
    have b6 := b5.trans (bb.mono b5.size)
    clear p5 r5 l5 u5 g5 b5 bb
    go_wp2_with fail
    refine (K1.out _ _ _ _ u6 g6).mono ?_
    rintro e w7 ⟨rfl, bb⟩
    have p7 := p6.b bb
    have r7 := r6.b bb
    have l7 := (l6.below bb).more bb.size
    have u7 := (u6.below bb).more bb.size
    have g7 := g6.b bb
    have b7 := b6.trans (bb.mono b6.size)
    clear p6 r6 l6 u6 g6 b6 bb
    replace p7 := p7.al (.cells #[.int .i64 x, .int .i64 y] 24)
    replace r7 := r7.al (.cells #[.int .i64 x, .int .i64 y] 24)
    replace g7 := g7.al (.cells #[.int .i64 x, .int .i64 y] 24)
    replace l7 := (l7.below ((Below.refl _ _).alloc (Nat.le_refl _) (.cells #[.int .i64 x, .int .i64 y] 24))).more (show w7.heap.size ≤ (w7.alloc (.cells #[.int .i64 x, .int .i64 y] 24)).heap.size by simp)
    replace u7 := (u7.below ((Below.refl _ _).alloc (Nat.le_refl _) (.cells #[.int .i64 x, .int .i64 y] 24))).more (show w7.heap.size ≤ (w7.alloc (.cells #[.int .i64 x, .int .i64 y] 24)).heap.size by simp)
    replace b7 := b7.alloc b7.size (.cells #[.int .i64 x, .int .i64 y] 24)
    have q7 := P2.new w7 x y 24
    have qc0 := q7.c0
    have qc1 := q7.c1
    have rc0 := r7.c0
    have rc1 := r7.c1
    go_wp2_with fail
    refine (KE.out _).mono ?_
    rintro e w8 ⟨rfl, bb⟩
    clear qc0 qc1 rc0 rc1
    have p8 := p7.b bb
    have r8 := r7.b bb
    have q8 := q7.b bb
    have l8 := (l7.below bb).more bb.size
    have u8 := (u7.below bb).more bb.size
    have g8 := g7.b bb
    have b8 := b7.trans (bb.mono b7.size)
    clear p7 r7 q7 l7 u7 g7 b7 bb
    clear q8
    clear r8
    go_wp2_with fail
    refine (toIntS_any len1 cap1 a1 l _ l8).mono ?_
    rintro e w9 ⟨rfl, x9, bb⟩
    try simp only [World.size_alloc] at x9
    have p9 := p8.b bb
    have l9 := (l8.below bb).more bb.size
    have u9 := (u8.below bb).more bb.size
    have g9 := g8.b bb
    have b9 := b8.trans (bb.mono b8.size)
    clear p8 l8 u8 g8 b8 bb
    have s9 := x9
    clear x9
    go_wp2_with fail
    refine (eqIntS_any len1 len1 len1 _ _ _ l _ u9 s9).mono ?_
    rintro e w' ⟨rfl, qq⟩
    have bb := b9.trans (qq.below)
    go_wp2
    go_ret
    exact ⟨ret_bool (by first | rfl | (simp; done) | simp_all), bb⟩

/-! ### THE ROW -/
set_option maxRecDepth 100000 in
theorem lifted (os : Os) (started : os.Started) (H : Type) (enc : TypeId × Value → H) :
    ReturnsInHanded {} Tryd.checked os 10 .any (fun w args => (Rows.fnExactRunPollsSpec.pre enc Tryd.prog Tryd.f10 [] false w args ∧ laidMetH Tryd.prog laidL w) ∧ sizedMet enc Tryd.prog Tryd.f10 (OpenSpec.ofChange Rows.fnExactRunPollsSpec) false w args) (Rows.fnExactRunPollsSpec.post enc Tryd.prog Tryd.f10 false true false false) := by
  refine returnsInHanded_of_change_and (C := Tryd.checked) (X := fun w _ => laidMetH Tryd.prog laidL w) (fun _ _ _ hh h => h.of_heap hh) own started (by kernel_rfl) Tryd.func10
    (ChangeSpec.witness_shaped (enc := enc) (C := Tryd.checked) (os := os) (X := fun w _ => laidMetH Tryd.prog laidL w) false (World.doorLaid Tryd.prog 400 os) #[.agg #[.int .i64 0, .int .i64 0], .slice none 0 0, .int .i64 0] 8 rfl (World.shaped_of_RefB (by kernel_rfl) (by kernel_rfl)) (by kernel_rfl) (by kernel_rfl) (by kernel_rfl) (door_met os _)) ?_
  intro W base args ds gs before hval0 hW _ _ hL _
  have hval : ∀ (j : Nat) t v, Tryd.f10.params[j]? = some t → args[j]? = some v → Value.okWide Tryd.prog W .any base t v := hval0
  have hW' := hW
  obtain ⟨p, q, hA0, hV, rfl, hfz, hnd⟩ := hW
  have hA : DataW.TrodAll enc Tryd.prog W 0 (fun _ => true) true Tryd.f10.params.toList args.toList ds p := hA0
  rw [Tryd.params10] at hA hval
  obtain ⟨v0, vs0, d0, ds0, p0, q0, hargs, rfl, rfl, h0, r0⟩ := trodAll_cons hA
  obtain ⟨v1, vs1, d1, ds1, p1, q1, rfl, rfl, rfl, h1, r1⟩ := trodAll_cons r0
  obtain ⟨v2, vs2, d2, ds2, p2, q2, rfl, rfl, rfl, h2, r2⟩ := trodAll_cons r1
  obtain ⟨rfl, rfl, rfl⟩ := trodAll_nil r2
  obtain rfl : args = #[v0, v1, v2] := by cases args; simp_all
  have hVk : DataW.TrodVars enc Tryd.prog W (fun _ => true) [VN] gs q := hV
  obtain ⟨vg, vt, vcs, vf, vd, vp, rfl, vh1, vh2, vh3, vh4, rfl⟩ := trodVars_one (n := VN) hV
  obtain ⟨u0, u0_, y0, y0_, m0, rfl, rfl, rfl, hy0, hy0_⟩ := open_agg2 Tryd.underlying37 (by kernel_rfl) cells (hval 0 37 v0 rfl rfl) h0
  obtain ⟨a0, ea0, rfl, wa0⟩ := DataW.trod_int Tryd.underlying3 hy0
  obtain ⟨b0, eb0, rfl, wb0⟩ := DataW.trod_int Tryd.underlying3 hy0_
  simp at ea0 eb0
  subst ea0 eb0
  obtain ⟨a1, len1, cap1, rfl⟩ := okWide_slice Tryd.underlying32 (hval 1 32 v1 rfl rfl)
  have k1 := h1
  have lt1 : ∀ x ∈ p1, x.block < W.heap.size := by obtain ⟨m, hm⟩ := k1; exact DataW.trod_lt m _ _ _ hm
  obtain ⟨z1, w1⟩ : ∃ zs, IsRow .i64 W a1 len1 cap1 zs := by
    obtain ⟨fuel, hf⟩ := h1
    rcases open_ints Tryd.underlying32 Tryd.underlying3 (by kernel_rfl) hf with ⟨hcs, _⟩ | ⟨x, l, c, zs, hcs, _, hl, hm, hz, _, hcell, hwz⟩
    · simp [Value.cells] at hcs
      obtain ⟨rfl, rfl, rfl⟩ := hcs
      exact ⟨[], .inl ⟨rfl, rfl, rfl, rfl⟩⟩
    · simp [Value.cells] at hcs
      obtain ⟨rfl, rfl, rfl⟩ := hcs
      exact ⟨zs, .inr ⟨_, rfl, hl, hm, by simpa using hz, hcell, hwz⟩⟩
  obtain ⟨a2, rfl, rfl, rfl, w2⟩ := open_int Tryd.underlying3 (hval 2 3 v2 rfl rfl) h2
  have reads0 : ∀ (W' : World) (sp : Nat → Bool), DataW.Trod enc Tryd.prog W' 0 sp true 37 (.agg #[.int .i64 a0, .int .i64 b0]) (.agg [.lit (.int .i64 a0), .lit (.int .i64 b0)]) [] := fun W' sp =>
    shut_agg2 (y0 := (.lit (.int .i64 a0), [])) (y1 := (.lit (.int .i64 b0), [])) Tryd.underlying37 (by kernel_rfl) cells ⟨1, by simp [DataW.trod, Tryd.underlying3, wa0]⟩ ⟨1, by simp [DataW.trod, Tryd.underlying3, wb0]⟩
  clear hA0 hval0
  refine (walk a0 b0 a1 len1 cap1 z1 a2 W wa0 wb0 w1 w2 (of_laid hL)).mono fun e W' ⟨he, bel⟩ => ?_
  subst he
  exact ⟨_, rfl, _, _, _, [], _, _, hW', trodAll_mk1 (shut_bool Tryd.underlying4 _), (trodAll_cons_mk (reads0 _ _) (trodAll_cons_mk (Below.trod laidOut (by kernel_rfl) (of_decide_eq_true (by kernel_rfl)) k1 bel lt1) (trodAll_cons_mk (shut_int Tryd.underlying3 w2) trodAll_mk0))), Below.trodVars laidOut bel (by kernel_rfl) hVk, bel.frame _, fun h => by cases h⟩

theorem over : Rows.fnExactRunPollsRow.holds Tryd.pinned (OpenSpec.ofChange Rows.fnExactRunPollsSpec) :=
  OpenClaim.holds_of_wide 10 Tryd.f10 rfl rfl rfl rfl rfl rfl rfl ⟨rfl, rfl, rfl, rfl, rfl⟩ rfl rfl rfl rfl rfl (by kernel_rfl) Tryd.func10 (by kernel_rfl)
    (of_decide_eq_true (by kernel_rfl)) (by unfold Func.isWrapper; first | (rw [if_pos (by decide +kernel)]; kernel_rfl) | (rw [if_neg (by decide +kernel)]; exact ⟨rfl, rfl⟩))
    (fun os started H enc _ => lifted os started H enc)

/-- THE STATEMENT -/
theorem proved : Rows.FnExactRunPollsCardSaid :=
  Claim7.holds_tied_plain_at .later [] [.data] true (true, "f2e49cd36c93ffb06ebc91e7e571fd3580a7b60fdc3852441a80230de0c8a5b1") false over (fun _ h => by cases h) (by kernel_rfl) (fun _ h => by cases h) fnExactRunPolls_row_tie rfl ⟨rfl, rfl⟩ (by kernel_rfl) rfl
    (fun f fn hf hfn => by
      obtain rfl : f = 10 := Option.some.inj ((show Tryd.prog.funcNamed "loop.example/satelliteclock/laws.FnExactRunPolls" = some 10 by kernel_rfl).symm.trans hf) |>.symm
      obtain rfl : fn = Tryd.f10 := (Option.some.inj (Tryd.func10.symm.trans hfn)).symm
      exact ⟨by kernel_rfl, fun j t ht => by
        rw [Tryd.params10] at ht
        have hm : t ∈ [37, 32, 3] := by simpa using Array.mem_of_getElem? ht
        have hall : ([37, 32, 3].all fun u => !Tryd.prog.wantsStandIn u) = true := by kernel_rfl
        exact (show Tryd.prog.wantsStandIn t = false by simpa using List.all_eq_true.1 hall t hm)⟩)
    (by kernel_rfl)
#print axioms proved
end Go.Proofs.YthbfjmlkcgcgaaaDoor.fnExactRunPolls
