/-
  PROVED: FnCivilFixLeap: for every input the law returns true, and the input reads as it did. No condition.
  The frame is as the kit prints it (proof-skeleton.mjs); the walk is mine.
-/
import Derived.Test.YtjlplnflhleohaaRows
import Derived.Test.YtjlplnflhleohaaFix
import Derived.Test.YtjlplnflhleohaaCopyFx
import Derived.Test.YtjlplnflhleohaaDrawF
import Derived.Test.YtjlplnflhleohaaJoin
import Derived.WalkKit
import Derived.ProofKit
import Derived.OpenShut
import Derived.ShutString
import Derived.ChangeOld
import Derived.Below
namespace Go.Proofs.Ytjlplnflhleohaa.fnCivilFixLeap
open Go.ChangeShapes Go.WideShapes Go.ChangeAt Go.RowKit
open Go.ChangeMaps (open_string shut_string)
set_option linter.unusedVariables false

theorem own : ownKnob Try.prog.godebug = none := by kernel_rfl
theorem laidOut : laidOutB Try.prog = true := by kernel_rfl

/-- WHAT THE WALK IS TOLD OF A SLICE OF INTEGERS THAT CAME IN: it is nil; or it leads to a row of 'cap' cells, the numbers 'zs' (the first 'len' are its elements, the rest its spare room), each fitting its kind. -/
def IsRow (k : IntKind) (w : World) (a : Option Addr) (len cap : Nat) (zs : List Int) : Prop :=
  (a = none ∧ len = 0 ∧ cap = 0 ∧ zs = []) ∨
  ∃ x, a = some x ∧ len ≤ cap ∧ cap ≤ maxLen ∧ zs.length = cap ∧ (∀ i, i < zs.length → w.cell? (x.add i) = some (.int k (zs.getD i 0))) ∧ ∀ n ∈ zs, (Lit.int k n).wf = true

/-! ### STEP 1: THE WALK: the Go text returns true, AND WRITES NOTHING THAT WAS THERE: 'Below w.heap.size w w'' (Derived/Below.lean: '.refl', '.alloc', '.drew', '.setCell' at a new block, '.trans'). Open each 'IsRow' by 'rcases' AHEAD of 'go_enter'; part every test ahead of the walk. -/
theorem keep10 {w w1 w2 : World} {b c : Nat} {y m d s n y' m' d' s' n' : Int} (hb : Below w1.heap.size w1 w2) (h : Below w.heap.size w w1 ∧ C5 w1 b y m d s n ∧ C5 w1 c y' m' d' s' n') : Below w.heap.size w w2 ∧ C5 w2 b y m d s n ∧ C5 w2 c y' m' d' s' n' :=
  ⟨h.1.trans (hb.mono h.1.size), h.2.1.b hb, h.2.2.b hb⟩
set_option maxHeartbeats 4000000 in
theorem walk (a0 : Option Addr) (len0 cap0 : Nat) (z0 : List Int) (w : World) (w0 : IsRow .u8 w a0 len0 cap0 z0) :
    Calls Try.prog 4 #[.slice a0 len0 cap0] w fun e w' => e = .returned (.bool true) ∧ Below w.heap.size w w' := by
  by_cases hl : 1048576 < len0
  · have hl' : (1048576 : Int) < (len0 : Int) := by omega
    clear w0 hl
    go_enter Try.func4, Try.ntmps4
    go_wp2
    go_ret
    exact ⟨rfl, Below.refl _ _⟩
  have hl' : ¬ (1048576 : Int) < (len0 : Int) := by omega
  obtain ⟨hc, hcap⟩ := code_of w0 (by omega)
  clear w0 hl
  go_enter Try.func4, Try.ntmps4
  go_wp2_with fail
  refine (DrawCivilFix_any w a0 len0 cap0 hc hcap).mono ?_
  rintro e w1 ⟨y, m, d, s, n, rfl, hy, hm, hd, hs, hn, bl⟩
  clear hc hcap
  have k1 := C5.new w1 y m d s n 26
  have g1 := bl.alloc bl.size (.cells #[.int .i64 (y), .int .i64 (m), .int .i64 (d), .int .i64 (s), .int .i64 (n)] 26)
  clear bl
  obtain ⟨c0, c1, c2, c3, c4, cl⟩ := id k1
  go_wp2_with fail
  generalize w1.alloc (.cells #[.int .i64 (y), .int .i64 (m), .int .i64 (d), .int .i64 (s), .int .i64 (n)] 26) = W at k1 c0 c1 c2 c3 c4 cl g1 ⊢
  generalize w1.heap.size = D at k1 c0 c1 c2 c3 c4 cl ⊢
  have H1 := Lib.hid (fun w' => cv_impl y m d s n w')
  have H2 := Lib.hid (fun w' => cv_spec y m d s n w')
  have vb := X.cv_bd y m d s n
  have HY := Lib.hid (fun h h' => X.f_cv (y := y) (m := m) (d := d) (s := s) (n := n) h h')
  have HL := Lib.hid (fun h => X.cv_leap (y := y) (m := m) (d := d) (s := s) (n := n) h)
  generalize X.cv y m d s n = V at *
  by_cases h0 : V < 0
  · have f0 : decide (V < 0) = true := by simpa using h0
    clear h0 HY HL vb
    refine (H1.out _).mono ?_
    rintro e w2 ⟨rfl, hb⟩
    have g2 := g1.trans (hb.mono g1.size)
    have k2 := k1.b hb
    clear hb c0 c1 c2 c3 c4 cl g1 k1
    obtain ⟨c0, c1, c2, c3, c4, cl⟩ := id k2
    go_wp2_with fail
    refine (H2.out _).mono ?_
    rintro e w3 ⟨rfl, hb⟩
    have g3 := g2.trans (hb.mono g2.size)
    have k3 := k2.b hb
    clear hb c0 c1 c2 c3 c4 cl g2 k2
    obtain ⟨c0, c1, c2, c3, c4, cl⟩ := id k3
    go_wp2_with fail
    refine (H2.out _).mono ?_
    rintro e w4 ⟨rfl, hb⟩
    have g4 := g3.trans (hb.mono g3.size)
    clear hb
    go_wp2
    go_ret
    exact ⟨ret_bool (by simp), g4⟩
  have f0 : decide (V < 0) = false := by simpa using h0
  have h0' : 0 ≤ V := by omega
  clear h0
  obtain ⟨e1, e2, e3, e4⟩ := HL.out h0'
  have C8 := fun w' => cv_impl y m d 86400 n w'
  have C9 := fun w' => cv_impl y m d 86399 n w'
  rw [e1] at C8
  generalize X.cv y m d 86399 n = U at *
  have H8 := Lib.hid C8
  have H9 := Lib.hid C9
  have HU := Lib.hid (show U.tmod 86400 = 86399 by rw [Int.tmod_eq_emod_of_nonneg e2]; exact e4)
  clear HL HY C8 C9 e1 e2 e3 e4
  refine (H1.out _).mono ?_
  rintro e w2 ⟨rfl, hb⟩
  have g2 := g1.trans (hb.mono g1.size)
  have k2 := k1.b hb
  clear hb c0 c1 c2 c3 c4 cl g1 k1
  obtain ⟨c0, c1, c2, c3, c4, cl⟩ := id k2
  go_wp2_with fail
  refine (H2.out _).mono ?_
  rintro e w3 ⟨rfl, hb⟩
  have g3 := g2.trans (hb.mono g2.size)
  have k3 := k2.b hb
  clear hb c0 c1 c2 c3 c4 cl g2 k2
  obtain ⟨c0, c1, c2, c3, c4, cl⟩ := id k3
  have j8 := C5.new w3 y m d 86400 n 26
  have gA := g3.alloc g3.size (.cells #[.int .i64 (y), .int .i64 (m), .int .i64 (d), .int .i64 (86400), .int .i64 (n)] 26)
  have j9 := C5.new (w3.alloc (.cells #[.int .i64 (y), .int .i64 (m), .int .i64 (d), .int .i64 (86400), .int .i64 (n)] 26)) y m d 86399 n 26
  have gB := gA.alloc gA.size (.cells #[.int .i64 (y), .int .i64 (m), .int .i64 (d), .int .i64 (86399), .int .i64 (n)] 26)
  have j8' := j8.al (.cells #[.int .i64 (y), .int .i64 (m), .int .i64 (d), .int .i64 (86399), .int .i64 (n)] 26)
  simp only [World.size_alloc] at j9
  clear gA j8
  go_wp2_with fail
  clear c0 c1 c2 c3 c4 cl
  refine wp_region_held_drew (S := (fun w' => Below w.heap.size w w' ∧ C5 w' w3.heap.size (y) (m) (d) (86400) (n) ∧ C5 w' (w3.heap.size + 1) (y) (m) (d) (86399) (n))) (by kernel_rfl) (⟨gB.drew, j8'.dr, j9.dr⟩) (fun hHeld => ?_)
  refine wpAnyH_take (i := 0) (v := ?_) rfl (by kernel_rfl) (by kernel_rfl) (by kernel_rfl) (fun _ _ _ h => h) (Or.inl ⟨by rfl, ?_⟩) (by assumption) ?_
  rotate_left
  · intro w hSw
    obtain ⟨-, ⟨a0, a1, a2, a3, a4, al⟩, ⟨b0, b1, b2, b3, b4, bl⟩⟩ := hSw
    go_simp
    all_goals with_reducible rfl
  try simp only [Act.put, List.setIfInBounds_toArray, List.set_cons_zero, List.set_cons_succ, List.getElem_toArray, List.getElem_cons_zero]
  refine wpAnyH_take (i := 2) (v := ?_) rfl (by kernel_rfl) (by kernel_rfl) (by kernel_rfl) (fun _ _ _ h => h) (Or.inl ⟨by rfl, ?_⟩) (by assumption) ?_
  rotate_left
  · intro w hSw
    obtain ⟨-, ⟨a0, a1, a2, a3, a4, al⟩, ⟨b0, b1, b2, b3, b4, bl⟩⟩ := hSw
    go_simp
    all_goals with_reducible rfl
  try simp only [Act.put, List.setIfInBounds_toArray, List.set_cons_zero, List.set_cons_succ, List.getElem_toArray, List.getElem_cons_zero, List.getElem_cons_succ]
  refine wpAnyH_ready (rs := [1]) (by kernel_rfl) (by simp) ?_
  refine AllReadyH.cons rfl (fun K hK => ?_) AllReadyH.nil
  go_simp
  (go_at_call 14; refine (H8.out _).mono ?_; rintro e w4 ⟨rfl, hb⟩)
  refine hK.out _ _ (keep10 hb (by assumption)) (fun hHeld => ?_)
  clear hK K
  try simp only [Act.put, List.setIfInBounds_toArray, List.set_cons_zero, List.set_cons_succ, List.getElem_toArray, List.getElem_cons_zero, List.getElem_cons_succ]
  refine wpAnyH_ready (rs := [3]) (by kernel_rfl) (by simp) ?_
  refine AllReadyH.cons rfl (fun K hK => ?_) AllReadyH.nil
  go_simp
  (go_at_call 14; refine (H9.out _).mono ?_; rintro e w5 ⟨rfl, hb⟩)
  refine hK.out _ _ (keep10 hb (by assumption)) (fun hHeld => ?_)
  clear hK K
  try simp only [Act.put, List.setIfInBounds_toArray, List.set_cons_zero, List.set_cons_succ, List.getElem_toArray, List.getElem_cons_zero, List.getElem_cons_succ]
  refine wpAnyH_take (i := 4) (v := ?_) rfl (by kernel_rfl) (by kernel_rfl) (by kernel_rfl) (fun _ _ _ h => h) (Or.inl ⟨by rfl, ?_⟩) (by assumption) ?_
  rotate_left
  · intro w hSw
    (try dsimp only at hSw)
    go_simp
    all_goals with_reducible rfl
  try simp only [Act.put, List.setIfInBounds_toArray, List.set_cons_zero, List.set_cons_succ, List.getElem_toArray, List.getElem_cons_zero, List.getElem_cons_succ]
  refine wpAnyH_take (i := 5) (v := ?_) rfl (by kernel_rfl) (by kernel_rfl) (by kernel_rfl) (fun _ _ _ h => h) (Or.inl ⟨by rfl, ?_⟩) (by assumption) ?_
  rotate_left
  · intro w hSw
    (try dsimp only at hSw)
    go_simp
    all_goals with_reducible rfl
  try simp only [Act.put, List.setIfInBounds_toArray, List.set_cons_zero, List.set_cons_succ, List.getElem_toArray, List.getElem_cons_zero, List.getElem_cons_succ]
  refine wpAnyH_take (i := 6) (v := ?_) rfl (by kernel_rfl) (by kernel_rfl) (by kernel_rfl) (fun _ _ _ h => h) (Or.inl ⟨by rfl, ?_⟩) (by assumption) ?_
  rotate_left
  · intro w hSw
    obtain ⟨-, ⟨a0, a1, a2, a3, a4, al⟩, ⟨b0, b1, b2, b3, b4, bl⟩⟩ := hSw
    go_simp
    all_goals with_reducible rfl
  try simp only [Act.put, List.setIfInBounds_toArray, List.set_cons_zero, List.set_cons_succ, List.getElem_toArray, List.getElem_cons_zero, List.getElem_cons_succ]
  refine wpAnyH_ready (rs := [7]) (by kernel_rfl) (by simp) ?_
  refine AllReadyH.cons rfl (fun K hK => ?_) AllReadyH.nil
  go_simp
  (go_at_call 14; refine (H8.out _).mono ?_; rintro e w6 ⟨rfl, hb⟩)
  refine hK.out _ _ (keep10 hb (by assumption)) (fun hHeld => ?_)
  clear hK K
  try simp only [Act.put, List.setIfInBounds_toArray, List.set_cons_zero, List.set_cons_succ, List.getElem_toArray, List.getElem_cons_zero, List.getElem_cons_succ]
  refine wpAnyH_take (i := 8) (v := .int .i64 86399) rfl (by kernel_rfl) (by kernel_rfl) (by kernel_rfl) (fun _ _ _ h => h) (Or.inl ⟨by rfl, ?_⟩) (by assumption) ?_
  · intro w hSw
    go_simp
    exact HU.out
  try simp only [Act.put, List.setIfInBounds_toArray, List.set_cons_zero, List.set_cons_succ, List.getElem_toArray, List.getElem_cons_zero, List.getElem_cons_succ]
  refine wpAnyH_take (i := 9) (v := ?_) rfl (by kernel_rfl) (by kernel_rfl) (by kernel_rfl) (fun _ _ _ h => h) (Or.inl ⟨by rfl, ?_⟩) (by assumption) ?_
  rotate_left
  · intro w hSw
    (try dsimp only at hSw)
    go_simp
    all_goals with_reducible rfl
  try simp only [Act.put, List.setIfInBounds_toArray, List.set_cons_zero, List.set_cons_succ, List.getElem_toArray, List.getElem_cons_zero, List.getElem_cons_succ]
  refine wpAnyH_take (i := 10) (v := ?_) rfl (by kernel_rfl) (by kernel_rfl) (by kernel_rfl) (fun _ _ _ h => h) (Or.inl ⟨by rfl, ?_⟩) (by assumption) ?_
  rotate_left
  · intro w hSw
    (try dsimp only at hSw)
    go_simp
    all_goals with_reducible rfl
  try simp only [Act.put, List.setIfInBounds_toArray, List.set_cons_zero, List.set_cons_succ, List.getElem_toArray, List.getElem_cons_zero, List.getElem_cons_succ]
  refine wpAnyH_take (i := 11) (v := ?_) rfl (by kernel_rfl) (by kernel_rfl) (by kernel_rfl) (fun _ _ _ h => h) (Or.inl ⟨by rfl, ?_⟩) (by assumption) ?_
  rotate_left
  · intro w hSw
    (try dsimp only at hSw)
    go_simp
    all_goals with_reducible rfl
  try simp only [Act.put, List.setIfInBounds_toArray, List.set_cons_zero, List.set_cons_succ, List.getElem_toArray, List.getElem_cons_zero, List.getElem_cons_succ]
  refine wpAnyH_done (by kernel_rfl) ?_ _
  go_wp2
  go_ret
  exact ⟨ret_bool (by simp), hHeld.1⟩

/-! ### THE ROW's STEP: WRITTEN OUT: LEAVE IT -/
set_option maxRecDepth 100000 in
theorem lifted (os : Os) (started : os.Started) (H : Type) (enc : TypeId × Value → H) :
    ReturnsInHanded {} Try.checked os 4 .any (Rows.fnCivilFixLeapSpec.pre6 enc Try.prog Try.f4 Rows.fnCivilFixLeapRow.domain false) (Rows.fnCivilFixLeapSpec.post enc Try.prog Try.f4 false true false false) := by
  refine returnsInHanded_of_change (C := Try.checked) own started (by kernel_rfl) Try.func4
    (ChangeSpec.witness6 (enc := enc) (C := Try.checked) false ⟨#[], #[.slice none 0 0], []⟩ 8 (by kernel_rfl) (by kernel_rfl) (by kernel_rfl) (by kernel_rfl)) ?_
  intro W base args ds gs before hval0 hW hcnd _
  have hval : ∀ (j : Nat) t v, Try.f4.params[j]? = some t → args[j]? = some v → Value.okWide Try.prog W .any base t v := hval0
  have hW' := hW
  obtain ⟨p, q, hA0, hV, rfl, hfz, hnd⟩ := hW
  have hA : DataW.TrodAll enc Try.prog W 0 (fun _ => true) true Try.f4.params.toList args.toList ds p := hA0
  rw [Try.params4] at hA hval
  obtain ⟨v0, vs0, d0, ds0, p0, q0, hargs, rfl, rfl, h0, r0⟩ := trodAll_cons hA
  obtain ⟨rfl, rfl, rfl⟩ := trodAll_nil r0
  obtain rfl : args = #[v0] := by cases args; simp_all
  obtain ⟨rfl, rfl⟩ := trodVars_none hV
  obtain ⟨a0, len0, cap0, rfl⟩ := okWide_slice Try.underlying22 (hval 0 22 v0 rfl rfl)
  have k0 := h0
  have lt0 : ∀ x ∈ p0, x.block < W.heap.size := by obtain ⟨m, hm⟩ := k0; exact DataW.trod_lt m _ _ _ hm
  obtain ⟨z0, w0⟩ : ∃ zs, IsRow .u8 W a0 len0 cap0 zs := by
    obtain ⟨fuel, hf⟩ := h0
    rcases open_ints Try.underlying22 Try.underlying5 (by kernel_rfl) hf with ⟨hcs, _⟩ | ⟨x, l, c, zs, hcs, _, hl, hm, hz, _, hcell, hwz⟩
    · simp [Value.cells] at hcs
      obtain ⟨rfl, rfl, rfl⟩ := hcs
      exact ⟨[], .inl ⟨rfl, rfl, rfl, rfl⟩⟩
    · simp [Value.cells] at hcs
      obtain ⟨rfl, rfl, rfl⟩ := hcs
      exact ⟨zs, .inr ⟨_, rfl, hl, hm, by simpa using hz, hcell, hwz⟩⟩
  clear hA0 hval0
  refine (walk a0 len0 cap0 z0 W w0).mono fun e W' ⟨he, bel⟩ => ?_
  subst he
  exact ⟨_, rfl, _, _, _, [], _, [], hW', trodAll_mk1 (shut_bool Try.underlying4 _), (trodAll_cons_mk (Below.trod laidOut (by kernel_rfl) (of_decide_eq_true (by kernel_rfl)) k0 bel lt0) trodAll_mk0), rfl, bel.frame _, fun h => by cases h⟩

theorem closed : joinedFacts Try.pinned.checked.prog 4 Try.f4 Rows.fnCivilFixLeapSpec Rows.fnCivilFixLeapRow = true := by
  unfold joinedFacts
  rw [mayJ, liftsJ, makeJ]
  kernel_rfl

theorem over : Rows.fnCivilFixLeapRow.holds Try.pinned (OpenSpec.ofChange Rows.fnCivilFixLeapSpec) :=
  OpenClaim.holds_of_wide 4 Try.f4 rfl rfl rfl rfl rfl rfl rfl ⟨rfl, rfl, rfl, rfl, rfl⟩ rfl rfl rfl rfl rfl (by kernel_rfl) Try.func4 closed
    (of_decide_eq_true (by kernel_rfl)) (by unfold Func.isWrapper; first | (rw [if_pos (by decide +kernel)]; kernel_rfl) | (rw [if_neg (by decide +kernel)]; exact ⟨rfl, rfl⟩))
    (fun os started H enc _ => lifted os started H enc)

/-- ████ THE STATEMENT ████ -/
theorem proved : Rows.FnCivilFixLeapSaid := over
#print axioms proved
end Go.Proofs.Ytjlplnflhleohaa.fnCivilFixLeap
