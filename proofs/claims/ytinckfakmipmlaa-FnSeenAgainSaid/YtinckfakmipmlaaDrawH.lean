/-
  The generators of states (chapter 9): some state of moderate numbers, and nothing that was there has changed. Condition: the code has at most 1048576 bytes.
-/
import Derived.Test.YtinckfakmipmlaaDrawK2
namespace Go.Proofs.Ytinckfakmipmlaa
open Go.RowKit
set_option linter.unusedVariables false
set_option maxRecDepth 100000
/-- Some state of moderate numbers. -/
def AnyH (B : Nat) (w : World) (r m : Nat) (e : Ending) (w' : World) : Prop := ∃ o p a : Int, e = .returned (.agg #[.int .i64 o, .int .i64 p, .int .i64 a]) ∧ (-1 ≤ o ∧ o ≤ 1000001) ∧ (-1 ≤ p ∧ p ≤ 1001) ∧ (-1 ≤ a ∧ a ≤ 3786479999) ∧ RK B w w' r m
set_option maxHeartbeats 4000000 in
theorem anyState_any (B r m : Nat) (w : World) (h : Rdr B w r m) (hm : m ≤ 500) : Calls Try.prog 28 #[.pointer (some ⟨r, 0, none⟩)] w (AnyH B w r (m + 20)) := by
  have rb : BoxK (w.alloc (.cells #[.int .i64 0, .int .i64 0, .int .i64 0] 24)) r w.heap.size 0 0 0 := BoxK.new 0 0 0 _ h.top
  have R1 := (RK.mk0 h).alloc #[.int .i64 0, .int .i64 0, .int .i64 0] 24
  go_enter Try.func28, Try.ntmps28
  go_wp2_with fail
  refine (one_any B r _ _ _ _ 0 1000000 _ (R1.alloc _ _).rdr (by omega) (by omega) (by omega) (by have := h.top; omega) ?_).mono ?_
  · have hmk := made_cells (w.alloc (.cells #[.int .i64 0, .int .i64 0, .int .i64 0] 24)) #[.int .i64 0, .int .i64 100, .int .i64 1000, .int .i64 1001, .int .i64 100000, .int .i64 100001, .int .i64 1000000] 3 7 0 1000000 rfl (by simp [Ints])
    rw [World.size_alloc] at hmk
    exact hmk
  rintro e w2 ⟨z2, rfl, x2, y2, bl2, rd2, fr2⟩
  have R2 := (R1.alloc _ _).next rd2 bl2 fr2
  have rb2 := (rb.far ((Far.refl _ _).alloc _)).far fr2
  clear bl2 rd2 fr2 R1 rb
  go_wp2_with fail
  refine (one_any B r _ _ _ _ 0 1000 _ (R2.rdr.alloc _ _) (by omega) (by omega) (by omega) (by have := R2.rdr.top; omega) ?_).mono ?_
  · exact made_cells _ _ _ _ _ _ rfl (by simp [Ints])
  rintro e w3 ⟨z3, rfl, x3, y3, bl3, rd3, fr3⟩
  have R3 := (R2.alloc _ _).next rd3 bl3 fr3
  have rb3 := (rb2.far ((Far.refl _ _).alloc _)).far fr3
  clear bl3 rd3 fr3 R2 rb2
  go_wp2_with fail
  refine (pick_any B r _ _ _ R3.rdr (by omega)).mono ?_
  rintro e w4 ⟨k4, rfl, a4, b4, st4⟩
  have c4 : k4 ≤ 100 := by omega
  have R4 := R3.step st4
  have rb4 := rb3.far st4.far
  clear b4 st4 R3 rb3
  have db : BoxK (w4.alloc (.cells #[.int .i64 z2, .int .i64 z3, .int .i64 (1000 * k4)] 24)) r w4.heap.size z2 z3 (1000 * k4) := BoxK.new _ _ _ _ R4.rdr.top
  have rb5 := rb4.far ((Far.refl _ _).alloc (.cells #[.int .i64 z2, .int .i64 z3, .int .i64 (1000 * k4)] 24))
  have R5 := R4.alloc #[.int .i64 z2, .int .i64 z3, .int .i64 (1000 * k4)] 24
  have hDR : w4.heap.size ≠ w.heap.size := by have := rb4.top; omega
  have hDB : w.heap.size ≤ w4.heap.size := R4.far.size
  clear R4 rb4
  go_wp2_with fail
  generalize w4.alloc (.cells #[.int .i64 z2, .int .i64 z3, .int .i64 (1000 * k4)] 24) = W at db rb5 R5 ⊢
  generalize w4.heap.size = D at db hDR hDB ⊢
  refine (pick_any B r _ _ _ R5.rdr (by omega)).mono ?_
  rintro e w6 ⟨k6, rfl, a6, b6, st6⟩
  have R6 := R5.step st6
  have db6 := db.far st6.far
  have rb6 := rb5.far st6.far
  clear b6 st6 R5 db rb5
  by_cases h0 : k6 = 0
  · subst h0
    go_wp2_with fail
    refine (one_any B r _ _ _ _ (-1) 1000001 _ (R6.rdr.alloc _ _) (by omega) (by omega) (by omega) (by have := R6.rdr.top; omega) ?_).mono ?_
    · exact made_cells _ _ _ _ _ _ rfl (by simp [Ints])
    rintro e w7 ⟨z7, rfl, x7, y7, bl7, rd7, fr7⟩
    have R7 := (R6.alloc _ _).next rd7 bl7 fr7
    have db7 := (db6.far ((Far.refl _ _).alloc _)).far fr7
    have rb7 := (rb6.far ((Far.refl _ _).alloc _)).far fr7
    clear bl7 rd7 fr7 R6 db6 rb6
    go_wp2_with fail
    refine (one_any B r _ _ _ _ (-1) 1001 _ (R7.rdr.alloc _ _) (by omega) (by omega) (by omega) (by have := R7.rdr.top; omega) ?_).mono ?_
    · exact made_cells _ _ _ _ _ _ rfl (by simp [Ints])
    rintro e w8 ⟨z8, rfl, x8, y8, bl8, rd8, fr8⟩
    have R8 := (R7.alloc _ _).next rd8 bl8 fr8
    have db8 := (db7.far ((Far.refl _ _).alloc _)).far fr8
    have rb8 := (rb7.far ((Far.refl _ _).alloc _)).far fr8
    clear bl8 rd8 fr8 R7 db7 rb7
    go_wp2_with fail
    refine (one_any B r _ _ _ _ (-1) 3786479999 _ (R8.rdr.alloc _ _) (by omega) (by omega) (by omega) (by have := R8.rdr.top; omega) ?_).mono ?_
    · exact made_cells _ _ _ _ _ _ rfl (by simp [Ints])
    rintro e w9 ⟨z9, rfl, x9, y9, bl9, rd9, fr9⟩
    have R9 := (R8.alloc _ _).next rd9 bl9 fr9
    have db9 := (db8.far ((Far.refl _ _).alloc _)).far fr9
    have rb9 := (rb8.far ((Far.refl _ _).alloc _)).far fr9
    clear bl9 rd9 fr9 R8 db8 rb8
    have db10 := db9.set z7 z8 z9
    have rb10 := ((rb9.other (i := 0) (v := .int .i64 z7) hDR).other (i := 1) (v := .int .i64 z8) hDR).other (i := 2) (v := .int .i64 z9) hDR
    have R10 := Lib.hid (((R9.set (i := 0) (v := .int .i64 z7) hDB).set (i := 1) (v := .int .i64 z8) hDB).set (i := 2) (v := .int .i64 z9) hDB)
    have p0 := db9.c0
    have p1 := db9.c1
    have p2 := db9.c2
    have q0 := db9.f0
    have q1 := db9.f1
    have q2 := db9.f2
    clear R9 rb9
    go_upto_region 4 with (fail)
    clear p0 p1 p2 q0 q1 q2 db9
    generalize ((w9.setCell ⟨D, 0, none⟩ (.int .i64 z7)).setCell ⟨D, 1, none⟩ (.int .i64 z8)).setCell ⟨D, 2, none⟩ (.int .i64 z9) = V at db10 rb10 R10 ⊢
    have hfin := Lib.hid ((R10.out.set (i := 0) (v := .int .i64 (z7)) (Nat.le_refl _)).set (i := 1) (v := .int .i64 (z8)) (Nat.le_refl _) |>.set (i := 2) (v := .int .i64 (z9)) (Nat.le_refl _))
    have u0 := rb10.c0
    have u1 := rb10.c1
    have u2 := rb10.c2
    have v0 := rb10.f0
    have v1 := rb10.f1
    have v2 := rb10.f2
    have p0 := db10.c0
    have p1 := db10.c1
    have p2 := db10.c2
    clear R10
    go_wp2
    exact bodyPost_ret (v := .agg #[.int .i64 (z7), .int .i64 (z8), .int .i64 (z9)]) (by simp [results, Try.results28, go_sem, u0, u1, u2]) rfl ⟨_, _, _, rfl, by omega, by omega, by omega, hfin.out.mono (by omega)⟩
  · have h0' : (k6 == 0) = false := by simpa using h0
    clear h0
    have R10 := Lib.hid R6
    have db10 := db6
    have rb10 := rb6
    clear R6 db6 rb6
    have hfin := Lib.hid ((R10.out.set (i := 0) (v := .int .i64 (z2)) (Nat.le_refl _)).set (i := 1) (v := .int .i64 (z3)) (Nat.le_refl _) |>.set (i := 2) (v := .int .i64 (1000 * k4)) (Nat.le_refl _))
    have u0 := rb10.c0
    have u1 := rb10.c1
    have u2 := rb10.c2
    have v0 := rb10.f0
    have v1 := rb10.f1
    have v2 := rb10.f2
    have p0 := db10.c0
    have p1 := db10.c1
    have p2 := db10.c2
    clear R10
    go_wp2
    exact bodyPost_ret (v := .agg #[.int .i64 (z2), .int .i64 (z3), .int .i64 (1000 * k4)]) (by simp [results, Try.results28, go_sem, u0, u1, u2]) rfl ⟨_, _, _, rfl, by omega, by omega, by omega, hfin.out.mono (by omega)⟩
def FromH1 (w : World) (e : Ending) (w' : World) : Prop := ∃ o p a : Int, e = .returned (.agg #[.int .i64 o, .int .i64 p, .int .i64 a]) ∧ (-1 ≤ o ∧ o ≤ 1000001) ∧ (-1 ≤ p ∧ p ≤ 1001) ∧ (-1 ≤ a ∧ a ≤ 3786479999) ∧ Below w.heap.size w w'
def FromH2 (w : World) (e : Ending) (w' : World) : Prop := ∃ o p a t : Int, e = .returned (.tuple #[.agg #[.int .i64 o, .int .i64 p, .int .i64 a], .int .i64 t]) ∧ (-1 ≤ o ∧ o ≤ 1000001) ∧ (-1 ≤ p ∧ p ≤ 1001) ∧ (-1 ≤ a ∧ a ≤ 3786479999) ∧ (-10 ≤ t ∧ t ≤ 3787480000) ∧ Below w.heap.size w w'
def FromH3 (w : World) (e : Ending) (w' : World) : Prop := ∃ o p a t x : Int, e = .returned (.tuple #[.agg #[.int .i64 o, .int .i64 p, .int .i64 a], .int .i64 t, .int .i64 x]) ∧ (-1 ≤ o ∧ o ≤ 1000001) ∧ (-1 ≤ p ∧ p ≤ 1001) ∧ (-1 ≤ a ∧ a ≤ 3786479999) ∧ (-10 ≤ t ∧ t ≤ 3787480000) ∧ (-1 ≤ x ∧ x ≤ 1000001) ∧ Below w.heap.size w w'
set_option maxHeartbeats 400000 in
theorem DrawValidState_any (w : World) (a : Option Addr) (len cap : Nat) (h : Code w a len) (hcap : len ≤ cap) : Calls Try.prog 13 #[.slice a len cap] w (FromH1 w) := by
  have Z := Z3.new w 24
  have h1 := h.laterK Z.bel
  go_enter Try.func13, Try.ntmps13
  go_wp2_with fail
  refine (newReader_any _ a len cap h1 hcap).mono ?_
  rintro e w1 ⟨rfl, bl1, rd1⟩
  have Z1 := Z.b bl1 (by simp)
  clear Z bl1 h1
  have hRB : w.heap.size < (w.alloc (Obj.cells #[.int .i64 0, .int .i64 0, .int .i64 0] 24)).heap.size := by simp
  generalize (w.alloc (Obj.cells #[.int .i64 0, .int .i64 0, .int .i64 0] 24)).heap.size = r at rd1 hRB ⊢
  go_wp2_with fail
  refine (anyState_any _ _ _ _ rd1 (by omega)).mono ?_
  rintro e w2 ⟨o, p, c, rfl, ho, hp, hc, R⟩
  have Z2 := Z1.b R.bel hRB
  have u0 := Z2.c0
  have u1 := Z2.c1
  have u2 := Z2.c2
  have v0 := Z2.f0
  have v1 := Z2.f1
  have v2 := Z2.f2
  have HZ := Lib.hid (Z2.fin (.int .i64 o) (.int .i64 p) (.int .i64 c))
  clear Z1 R rd1 Z2
  go_wp2
  exact bodyPost_ret (v := .agg #[.int .i64 o, .int .i64 p, .int .i64 c]) (by simp [results, Try.results13, go_sem, u0, u1, u2]) rfl ⟨o, p, c, rfl, ho, hp, hc, HZ.out⟩
set_option maxHeartbeats 400000 in
theorem DrawHoldUntil_any (w : World) (a : Option Addr) (len cap : Nat) (h : Code w a len) (hcap : len ≤ cap) : Calls Try.prog 25 #[.slice a len cap] w (FromH1 w) := by
  have Z := Z3.new w 24
  have h1 := h.laterK Z.bel
  go_enter Try.func25, Try.ntmps25
  go_wp2_with fail
  refine (newReader_any _ a len cap h1 hcap).mono ?_
  rintro e w1 ⟨rfl, bl1, rd1⟩
  have Z1 := Z.b bl1 (by simp)
  clear Z bl1 h1
  have hRB : w.heap.size < (w.alloc (Obj.cells #[.int .i64 0, .int .i64 0, .int .i64 0] 24)).heap.size := by simp
  generalize (w.alloc (Obj.cells #[.int .i64 0, .int .i64 0, .int .i64 0] 24)).heap.size = r at rd1 hRB ⊢
  go_wp2_with fail
  refine (anyState_any _ _ _ _ rd1 (by omega)).mono ?_
  rintro e w2 ⟨o, p, c, rfl, ho, hp, hc, R⟩
  have Z2 := Z1.b R.bel hRB
  have u0 := Z2.c0
  have u1 := Z2.c1
  have u2 := Z2.c2
  have v0 := Z2.f0
  have v1 := Z2.f1
  have v2 := Z2.f2
  have HZ := Lib.hid (Z2.fin (.int .i64 o) (.int .i64 p) (.int .i64 c))
  clear Z1 R rd1 Z2
  go_wp2
  exact bodyPost_ret (v := .agg #[.int .i64 o, .int .i64 p, .int .i64 c]) (by simp [results, Try.results25, go_sem, u0, u1, u2]) rfl ⟨o, p, c, rfl, ho, hp, hc, HZ.out⟩
set_option maxHeartbeats 4000000 in
theorem DrawErrorAt_any (w : World) (a : Option Addr) (len cap : Nat) (h : Code w a len) (hcap : len ≤ cap) : Calls Try.prog 16 #[.slice a len cap] w (FromH2 w) := by
  have Z := Z3.new w 24
  have h1 := h.laterK Z.bel
  go_enter Try.func16, Try.ntmps16
  go_wp2_with fail
  refine (newReader_any _ a len cap h1 hcap).mono ?_
  rintro e w1 ⟨rfl, bl1, rd1⟩
  have Z1 := Z.b bl1 (by simp)
  clear Z bl1 h1
  have hRB : w.heap.size < (w.alloc (Obj.cells #[.int .i64 0, .int .i64 0, .int .i64 0] 24)).heap.size := by simp
  generalize (w.alloc (Obj.cells #[.int .i64 0, .int .i64 0, .int .i64 0] 24)).heap.size = r at rd1 hRB ⊢
  have R1 := RK.mk0 rd1
  go_wp2_with fail
  refine (anyState_any _ _ _ _ rd1 (by omega)).mono ?_
  rintro e w2 ⟨o, p, c, rfl, ho, hp, hc, R⟩
  have Z2 := Z1.b R.bel hRB
  have db : BoxK (w2.alloc (.cells #[.int .i64 o, .int .i64 p, .int .i64 c] 24)) r w2.heap.size o p c := BoxK.new _ _ _ _ R.rdr.top
  have R2 := (R1.next R.rdr R.bel R.far).alloc #[.int .i64 o, .int .i64 p, .int .i64 c] 24
  have Z3' := Z2.b (((Below.refl w2.heap.size w2)).alloc (Nat.le_refl _) (.cells #[.int .i64 o, .int .i64 p, .int .i64 c] 24)) Z2.lt
  have hDR : w2.heap.size ≠ w.heap.size := by have := Z2.lt; omega
  clear Z1 Z2 R R1 rd1
  go_wp2_with fail
  generalize w2.alloc (.cells #[.int .i64 o, .int .i64 p, .int .i64 c] 24) = W at db R2 Z3' ⊢
  generalize w2.heap.size = D at db hDR ⊢
  refine wp_region_held_drew (S := (fun w' => w'.cell? ⟨D, 0, none⟩ = some (.int .i64 o) ∧ w'.cell? ⟨D, 1, none⟩ = some (.int .i64 p) ∧ w'.cell? ⟨D, 2, none⟩ = some (.int .i64 c))) (by kernel_rfl) (⟨db.c0, db.c1, db.c2⟩) (fun hHeld => ?_)
  have db' := db.drew
  have R3 := R2.drew
  have Z4 := Z3'.drew
  clear db R2 Z3'
  generalize W.drew = V at *
  refine wpAnyH_take (i := 0) (v := ?_) rfl (by kernel_rfl) (by kernel_rfl) (by kernel_rfl) (fun _ _ _ h => h) (Or.inl ⟨by rfl, ?_⟩) (by assumption) ?_
  rotate_left
  · intro w hSw
    (try dsimp only at hSw)
    go_simp
    all_goals with_reducible rfl
  try simp only [Act.put, List.setIfInBounds_toArray, List.set_cons_zero, List.set_cons_succ, List.getElem_toArray, List.getElem_cons_zero]
  refine wpAnyH_take (i := 1) (v := ?_) rfl (by kernel_rfl) (by kernel_rfl) (by kernel_rfl) (fun _ _ _ h => h) (Or.inl ⟨by rfl, ?_⟩) (by assumption) ?_
  rotate_left
  · intro w hSw
    (try dsimp only at hSw)
    go_simp
    all_goals with_reducible rfl
  try simp only [Act.put, List.setIfInBounds_toArray, List.set_cons_zero, List.set_cons_succ, List.getElem_toArray, List.getElem_cons_zero, List.getElem_cons_succ]
  refine wpAnyH_take (i := 2) (v := ?_) rfl (by kernel_rfl) (by kernel_rfl) (by kernel_rfl) (fun _ _ _ h => h) (Or.inl ⟨by rfl, ?_⟩) (by assumption) ?_
  rotate_left
  · intro w hSw
    (try dsimp only at hSw)
    go_simp
    all_goals with_reducible rfl
  try simp only [Act.put, List.setIfInBounds_toArray, List.set_cons_zero, List.set_cons_succ, List.getElem_toArray, List.getElem_cons_zero, List.getElem_cons_succ]
  refine wpAnyH_take (i := 3) (v := ?_) rfl (by kernel_rfl) (by kernel_rfl) (by kernel_rfl) (fun _ _ _ h => h) (Or.inl ⟨by rfl, ?_⟩) (by assumption) ?_
  rotate_left
  · intro w hSw
    (try dsimp only at hSw)
    go_simp
    all_goals with_reducible rfl
  try simp only [Act.put, List.setIfInBounds_toArray, List.set_cons_zero, List.set_cons_succ, List.getElem_toArray, List.getElem_cons_zero, List.getElem_cons_succ]
  have db6 := db'.far ((Far.refl _ _).alloc (.cells #[.int .i64 0, .int .i64 1, .int .i64 60, .int .i64 61, .int .i64 100, .int .i64 990, .int .i64 99900, .int .i64 1000000, .int .i64 (-1)] 3))
  have R6 := R3.alloc #[.int .i64 0, .int .i64 1, .int .i64 60, .int .i64 61, .int .i64 100, .int .i64 990, .int .i64 99900, .int .i64 1000000, .int .i64 (-1)] 3
  have Z6 := Z4.b ((Below.refl V.heap.size V).alloc (Nat.le_refl _) (.cells #[.int .i64 0, .int .i64 1, .int .i64 60, .int .i64 61, .int .i64 100, .int .i64 990, .int .i64 99900, .int .i64 1000000, .int .i64 (-1)] 3)) Z4.lt
  refine wpAnyH_ready (rs := [4]) (by kernel_rfl) (by simp) ?_
  refine AllReadyH.cons rfl (fun K hK => ?_) AllReadyH.nil
  go_simp
  skip
  refine hK.out _ _ (⟨db6.c0, db6.c1, db6.c2⟩) (fun hHeld => ?_)
  clear hK K
  try simp only [Act.put, List.setIfInBounds_toArray, List.set_cons_zero, List.set_cons_succ, List.getElem_toArray, List.getElem_cons_zero, List.getElem_cons_succ]
  refine wpAnyH_ready (rs := [5]) (by kernel_rfl) (by simp) ?_
  refine AllReadyH.cons rfl (fun K hK => ?_) AllReadyH.nil
  go_simp
  (go_at_call 32; refine (one_any _ r _ _ 9 9 (-1) 1000000 _ R6.rdr (by omega) (by omega) (by omega) (by have := R3.rdr.top; omega) (made_cells _ _ _ _ _ _ rfl (by simp [Ints] <;> omega))).mono ?_; rintro e w7 ⟨z7, rfl, x7, y7, bl7, rd7, fr7⟩; have db7 := db6.far fr7; have R7 := R6.next rd7 bl7 fr7; have Z7 := Z6.b bl7 hRB; clear db' R3 Z4 db6 R6 Z6 bl7 rd7 fr7)
  refine hK.out _ _ (⟨db7.c0, db7.c1, db7.c2⟩) (fun hHeld => ?_)
  clear hK K
  try simp only [Act.put, List.setIfInBounds_toArray, List.set_cons_zero, List.set_cons_succ, List.getElem_toArray, List.getElem_cons_zero, List.getElem_cons_succ]
  have ew : IntKind.i64.wrap (c + z7) = c + z7 := IntWalk.i64_in _ (by omega)
  have u0 := Z7.c0
  have u1 := Z7.c1
  have u2 := Z7.c2
  have v0 := Z7.f0
  have v1 := Z7.f1
  have v2 := Z7.f2
  refine wpAnyH_take (i := 6) (v := ?_) rfl (by kernel_rfl) (by kernel_rfl) (by kernel_rfl) (fun _ _ _ h => h) (Or.inl ⟨by rfl, ?_⟩) (by assumption) ?_
  rotate_left
  · intro w hSw
    (try dsimp only at hSw)
    go_simp
    all_goals with_reducible rfl
  try simp only [Act.put, List.setIfInBounds_toArray, List.set_cons_zero, List.set_cons_succ, List.getElem_toArray, List.getElem_cons_zero, List.getElem_cons_succ]
  clear ew
  have HZ := Lib.hid (Z7.fin (.int .i64 o) (.int .i64 p) (.int .i64 c))
  have db8 := ((db7.other (i := 0) (v := .int .i64 o) (Ne.symm hDR)).other (i := 1) (v := .int .i64 p) (Ne.symm hDR)).other (i := 2) (v := .int .i64 c) (Ne.symm hDR)
  clear R7 Z7
  refine wpAnyH_ready (rs := [7]) (by kernel_rfl) (by simp) ?_
  refine AllReadyH.cons rfl (fun K hK => ?_) AllReadyH.nil
  go_simp
  skip
  refine hK.out _ _ (⟨db8.c0, db8.c1, db8.c2⟩) (fun hHeld => ?_)
  clear hK K
  try simp only [Act.put, List.setIfInBounds_toArray, List.set_cons_zero, List.set_cons_succ, List.getElem_toArray, List.getElem_cons_zero, List.getElem_cons_succ]
  refine wpAnyH_take (i := 8) (v := ?_) rfl (by kernel_rfl) (by kernel_rfl) (by kernel_rfl) (fun _ _ _ h => h) (Or.inl ⟨by rfl, ?_⟩) (by assumption) ?_
  rotate_left
  · intro w hSw
    (try dsimp only at hSw)
    go_simp
    all_goals with_reducible rfl
  try simp only [Act.put, List.setIfInBounds_toArray, List.set_cons_zero, List.set_cons_succ, List.getElem_toArray, List.getElem_cons_zero, List.getElem_cons_succ]
  refine wpAnyH_done (by kernel_rfl) ?_ _
  go_wp2
  exact bodyPost_ret (v := .tuple #[.agg #[.int .i64 o, .int .i64 p, .int .i64 c], .int .i64 (c + z7)]) (by simp [results, Try.results16, go_sem, u0, u1, u2]) rfl ⟨o, p, c, c + z7, rfl, ho, hp, hc, by omega, HZ.out⟩
set_option maxHeartbeats 1000000 in
theorem DrawLevelAt_any (w : World) (a : Option Addr) (len cap : Nat) (h : Code w a len) (hcap : len ≤ cap) : Calls Try.prog 19 #[.slice a len cap] w (FromH2 w) := by
  have Z := Z3.new w 24
  have h1 := h.laterK Z.bel
  go_enter Try.func19, Try.ntmps19
  go_wp2_with fail
  refine (DrawErrorAt_any _ a len cap h1 hcap).mono ?_
  rintro e w1 ⟨o, p, c, t, rfl, ho, hp, hc, ht, bl1⟩
  have Z1 := Z.b bl1 Z.lt
  have u0 := Z1.c0
  have u1 := Z1.c1
  have u2 := Z1.c2
  have v0 := Z1.f0
  have v1 := Z1.f1
  have v2 := Z1.f2
  have HZ := Lib.hid (Z1.fin (.int .i64 o) (.int .i64 p) (.int .i64 c))
  clear Z bl1 h1 Z1
  go_wp2
  exact bodyPost_ret (v := .tuple #[.agg #[.int .i64 o, .int .i64 p, .int .i64 c], .int .i64 t]) (by simp [results, Try.results19, go_sem, u0, u1, u2]) rfl ⟨o, p, c, t, rfl, ho, hp, hc, ht, HZ.out⟩
set_option maxHeartbeats 4000000 in
theorem DrawSeenAgain_any (w : World) (a : Option Addr) (len cap : Nat) (h : Code w a len) (hcap : len ≤ cap) : Calls Try.prog 22 #[.slice a len cap] w (FromH3 w) := by
  have Z := Z3.new w 24
  have h1 := h.laterK Z.bel
  go_enter Try.func22, Try.ntmps22
  go_wp2_with fail
  refine (newReader_any _ a len cap h1 hcap).mono ?_
  rintro e w1 ⟨rfl, bl1, rd1⟩
  have Z1 := Z.b bl1 (by simp)
  have h2 := h1.laterK bl1
  clear Z bl1 h1
  have hRB : w.heap.size < (w.alloc (Obj.cells #[.int .i64 0, .int .i64 0, .int .i64 0] 24)).heap.size := by simp
  generalize (w.alloc (Obj.cells #[.int .i64 0, .int .i64 0, .int .i64 0] 24)).heap.size = r at rd1 hRB ⊢
  have R1 := RK.mk0 rd1
  go_wp2_with fail
  refine (DrawErrorAt_any _ _ _ _ h2 hcap).mono ?_
  rintro e w2 ⟨o, p, c, t, rfl, ho, hp, hc, ht, bl2⟩
  have Z2 := Z1.b bl2 Z1.lt
  have rd2 := rd1.later bl2
  have db : BoxK (w2.alloc (.cells #[.int .i64 o, .int .i64 p, .int .i64 c] 24)) r w2.heap.size o p c := BoxK.new _ _ _ _ rd2.top
  have R2 := (R1.next rd2 (bl2.mono rd1.le) ⟨bl2.size, fun b hb _ => bl2.block b hb⟩).alloc #[.int .i64 o, .int .i64 p, .int .i64 c] 24
  have Z3' := Z2.b (((Below.refl w2.heap.size w2)).alloc (Nat.le_refl _) (.cells #[.int .i64 o, .int .i64 p, .int .i64 c] 24)) Z2.lt
  have hDR : w2.heap.size ≠ w.heap.size := by have := Z2.lt; omega
  clear Z1 Z2 R1 rd1 rd2 bl2
  go_wp2_with fail
  generalize w2.alloc (.cells #[.int .i64 o, .int .i64 p, .int .i64 c] 24) = W at db R2 Z3' ⊢
  generalize w2.heap.size = D at db hDR ⊢
  refine wp_region_held_drew (S := (fun w' => w'.cell? ⟨D, 0, none⟩ = some (.int .i64 o) ∧ w'.cell? ⟨D, 1, none⟩ = some (.int .i64 p) ∧ w'.cell? ⟨D, 2, none⟩ = some (.int .i64 c))) (by kernel_rfl) (⟨db.c0, db.c1, db.c2⟩) (fun hHeld => ?_)
  have db' := db.drew
  have R3 := R2.drew
  have Z4 := Z3'.drew
  clear db R2 Z3'
  generalize W.drew = V at *
  refine wpAnyH_take (i := 0) (v := ?_) rfl (by kernel_rfl) (by kernel_rfl) (by kernel_rfl) (fun _ _ _ h => h) (Or.inl ⟨by rfl, ?_⟩) (by assumption) ?_
  rotate_left
  · intro w hSw
    (try dsimp only at hSw)
    go_simp
    all_goals with_reducible rfl
  try simp only [Act.put, List.setIfInBounds_toArray, List.set_cons_zero, List.set_cons_succ, List.getElem_toArray, List.getElem_cons_zero]
  refine wpAnyH_take (i := 1) (v := ?_) rfl (by kernel_rfl) (by kernel_rfl) (by kernel_rfl) (fun _ _ _ h => h) (Or.inl ⟨by rfl, ?_⟩) (by assumption) ?_
  rotate_left
  · intro w hSw
    (try dsimp only at hSw)
    go_simp
    all_goals with_reducible rfl
  try simp only [Act.put, List.setIfInBounds_toArray, List.set_cons_zero, List.set_cons_succ, List.getElem_toArray, List.getElem_cons_zero, List.getElem_cons_succ]
  refine wpAnyH_take (i := 2) (v := ?_) rfl (by kernel_rfl) (by kernel_rfl) (by kernel_rfl) (fun _ _ _ h => h) (Or.inl ⟨by rfl, ?_⟩) (by assumption) ?_
  rotate_left
  · intro w hSw
    (try dsimp only at hSw)
    go_simp
    all_goals with_reducible rfl
  try simp only [Act.put, List.setIfInBounds_toArray, List.set_cons_zero, List.set_cons_succ, List.getElem_toArray, List.getElem_cons_zero, List.getElem_cons_succ]
  have db6 := db'.far ((Far.refl _ _).alloc (.cells #[.int .i64 0, .int .i64 50, .int .i64 500, .int .i64 1000000, .int .i64 1000001, .int .i64 (-1)] 3))
  have R6 := R3.alloc #[.int .i64 0, .int .i64 50, .int .i64 500, .int .i64 1000000, .int .i64 1000001, .int .i64 (-1)] 3
  have Z6 := Z4.b ((Below.refl V.heap.size V).alloc (Nat.le_refl _) (.cells #[.int .i64 0, .int .i64 50, .int .i64 500, .int .i64 1000000, .int .i64 1000001, .int .i64 (-1)] 3)) Z4.lt
  refine wpAnyH_ready (rs := [3]) (by kernel_rfl) (by simp) ?_
  refine AllReadyH.cons rfl (fun K hK => ?_) AllReadyH.nil
  go_simp
  skip
  refine hK.out _ _ (⟨db6.c0, db6.c1, db6.c2⟩) (fun hHeld => ?_)
  clear hK K
  try simp only [Act.put, List.setIfInBounds_toArray, List.set_cons_zero, List.set_cons_succ, List.getElem_toArray, List.getElem_cons_zero, List.getElem_cons_succ]
  refine wpAnyH_ready (rs := [4]) (by kernel_rfl) (by simp) ?_
  refine AllReadyH.cons rfl (fun K hK => ?_) AllReadyH.nil
  go_simp
  (go_at_call 32; refine (one_any _ r _ _ 6 6 (-1) 1000001 _ R6.rdr (by omega) (by omega) (by omega) (by have := R3.rdr.top; omega) (made_cells _ _ _ _ _ _ rfl (by simp [Ints] <;> omega))).mono ?_; rintro e w7 ⟨z7, rfl, x7, y7, bl7, rd7, fr7⟩; have db7 := db6.far fr7; have Z7 := Z6.b bl7 hRB; clear db' R3 Z4 db6 R6 Z6 bl7 rd7 fr7)
  refine hK.out _ _ (⟨db7.c0, db7.c1, db7.c2⟩) (fun hHeld => ?_)
  clear hK K
  try simp only [Act.put, List.setIfInBounds_toArray, List.set_cons_zero, List.set_cons_succ, List.getElem_toArray, List.getElem_cons_zero, List.getElem_cons_succ]
  have u0 := Z7.c0
  have u1 := Z7.c1
  have u2 := Z7.c2
  have v0 := Z7.f0
  have v1 := Z7.f1
  have v2 := Z7.f2
  have HZ := Lib.hid (Z7.fin (.int .i64 o) (.int .i64 p) (.int .i64 c))
  have db8 := ((db7.other (i := 0) (v := .int .i64 o) (Ne.symm hDR)).other (i := 1) (v := .int .i64 p) (Ne.symm hDR)).other (i := 2) (v := .int .i64 c) (Ne.symm hDR)
  clear Z7
  refine wpAnyH_ready (rs := [5]) (by kernel_rfl) (by simp) ?_
  refine AllReadyH.cons rfl (fun K hK => ?_) AllReadyH.nil
  go_simp
  skip
  refine hK.out _ _ (⟨db8.c0, db8.c1, db8.c2⟩) (fun hHeld => ?_)
  clear hK K
  try simp only [Act.put, List.setIfInBounds_toArray, List.set_cons_zero, List.set_cons_succ, List.getElem_toArray, List.getElem_cons_zero, List.getElem_cons_succ]
  refine wpAnyH_take (i := 6) (v := ?_) rfl (by kernel_rfl) (by kernel_rfl) (by kernel_rfl) (fun _ _ _ h => h) (Or.inl ⟨by rfl, ?_⟩) (by assumption) ?_
  rotate_left
  · intro w hSw
    (try dsimp only at hSw)
    go_simp
    all_goals with_reducible rfl
  try simp only [Act.put, List.setIfInBounds_toArray, List.set_cons_zero, List.set_cons_succ, List.getElem_toArray, List.getElem_cons_zero, List.getElem_cons_succ]
  refine wpAnyH_take (i := 7) (v := ?_) rfl (by kernel_rfl) (by kernel_rfl) (by kernel_rfl) (fun _ _ _ h => h) (Or.inl ⟨by rfl, ?_⟩) (by assumption) ?_
  rotate_left
  · intro w hSw
    (try dsimp only at hSw)
    go_simp
    all_goals with_reducible rfl
  try simp only [Act.put, List.setIfInBounds_toArray, List.set_cons_zero, List.set_cons_succ, List.getElem_toArray, List.getElem_cons_zero, List.getElem_cons_succ]
  refine wpAnyH_done (by kernel_rfl) ?_ _
  go_wp2
  exact bodyPost_ret (v := .tuple #[.agg #[.int .i64 o, .int .i64 p, .int .i64 c], .int .i64 t, .int .i64 z7]) (by simp [results, Try.results22, go_sem, u0, u1, u2]) rfl ⟨o, p, c, t, z7, rfl, ho, hp, hc, ht, ⟨x7, y7⟩, HZ.out⟩
end Go.Proofs.Ytinckfakmipmlaa
