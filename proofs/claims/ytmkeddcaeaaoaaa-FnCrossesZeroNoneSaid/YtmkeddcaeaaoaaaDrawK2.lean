/-
  The generators of the arguments of the clocks' functions. Condition: the code has at most 1048576 bytes.
-/
import Derived.Test.YtmkeddcaeaaoaaaDrawK
import Derived.Deep.RegionHeld3
namespace Go.Proofs.Ytmkeddcaeaaoaaa
open Go.RowKit
set_option linter.unusedVariables false
theorem Code.laterK {w w' : World} {a : Option Addr} {len : Nat} (h : Code w a len) (hb : Below w.heap.size w w') : Code w' a len := by
  refine ⟨h.1, h.2.1, fun n hn => ?_⟩
  rcases h.2.2 n hn with h0 | ⟨b, off, e, hlt, hall⟩
  · exact .inl h0
  · refine .inr ⟨b, off, e, Nat.lt_of_lt_of_le hlt hb.size, fun i hi => ?_⟩
    obtain ⟨k, k0, k1, kc⟩ := hall i hi
    exact ⟨k, k0, k1, (hb.cell (p := ⟨b, off + i, none⟩) hlt).trans kc⟩
/-- A block of three zeros that the call has made, and what lies below it. -/
structure Z3 (w0 w : World) (b : Nat) : Prop where
  lo : w0.heap.size ≤ b
  lt : b < w.heap.size
  c0 : w.cell? ⟨b, 0, none⟩ = some (.int .i64 0)
  c1 : w.cell? ⟨b, 1, none⟩ = some (.int .i64 0)
  c2 : w.cell? ⟨b, 2, none⟩ = some (.int .i64 0)
  f0 : w.frozen? ⟨b, 0, none⟩ = false
  f1 : w.frozen? ⟨b, 1, none⟩ = false
  f2 : w.frozen? ⟨b, 2, none⟩ = false
  bel : Below w0.heap.size w0 w
theorem Z3.new (w : World) (t : TypeId) : Z3 w (w.alloc (.cells #[.int .i64 0, .int .i64 0, .int .i64 0] t)) w.heap.size :=
  ⟨Nat.le_refl _, by simp, by simp, by simp, by simp, by simp, by simp, by simp, (Below.refl _ _).alloc (Nat.le_refl _) _⟩
theorem Z3.b {w0 w w' : World} {b B : Nat} (h : Z3 w0 w b) (k : Below B w w') (hB : b < B) : Z3 w0 w' b :=
  ⟨h.lo, Nat.lt_of_lt_of_le h.lt k.size, (k.cell (p := ⟨b, 0, none⟩) hB).trans h.c0, (k.cell (p := ⟨b, 1, none⟩) hB).trans h.c1, (k.cell (p := ⟨b, 2, none⟩) hB).trans h.c2, (k.frozen (p := ⟨b, 0, none⟩) hB).trans h.f0, (k.frozen (p := ⟨b, 1, none⟩) hB).trans h.f1, (k.frozen (p := ⟨b, 2, none⟩) hB).trans h.f2, h.bel.trans (k.mono (by have := h.lo; omega))⟩
theorem Z3.fin {w0 w : World} {b : Nat} (h : Z3 w0 w b) (x y z : Value) : Below w0.heap.size w0 (((w.setCell ⟨b, 0, none⟩ x).setCell ⟨b, 1, none⟩ y).setCell ⟨b, 2, none⟩ z) :=
  ((h.bel.setCell (p := ⟨b, 0, none⟩) h.lo _).setCell (p := ⟨b, 1, none⟩) h.lo _).setCell (p := ⟨b, 2, none⟩) h.lo _
def FromK1 (w : World) (e : Ending) (w' : World) : Prop := ∃ o p a : Int, e = .returned (.agg #[.int .i64 o, .int .i64 p, .int .i64 a]) ∧ (-1000001 ≤ o ∧ o ≤ 1000001) ∧ (-500001 ≤ p ∧ p ≤ 500001) ∧ (-1 ≤ a ∧ a ≤ 3786479999) ∧ Below w.heap.size w w'
def FromK2 (w : World) (e : Ending) (w' : World) : Prop := ∃ o p a t : Int, e = .returned (.tuple #[.agg #[.int .i64 o, .int .i64 p, .int .i64 a], .int .i64 t]) ∧ (-1000001 ≤ o ∧ o ≤ 1000001) ∧ (-500001 ≤ p ∧ p ≤ 500001) ∧ (-1 ≤ a ∧ a ≤ 3786479999) ∧ (-10 ≤ t ∧ t ≤ 3786800000) ∧ Below w.heap.size w w'
def FromK3 (w : World) (e : Ending) (w' : World) : Prop := ∃ o p a t x : Int, e = .returned (.tuple #[.agg #[.int .i64 o, .int .i64 p, .int .i64 a], .int .i64 t, .int .i64 x]) ∧ (-1000001 ≤ o ∧ o ≤ 1000001) ∧ (-500001 ≤ p ∧ p ≤ 500001) ∧ (-1 ≤ a ∧ a ≤ 3786479999) ∧ (-10 ≤ t ∧ t ≤ 3786800000) ∧ (-1000001 ≤ x ∧ x ≤ 1000001) ∧ Below w.heap.size w w'
set_option maxHeartbeats 400000 in
theorem DrawValidClock_any (w : World) (a : Option Addr) (len cap : Nat) (h : Code w a len) (hcap : len ≤ cap) : Calls Try.prog 15 #[.slice a len cap] w (FromK1 w) := by
  have Z := Z3.new w 24
  have h1 := h.laterK Z.bel
  go_enter Try.func15, Try.ntmps15
  go_wp2_with fail
  refine (newReader_any _ a len cap h1 hcap).mono ?_
  rintro e w1 ⟨rfl, bl1, rd1⟩
  have Z1 := Z.b bl1 (by simp)
  clear Z bl1 h1
  have hRB : w.heap.size < (w.alloc (Obj.cells #[.int .i64 0, .int .i64 0, .int .i64 0] 24)).heap.size := by simp
  generalize (w.alloc (Obj.cells #[.int .i64 0, .int .i64 0, .int .i64 0] 24)).heap.size = r at rd1 hRB ⊢
  go_wp2_with fail
  refine (anyClock_any _ _ _ _ rd1 (by omega)).mono ?_
  rintro e w2 ⟨o, p, c, rfl, ho, hp, hc, R⟩
  have Z2 := Z1.b R.bel hRB
  have u0 := Z2.c0
  have u1 := Z2.c1
  have u2 := Z2.c2
  have v0 := Z2.f0
  have v1 := Z2.f1
  have v2 := Z2.f2
  have HZ := Lib.hid (Z2.fin (.int .i64 o) (.int .i64 p) (.int .i64 c))
  clear Z1 R rd1 Z2
  go_wp2
  exact bodyPost_ret (v := .agg #[.int .i64 o, .int .i64 p, .int .i64 c]) (by simp [results, Try.results15, go_sem, u0, u1, u2]) rfl ⟨o, p, c, rfl, ho, hp, hc, HZ.out⟩
set_option maxHeartbeats 400000 in
theorem DrawCrossesZero_any (w : World) (a : Option Addr) (len cap : Nat) (h : Code w a len) (hcap : len ≤ cap) : Calls Try.prog 27 #[.slice a len cap] w (FromK1 w) := by
  have Z := Z3.new w 24
  have h1 := h.laterK Z.bel
  go_enter Try.func27, Try.ntmps27
  go_wp2_with fail
  refine (newReader_any _ a len cap h1 hcap).mono ?_
  rintro e w1 ⟨rfl, bl1, rd1⟩
  have Z1 := Z.b bl1 (by simp)
  clear Z bl1 h1
  have hRB : w.heap.size < (w.alloc (Obj.cells #[.int .i64 0, .int .i64 0, .int .i64 0] 24)).heap.size := by simp
  generalize (w.alloc (Obj.cells #[.int .i64 0, .int .i64 0, .int .i64 0] 24)).heap.size = r at rd1 hRB ⊢
  go_wp2_with fail
  refine (anyClock_any _ _ _ _ rd1 (by omega)).mono ?_
  rintro e w2 ⟨o, p, c, rfl, ho, hp, hc, R⟩
  have Z2 := Z1.b R.bel hRB
  have u0 := Z2.c0
  have u1 := Z2.c1
  have u2 := Z2.c2
  have v0 := Z2.f0
  have v1 := Z2.f1
  have v2 := Z2.f2
  have HZ := Lib.hid (Z2.fin (.int .i64 o) (.int .i64 p) (.int .i64 c))
  clear Z1 R rd1 Z2
  go_wp2
  exact bodyPost_ret (v := .agg #[.int .i64 o, .int .i64 p, .int .i64 c]) (by simp [results, Try.results27, go_sem, u0, u1, u2]) rfl ⟨o, p, c, rfl, ho, hp, hc, HZ.out⟩
theorem BoxK.drew {w : World} {r b : Nat} {x y z : Int} (h : BoxK w r b x y z) : BoxK w.drew r b x y z := ⟨h.ne, h.top, h.c0, h.c1, h.c2, h.f0, h.f1, h.f2⟩
theorem Z3.drew {w0 w : World} {b : Nat} (h : Z3 w0 w b) : Z3 w0 w.drew b := ⟨h.lo, h.lt, h.c0, h.c1, h.c2, h.f0, h.f1, h.f2, h.bel.drew⟩
set_option maxHeartbeats 4000000 in
theorem DrawOffsetAt_any (w : World) (a : Option Addr) (len cap : Nat) (h : Code w a len) (hcap : len ≤ cap) : Calls Try.prog 18 #[.slice a len cap] w (FromK2 w) := by
  have Z := Z3.new w 24
  have h1 := h.laterK Z.bel
  go_enter Try.func18, Try.ntmps18
  go_wp2_with fail
  refine (newReader_any _ a len cap h1 hcap).mono ?_
  rintro e w1 ⟨rfl, bl1, rd1⟩
  have Z1 := Z.b bl1 (by simp)
  clear Z bl1 h1
  have hRB : w.heap.size < (w.alloc (Obj.cells #[.int .i64 0, .int .i64 0, .int .i64 0] 24)).heap.size := by simp
  generalize (w.alloc (Obj.cells #[.int .i64 0, .int .i64 0, .int .i64 0] 24)).heap.size = r at rd1 hRB ⊢
  have R1 := RK.mk0 rd1
  go_wp2_with fail
  refine (anyClock_any _ _ _ _ rd1 (by omega)).mono ?_
  rintro e w2 ⟨o, p, c, rfl, ho, hp, hc, R⟩
  have Z2 := Z1.b R.bel hRB
  have db : BoxK (w2.alloc (.cells #[.int .i64 o, .int .i64 p, .int .i64 c] 24)) r w2.heap.size o p c := BoxK.new _ _ _ _ R.rdr.top
  have R2 := (R1.next R.rdr R.bel R.far).alloc #[.int .i64 o, .int .i64 p, .int .i64 c] 24
  have Z3' := Z2.b (((Below.refl w2.heap.size w2)).alloc (Nat.le_refl _) (.cells #[.int .i64 o, .int .i64 p, .int .i64 c] 24)) Z2.lt
  have hDR : w2.heap.size ≠ w.heap.size := by have := Z2.lt; omega
  clear Z1 Z2 R R1 rd1
  go_wp2_with fail
  generalize w2.alloc (.cells #[.int .i64 o, .int .i64 p, .int .i64 c] 24) = W at db R2 Z3' ⊢
  generalize w2.heap.size = D at db hDR ⊢
  refine wp_region_held_drew (S := (fun w' => w'.cell? ⟨D, 0, none⟩ = some (.int .i64 o) ∧ w'.cell? ⟨D, 1, none⟩ = some (.int .i64 p) ∧ w'.cell? ⟨D, 2, none⟩ = some (.int .i64 c))) (by kernel_rfl) (⟨db.c0, db.c1, db.c2⟩) (fun hHeld => ?_)
  have db' := db.drew
  have R3 := R2.drew
  have Z4 := Z3'.drew
  clear db R2 Z3'
  generalize W.drew = V at *
  refine wpAnyH_take (i := 0) (v := ?_) rfl (by kernel_rfl) (by kernel_rfl) (by kernel_rfl) (fun _ _ _ h => h) (Or.inl ⟨by rfl, ?_⟩) (by assumption) ?_
  rotate_left
  · intro w hSw
    (try dsimp only at hSw)
    go_simp
    all_goals with_reducible rfl
  try simp only [Act.put, List.setIfInBounds_toArray, List.set_cons_zero, List.set_cons_succ, List.getElem_toArray, List.getElem_cons_zero]
  refine wpAnyH_take (i := 1) (v := ?_) rfl (by kernel_rfl) (by kernel_rfl) (by kernel_rfl) (fun _ _ _ h => h) (Or.inl ⟨by rfl, ?_⟩) (by assumption) ?_
  rotate_left
  · intro w hSw
    (try dsimp only at hSw)
    go_simp
    all_goals with_reducible rfl
  try simp only [Act.put, List.setIfInBounds_toArray, List.set_cons_zero, List.set_cons_succ, List.getElem_toArray, List.getElem_cons_zero, List.getElem_cons_succ]
  refine wpAnyH_take (i := 2) (v := ?_) rfl (by kernel_rfl) (by kernel_rfl) (by kernel_rfl) (fun _ _ _ h => h) (Or.inl ⟨by rfl, ?_⟩) (by assumption) ?_
  rotate_left
  · intro w hSw
    (try dsimp only at hSw)
    go_simp
    all_goals with_reducible rfl
  try simp only [Act.put, List.setIfInBounds_toArray, List.set_cons_zero, List.set_cons_succ, List.getElem_toArray, List.getElem_cons_zero, List.getElem_cons_succ]
  refine wpAnyH_take (i := 3) (v := ?_) rfl (by kernel_rfl) (by kernel_rfl) (by kernel_rfl) (fun _ _ _ h => h) (Or.inl ⟨by rfl, ?_⟩) (by assumption) ?_
  rotate_left
  · intro w hSw
    (try dsimp only at hSw)
    go_simp
    all_goals with_reducible rfl
  try simp only [Act.put, List.setIfInBounds_toArray, List.set_cons_zero, List.set_cons_succ, List.getElem_toArray, List.getElem_cons_zero, List.getElem_cons_succ]
  refine wpAnyH_take (i := 4) (v := ?_) rfl (by kernel_rfl) (by kernel_rfl) (by kernel_rfl) (fun _ _ _ h => h) (Or.inl ⟨by rfl, ?_⟩) (by assumption) ?_
  rotate_left
  · intro w hSw
    (try dsimp only at hSw)
    go_simp
    all_goals with_reducible rfl
  try simp only [Act.put, List.setIfInBounds_toArray, List.set_cons_zero, List.set_cons_succ, List.getElem_toArray, List.getElem_cons_zero, List.getElem_cons_succ]
  refine wpAnyH_ready (rs := [5]) (by kernel_rfl) (by simp) ?_
  refine AllReadyH.cons rfl (fun K hK => ?_) AllReadyH.nil
  go_simp
  (go_at_call 35; refine (pick_any _ r _ _ _ R3.rdr (by omega)).mono ?_; rintro e w5 ⟨k5, rfl, a5, b5, st5⟩; have db5 := db'.far st5.far; have R5 := R3.step st5; have Z5 := Z4.b st5.bel hRB; have c5 : k5 ≤ 250 := (by omega); clear st5 b5 db' R3 Z4)
  refine hK.out _ _ (⟨db5.c0, db5.c1, db5.c2⟩) (fun hHeld => ?_)
  clear hK K
  try simp only [Act.put, List.setIfInBounds_toArray, List.set_cons_zero, List.set_cons_succ, List.getElem_toArray, List.getElem_cons_zero, List.getElem_cons_succ]
  have db6 := db5.far ((Far.refl _ _).alloc (.cells #[.int .i64 0, .int .i64 1, .int .i64 999, .int .i64 1000, .int .i64 100000, .int .i64 100001, .int .i64 (-1), .int .i64 k5] 3))
  have R6 := R5.alloc #[.int .i64 0, .int .i64 1, .int .i64 999, .int .i64 1000, .int .i64 100000, .int .i64 100001, .int .i64 (-1), .int .i64 k5] 3
  have Z6 := Z5.b ((Below.refl w5.heap.size w5).alloc (Nat.le_refl _) (.cells #[.int .i64 0, .int .i64 1, .int .i64 999, .int .i64 1000, .int .i64 100000, .int .i64 100001, .int .i64 (-1), .int .i64 k5] 3)) Z5.lt
  refine wpAnyH_ready (rs := [6]) (by kernel_rfl) (by simp) ?_
  refine AllReadyH.cons rfl (fun K hK => ?_) AllReadyH.nil
  go_simp
  skip
  refine hK.out _ _ (⟨db6.c0, db6.c1, db6.c2⟩) (fun hHeld => ?_)
  clear hK K
  try simp only [Act.put, List.setIfInBounds_toArray, List.set_cons_zero, List.set_cons_succ, List.getElem_toArray, List.getElem_cons_zero, List.getElem_cons_succ]
  refine wpAnyH_ready (rs := [7]) (by kernel_rfl) (by simp) ?_
  refine AllReadyH.cons rfl (fun K hK => ?_) AllReadyH.nil
  go_simp
  (go_at_call 34; refine (one_any _ r _ _ 8 8 (-1) 100001 _ R6.rdr (by omega) (by omega) (by omega) (by have := R5.rdr.top; omega) (made_cells _ _ _ _ _ _ rfl (by simp [Ints] <;> omega))).mono ?_; rintro e w7 ⟨z7, rfl, x7, y7, bl7, rd7, fr7⟩; have db7 := db6.far fr7; have R7 := R6.next rd7 bl7 fr7; have Z7 := Z6.b bl7 hRB; clear db5 R5 Z5 db6 R6 Z6 bl7 rd7 fr7)
  refine hK.out _ _ (⟨db7.c0, db7.c1, db7.c2⟩) (fun hHeld => ?_)
  clear hK K
  try simp only [Act.put, List.setIfInBounds_toArray, List.set_cons_zero, List.set_cons_succ, List.getElem_toArray, List.getElem_cons_zero, List.getElem_cons_succ]
  have ew : IntKind.i64.wrap (c + z7) = c + z7 := IntWalk.i64_in _ (by omega)
  have u0 := Z7.c0
  have u1 := Z7.c1
  have u2 := Z7.c2
  have v0 := Z7.f0
  have v1 := Z7.f1
  have v2 := Z7.f2
  refine wpAnyH_take (i := 8) (v := ?_) rfl (by kernel_rfl) (by kernel_rfl) (by kernel_rfl) (fun _ _ _ h => h) (Or.inl ⟨by rfl, ?_⟩) (by assumption) ?_
  rotate_left
  · intro w hSw
    (try dsimp only at hSw)
    go_simp
    all_goals with_reducible rfl
  try simp only [Act.put, List.setIfInBounds_toArray, List.set_cons_zero, List.set_cons_succ, List.getElem_toArray, List.getElem_cons_zero, List.getElem_cons_succ]
  clear ew
  have HZ := Lib.hid (Z7.fin (.int .i64 o) (.int .i64 p) (.int .i64 c))
  have db8 := ((db7.other (i := 0) (v := .int .i64 o) (Ne.symm hDR)).other (i := 1) (v := .int .i64 p) (Ne.symm hDR)).other (i := 2) (v := .int .i64 c) (Ne.symm hDR)
  clear R7 Z7
  refine wpAnyH_ready (rs := [9]) (by kernel_rfl) (by simp) ?_
  refine AllReadyH.cons rfl (fun K hK => ?_) AllReadyH.nil
  go_simp
  skip
  refine hK.out _ _ (⟨db8.c0, db8.c1, db8.c2⟩) (fun hHeld => ?_)
  clear hK K
  try simp only [Act.put, List.setIfInBounds_toArray, List.set_cons_zero, List.set_cons_succ, List.getElem_toArray, List.getElem_cons_zero, List.getElem_cons_succ]
  refine wpAnyH_take (i := 10) (v := ?_) rfl (by kernel_rfl) (by kernel_rfl) (by kernel_rfl) (fun _ _ _ h => h) (Or.inl ⟨by rfl, ?_⟩) (by assumption) ?_
  rotate_left
  · intro w hSw
    (try dsimp only at hSw)
    go_simp
    all_goals with_reducible rfl
  try simp only [Act.put, List.setIfInBounds_toArray, List.set_cons_zero, List.set_cons_succ, List.getElem_toArray, List.getElem_cons_zero, List.getElem_cons_succ]
  refine wpAnyH_done (by kernel_rfl) ?_ _
  go_wp2
  exact bodyPost_ret (v := .tuple #[.agg #[.int .i64 o, .int .i64 p, .int .i64 c], .int .i64 (c + z7)]) (by simp [results, Try.results18, go_sem, u0, u1, u2]) rfl ⟨o, p, c, c + z7, rfl, ho, hp, hc, by omega, HZ.out⟩
set_option maxHeartbeats 4000000 in
theorem DrawStepClock_any (w : World) (a : Option Addr) (len cap : Nat) (h : Code w a len) (hcap : len ≤ cap) : Calls Try.prog 21 #[.slice a len cap] w (FromK3 w) := by
  have Z := Z3.new w 24
  have h1 := h.laterK Z.bel
  go_enter Try.func21, Try.ntmps21
  go_wp2_with fail
  refine (newReader_any _ a len cap h1 hcap).mono ?_
  rintro e w1 ⟨rfl, bl1, rd1⟩
  have Z1 := Z.b bl1 (by simp)
  have h2 := h1.laterK bl1
  clear Z bl1 h1
  have hRB : w.heap.size < (w.alloc (Obj.cells #[.int .i64 0, .int .i64 0, .int .i64 0] 24)).heap.size := by simp
  generalize (w.alloc (Obj.cells #[.int .i64 0, .int .i64 0, .int .i64 0] 24)).heap.size = r at rd1 hRB ⊢
  have R1 := RK.mk0 rd1
  go_wp2_with fail
  refine (DrawOffsetAt_any _ _ _ _ h2 hcap).mono ?_
  rintro e w2 ⟨o, p, c, t, rfl, ho, hp, hc, ht, bl2⟩
  have Z2 := Z1.b bl2 Z1.lt
  have rd2 := rd1.later bl2
  have db : BoxK (w2.alloc (.cells #[.int .i64 o, .int .i64 p, .int .i64 c] 24)) r w2.heap.size o p c := BoxK.new _ _ _ _ rd2.top
  have R2 := (R1.next rd2 (bl2.mono rd1.le) ⟨bl2.size, fun b hb _ => bl2.block b hb⟩).alloc #[.int .i64 o, .int .i64 p, .int .i64 c] 24
  have Z3' := Z2.b (((Below.refl w2.heap.size w2)).alloc (Nat.le_refl _) (.cells #[.int .i64 o, .int .i64 p, .int .i64 c] 24)) Z2.lt
  have hDR : w2.heap.size ≠ w.heap.size := by have := Z2.lt; omega
  clear Z1 Z2 R1 rd1 rd2 bl2
  go_wp2_with fail
  generalize w2.alloc (.cells #[.int .i64 o, .int .i64 p, .int .i64 c] 24) = W at db R2 Z3' ⊢
  generalize w2.heap.size = D at db hDR ⊢
  refine wp_region_held_drew (S := (fun w' => w'.cell? ⟨D, 0, none⟩ = some (.int .i64 o) ∧ w'.cell? ⟨D, 1, none⟩ = some (.int .i64 p) ∧ w'.cell? ⟨D, 2, none⟩ = some (.int .i64 c))) (by kernel_rfl) (⟨db.c0, db.c1, db.c2⟩) (fun hHeld => ?_)
  have db' := db.drew
  have R3 := R2.drew
  have Z4 := Z3'.drew
  clear db R2 Z3'
  generalize W.drew = V at *
  refine wpAnyH_take (i := 0) (v := ?_) rfl (by kernel_rfl) (by kernel_rfl) (by kernel_rfl) (fun _ _ _ h => h) (Or.inl ⟨by rfl, ?_⟩) (by assumption) ?_
  rotate_left
  · intro w hSw
    (try dsimp only at hSw)
    go_simp
    all_goals with_reducible rfl
  try simp only [Act.put, List.setIfInBounds_toArray, List.set_cons_zero, List.set_cons_succ, List.getElem_toArray, List.getElem_cons_zero]
  refine wpAnyH_take (i := 1) (v := ?_) rfl (by kernel_rfl) (by kernel_rfl) (by kernel_rfl) (fun _ _ _ h => h) (Or.inl ⟨by rfl, ?_⟩) (by assumption) ?_
  rotate_left
  · intro w hSw
    (try dsimp only at hSw)
    go_simp
    all_goals with_reducible rfl
  try simp only [Act.put, List.setIfInBounds_toArray, List.set_cons_zero, List.set_cons_succ, List.getElem_toArray, List.getElem_cons_zero, List.getElem_cons_succ]
  refine wpAnyH_take (i := 2) (v := ?_) rfl (by kernel_rfl) (by kernel_rfl) (by kernel_rfl) (fun _ _ _ h => h) (Or.inl ⟨by rfl, ?_⟩) (by assumption) ?_
  rotate_left
  · intro w hSw
    (try dsimp only at hSw)
    go_simp
    all_goals with_reducible rfl
  try simp only [Act.put, List.setIfInBounds_toArray, List.set_cons_zero, List.set_cons_succ, List.getElem_toArray, List.getElem_cons_zero, List.getElem_cons_succ]
  refine wpAnyH_ready (rs := [3]) (by kernel_rfl) (by simp) ?_
  refine AllReadyH.cons rfl (fun K hK => ?_) AllReadyH.nil
  go_simp
  (go_at_call 40; refine (anyOffK_any _ r _ _ R3.rdr (by omega)).mono ?_; rintro e w7 ⟨z7, rfl, x7, y7, bl7, rd7, fr7⟩; have db7 := db'.far fr7; have Z7 := Z4.b bl7 hRB; clear db' R3 Z4 bl7 rd7 fr7)
  refine hK.out _ _ (⟨db7.c0, db7.c1, db7.c2⟩) (fun hHeld => ?_)
  clear hK K
  try simp only [Act.put, List.setIfInBounds_toArray, List.set_cons_zero, List.set_cons_succ, List.getElem_toArray, List.getElem_cons_zero, List.getElem_cons_succ]
  have u0 := Z7.c0
  have u1 := Z7.c1
  have u2 := Z7.c2
  have v0 := Z7.f0
  have v1 := Z7.f1
  have v2 := Z7.f2
  have HZ := Lib.hid (Z7.fin (.int .i64 o) (.int .i64 p) (.int .i64 c))
  have db8 := ((db7.other (i := 0) (v := .int .i64 o) (Ne.symm hDR)).other (i := 1) (v := .int .i64 p) (Ne.symm hDR)).other (i := 2) (v := .int .i64 c) (Ne.symm hDR)
  clear Z7
  refine wpAnyH_ready (rs := [4]) (by kernel_rfl) (by simp) ?_
  refine AllReadyH.cons rfl (fun K hK => ?_) AllReadyH.nil
  go_simp
  skip
  refine hK.out _ _ (⟨db8.c0, db8.c1, db8.c2⟩) (fun hHeld => ?_)
  clear hK K
  try simp only [Act.put, List.setIfInBounds_toArray, List.set_cons_zero, List.set_cons_succ, List.getElem_toArray, List.getElem_cons_zero, List.getElem_cons_succ]
  refine wpAnyH_take (i := 5) (v := ?_) rfl (by kernel_rfl) (by kernel_rfl) (by kernel_rfl) (fun _ _ _ h => h) (Or.inl ⟨by rfl, ?_⟩) (by assumption) ?_
  rotate_left
  · intro w hSw
    (try dsimp only at hSw)
    go_simp
    all_goals with_reducible rfl
  try simp only [Act.put, List.setIfInBounds_toArray, List.set_cons_zero, List.set_cons_succ, List.getElem_toArray, List.getElem_cons_zero, List.getElem_cons_succ]
  refine wpAnyH_take (i := 6) (v := ?_) rfl (by kernel_rfl) (by kernel_rfl) (by kernel_rfl) (fun _ _ _ h => h) (Or.inl ⟨by rfl, ?_⟩) (by assumption) ?_
  rotate_left
  · intro w hSw
    (try dsimp only at hSw)
    go_simp
    all_goals with_reducible rfl
  try simp only [Act.put, List.setIfInBounds_toArray, List.set_cons_zero, List.set_cons_succ, List.getElem_toArray, List.getElem_cons_zero, List.getElem_cons_succ]
  refine wpAnyH_done (by kernel_rfl) ?_ _
  go_wp2
  exact bodyPost_ret (v := .tuple #[.agg #[.int .i64 o, .int .i64 p, .int .i64 c], .int .i64 t, .int .i64 z7]) (by simp [results, Try.results21, go_sem, u0, u1, u2]) rfl ⟨o, p, c, t, z7, rfl, ho, hp, hc, ht, ⟨x7, y7⟩, HZ.out⟩
end Go.Proofs.Ytmkeddcaeaaoaaa
