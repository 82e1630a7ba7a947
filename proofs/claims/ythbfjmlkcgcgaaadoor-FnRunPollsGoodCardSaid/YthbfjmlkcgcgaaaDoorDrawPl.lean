/-
  The generators of polls (chapter 13): some arguments, and nothing that was there has changed. Condition: the code has at most 1048576 bytes.
-/
import Derived.Test.YthbfjmlkcgcgaaaDoorDrawPk
import Derived.Test.YthbfjmlkcgcgaaaDoorTable
namespace Go.Proofs.YthbfjmlkcgcgaaaDoor
open Go.RowKit
set_option linter.unusedVariables false
set_option maxRecDepth 100000
/-- The state of a draw: the reader, a result at E, a struct at D. -/
structure PG (B : Nat) (w0 w1 w : World) (r m E D : Nat) (ze l : List Int) : Prop where
  R : RK B w1 w r m
  b1 : Below w0.heap.size w0 w1
  e : BoxN w r E ze
  d : BoxN w r D l
  hE : w0.heap.size ≤ E
  hD : w1.heap.size ≤ D
  hDE : D ≠ E
  hB : w0.heap.size ≤ B
section
variable {B r m m' E D : Nat} {w0 w1 w w' : World} {ze l : List Int}
theorem PG.next (h : PG B w0 w1 w r m E D ze l) (rd : Rdr B w' r m') (bl : Below B w w') (fr : Far w r w') : PG B w0 w1 w' r m' E D ze l :=
  ⟨h.R.next rd bl fr, h.b1, h.e.far fr, h.d.far fr, h.hE, h.hD, h.hDE, h.hB⟩
theorem PG.step (h : PG B w0 w1 w r m E D ze l) (st : Step B w r m' w') : PG B w0 w1 w' r m' E D ze l := h.next st.rdr st.bel st.far
theorem PG.alloc (h : PG B w0 w1 w r m E D ze l) (c : Array Value) (t : TypeId) : PG B w0 w1 (w.alloc (.cells c t)) r m E D ze l :=
  h.next (h.R.rdr.alloc c t) ((Below.refl _ _).alloc h.R.rdr.le _) ((Far.refl _ _).alloc _)
theorem PG.drew (h : PG B w0 w1 w r m E D ze l) : PG B w0 w1 w.drew r m E D ze l := h.next h.R.rdr.drew ((Below.refl _ _).drew) ⟨Nat.le_refl _, fun _ _ _ => rfl⟩
theorem PG.mono (h : PG B w0 w1 w r m E D ze l) (hm : m ≤ m') : PG B w0 w1 w r m' E D ze l := { h with R := h.R.mono hm }
theorem PG.bel (h : PG B w0 w1 w r m E D ze l) : Below w0.heap.size w0 w := h.b1.trans (h.R.bel.mono h.hB)
end
/-- Some state of polls. -/
def AnyPl (B : Nat) (w : World) (r m : Nat) (e : Ending) (w' : World) : Prop := ∃ p c : Int, e = .returned (.agg #[.int .i64 p, .int .i64 c]) ∧ RK B w w' r m
set_option maxHeartbeats 4000000 in
theorem anyPoll_any (B r m : Nat) (w : World) (h : Rdr B w r m) (hm : m ≤ 500) : Calls Tryd.prog 24 #[.pointer (some ⟨r, 0, none⟩)] w (AnyPl B w r (m + 5)) := by
  have rb : BoxN (w.alloc (.cells #[.int .i64 0, .int .i64 0] 24)) r w.heap.size [0, 0] := BoxN.new [0, 0] _ h.top
  have R1 := (RK.mk0 h).alloc #[.int .i64 0, .int .i64 0] 24
  have hrE : r < w.heap.size := h.top
  go_enter Tryd.func24, Tryd.ntmps24
  go_wp2_with fail
  generalize hW : w.alloc (.cells #[.int .i64 0, .int .i64 0] 24) = W at rb R1 ⊢
  clear hW
  refine (pick_any B r _ _ _ R1.rdr (by omega)).mono ?_
  rintro e w2 ⟨k2, rfl, a2, b2, st2⟩
  have c2 : k2 ≤ 100 := by omega
  have R2 := R1.step st2
  have rb2 := rb.far st2.far
  clear b2 st2 R1 rb
  go_wp2_with fail
  refine (pick_any B r _ _ _ R2.rdr (by omega)).mono ?_
  rintro e w3 ⟨k3, rfl, a3, b3, st3⟩
  have c3 : k3 ≤ 100 := by omega
  have R3 := R2.step st3
  have rb3 := rb2.far st3.far
  clear b3 st3 R2 rb2
  have db : BoxN (w3.alloc (.cells #[.int .i64 (4 + k2), .int .i64 (k3 - 30)] 24)) r w3.heap.size [4 + k2, k3 - 30] := BoxN.new [4 + k2, k3 - 30] _ R3.rdr.top
  have rb4 := rb3.far ((Far.refl _ _).alloc (.cells #[.int .i64 (4 + k2), .int .i64 (k3 - 30)] 24))
  have R4 := R3.alloc #[.int .i64 (4 + k2), .int .i64 (k3 - 30)] 24
  have hDR : w3.heap.size ≠ w.heap.size := by have := rb3.top; omega
  have hDB : w.heap.size ≤ w3.heap.size := R3.far.size
  clear R3 rb3
  go_wp2_with fail
  generalize w3.alloc (.cells #[.int .i64 (4 + k2), .int .i64 (k3 - 30)] 24) = V at db rb4 R4 ⊢
  generalize w3.heap.size = D at db hDR hDB ⊢
  refine (pick_any B r _ _ _ R4.rdr (by omega)).mono ?_
  rintro e w5 ⟨k5, rfl, a5, b5, st5⟩
  have R5 := R4.step st5
  have db5 := db.far st5.far
  have rb5 := rb4.far st5.far
  clear b5 st5 R4 db rb4
  by_cases h0 : k5 = 0
  · subst h0
    go_wp2_with fail
    refine (one_any B r _ _ _ _ 3 11 _ (R5.alloc _ _).rdr (by omega) (by omega) (by omega) (by have := R5.rdr.top; omega) ?_).mono ?_
    · exact made_cells _ _ _ _ _ _ rfl (by simp [Ints])
    rintro e w7 ⟨z7, rfl, x7, y7, bl7, rd7, fr7⟩
    have R7 := (R5.alloc _ _).next rd7 bl7 fr7
    have db7 := (db5.far ((Far.refl _ _).alloc _)).far fr7
    have rb7 := (rb5.far ((Far.refl _ _).alloc _)).far fr7
    clear bl7 rd7 fr7 R5 db5 rb5
    go_wp2_with fail
    refine (one_any B r _ _ _ _ (-31) 31 _ (R7.alloc _ _).rdr (by omega) (by omega) (by omega) (by have := R7.rdr.top; omega) ?_).mono ?_
    · exact made_cells _ _ _ _ _ _ rfl (by simp [Ints])
    rintro e w8 ⟨z8, rfl, x8, y8, bl8, rd8, fr8⟩
    have R8 := (R7.alloc _ _).next rd8 bl8 fr8
    have db8 := (db7.far ((Far.refl _ _).alloc _)).far fr8
    have rb8 := (rb7.far ((Far.refl _ _).alloc _)).far fr8
    clear bl8 rd8 fr8 R7 db7 rb7
    have db9 := (db8.set 0 (by simp) z7).set 1 (by simp) z8
    have rb9 := (rb8.other (i := 0) (v := .int .i64 z7) hDR).other (i := 1) (v := .int .i64 z8) hDR
    have R9 := Lib.hid ((R8.set (i := 0) (v := .int .i64 z7) hDB).set (i := 1) (v := .int .i64 z8) hDB)
    have p0 : w8.cell? ⟨D, 0, none⟩ = some (.int .i64 (4 + k2)) := (db8.at_ 0 (by simp)).1
    have p1 : w8.cell? ⟨D, 1, none⟩ = some (.int .i64 (k3 - 30)) := (db8.at_ 1 (by simp)).1
    have q0 := (db8.at_ 0 (by simp)).2
    have q1 := (db8.at_ 1 (by simp)).2
    clear R8 rb8 db8
    go_upto_region 4 with (fail)
    clear p0 p1 q0 q1
    generalize (w8.setCell ⟨D, 0, none⟩ (.int .i64 z7)).setCell ⟨D, 1, none⟩ (.int .i64 z8) = X at db9 rb9 R9 ⊢
    have hfin := Lib.hid ((R9.out.set (i := 0) (v := .int .i64 z7) (Nat.le_refl _)).set (i := 1) (v := .int .i64 z8) (Nat.le_refl _))
    have u0 : X.cell? ⟨w.heap.size, 0, none⟩ = some (.int .i64 0) := (rb9.at_ 0 (by simp)).1
    have u1 : X.cell? ⟨w.heap.size, 1, none⟩ = some (.int .i64 0) := (rb9.at_ 1 (by simp)).1
    have v0 := (rb9.at_ 0 (by simp)).2
    have v1 := (rb9.at_ 1 (by simp)).2
    have p0 : X.cell? ⟨D, 0, none⟩ = some (.int .i64 z7) := (db9.at_ 0 (by simp)).1
    have p1 : X.cell? ⟨D, 1, none⟩ = some (.int .i64 z8) := (db9.at_ 1 (by simp)).1
    clear R9 db9 rb9
    go_wp2
    exact bodyPost_ret (v := .agg #[.int .i64 z7, .int .i64 z8]) (by simp [results, Tryd.results24, go_sem, u0, u1]) rfl ⟨_, _, rfl, hfin.out.mono (by omega)⟩
  · have h0' : (k5 == 0) = false := by simpa using h0
    clear h0
    have hfin := Lib.hid ((R5.set (i := 0) (v := .int .i64 (4 + k2)) (Nat.le_refl _)).set (i := 1) (v := .int .i64 (k3 - 30)) (Nat.le_refl _))
    have u0 : w5.cell? ⟨w.heap.size, 0, none⟩ = some (.int .i64 0) := (rb5.at_ 0 (by simp)).1
    have u1 : w5.cell? ⟨w.heap.size, 1, none⟩ = some (.int .i64 0) := (rb5.at_ 1 (by simp)).1
    have v0 := (rb5.at_ 0 (by simp)).2
    have v1 := (rb5.at_ 1 (by simp)).2
    have p0 : w5.cell? ⟨D, 0, none⟩ = some (.int .i64 (4 + k2)) := (db5.at_ 0 (by simp)).1
    have p1 : w5.cell? ⟨D, 1, none⟩ = some (.int .i64 (k3 - 30)) := (db5.at_ 1 (by simp)).1
    clear R5 db5 rb5
    go_wp2
    exact bodyPost_ret (v := .agg #[.int .i64 (4 + k2), .int .i64 (k3 - 30)]) (by simp [results, Tryd.results24, go_sem, u0, u1]) rfl ⟨_, _, rfl, hfin.out.mono (by omega)⟩
def FromPl1 (w : World) (e : Ending) (w' : World) : Prop := ∃ p c : Int, e = .returned (.agg #[.int .i64 p, .int .i64 c]) ∧ Below w.heap.size w w'
theorem offT2_any (B r m : Nat) (w : World) (h : Rdr B w r m) (hm : m ≤ 1000) : Calls Tryd.prog 34 #[.pointer (some ⟨r, 0, none⟩)] w (Num B w r (m + 2) (-1000000) 1000000) := by
  go_enter Tryd.func34, Tryd.ntmps34
  go_wp2_with fail
  refine (pick_any B r _ _ _ h (by omega)).mono ?_
  rintro e w1 ⟨k1, rfl, a1, b1, st1⟩
  have c1 : k1 ≤ 250 := by omega
  clear b1
  go_wp2_with fail
  refine (one_any B r _ _ _ _ (-1000000) 1000000 _ (st1.rdr.alloc _ _) (by omega) (by omega) (by omega) (by have := st1.rdr.top; omega) ?_).mono ?_
  · exact made_cells _ _ _ _ _ _ rfl (by simp [Ints] <;> omega)
  rintro e w2 ⟨z2, rfl, x2, y2, bl2, rd2, fr2⟩
  have T := Lib.hid (And.intro ((st1.bel.alloc st1.rdr.le _).trans bl2) (And.intro rd2 ((st1.far.alloc _).trans fr2)))
  clear bl2 rd2 fr2 st1
  go_wp2
  go_ret
  exact ⟨z2, rfl, x2, y2, T.out⟩
theorem anyOffset_any (B r m : Nat) (w : World) (h : Rdr B w r m) (hm : m ≤ 900) : Calls Tryd.prog 25 #[.pointer (some ⟨r, 0, none⟩)] w (Num B w r (m + 3) (-1000001) 1000001) := by
  go_enter Tryd.func25, Tryd.ntmps25
  go_wp2_with fail
  refine (pick_any B r _ _ _ h (by omega)).mono ?_
  rintro e w1 ⟨k1, rfl, a1, b1, st1⟩
  clear b1
  by_cases h0 : k1 = 0
  · subst h0
    go_wp2_with fail
    refine (one_any B r _ _ _ _ (-1000001) 1000001 _ (st1.rdr.alloc _ _) (by omega) (by omega) (by omega) (by have := st1.rdr.top; omega) ?_).mono ?_
    · exact made_cells _ _ _ _ _ _ rfl (by simp [Ints])
    rintro e w2 ⟨z2, rfl, x2, y2, bl2, rd2, fr2⟩
    have T := Lib.hid (And.intro ((st1.bel.alloc st1.rdr.le _).trans bl2) (And.intro (rd2.mono (show m + 1 + 1 ≤ m + 3 by omega)) ((st1.far.alloc _).trans fr2)))
    clear bl2 rd2 fr2 st1
    go_wp2
    go_ret
    exact ⟨z2, rfl, x2, y2, T.out⟩
  · have h0' : (k1 == 0) = false := by simpa using h0
    clear h0
    go_wp2_with fail
    refine (offT2_any B r _ _ st1.rdr (by omega)).mono ?_
    rintro e w2 ⟨z2, rfl, x2, y2, bl2, rd2, fr2⟩
    have T := Lib.hid (And.intro (st1.bel.trans bl2) (And.intro rd2 (st1.far.trans fr2)))
    clear bl2 rd2 fr2 st1
    go_wp2
    go_ret
    exact ⟨z2, rfl, by omega, by omega, T.out⟩
def FromNp (w : World) (e : Ending) (w' : World) : Prop := ∃ p c o j : Int, e = .returned (.tuple #[.agg #[.int .i64 p, .int .i64 c], .int .i64 o, .int .i64 j]) ∧ (-1000001 ≤ o ∧ o ≤ 1000001) ∧ (-1000001 ≤ j ∧ j ≤ 1000001) ∧ Below w.heap.size w w'
set_option maxHeartbeats 4000000 in
theorem DrawNextPoll_any (w : World) (a : Option Addr) (len cap : Nat) (h : Code w a len) (hcap : len ≤ cap) : Calls Tryd.prog 11 #[.slice a len cap] w (FromNp w) := by
  have Z := (Below.refl w.heap.size w).alloc (Nat.le_refl _) (.cells #[.int .i64 0, .int .i64 0] 24)
  have zE : BoxN (w.alloc (.cells #[.int .i64 0, .int .i64 0] 24)) (w.heap.size + 1) w.heap.size [0, 0] := BoxN.mk (by omega) (by simp) (fun i hi => by
    rcases (show i = 0 ∨ i = 1 by simp at hi; omega) with rfl | rfl <;> exact ⟨by simp, by simp⟩)
  have h1 := h.laterP Z
  go_enter Tryd.func11, Tryd.ntmps11
  go_wp2_with fail
  refine (newReader_any _ a len cap h1 hcap).mono ?_
  rintro e w1 ⟨rfl, bl1, rd1⟩
  rw [World.size_alloc] at bl1 rd1
  rw [World.size_alloc]
  have b1 := Z.trans (bl1.mono (Nat.le_succ _))
  have e1 : BoxN w1 (w.heap.size + 1) w.heap.size [0, 0] := BoxN.mk (by omega) (Nat.lt_of_lt_of_le (by simp) bl1.size) (fun i hi => ⟨(bl1.cell (p := ⟨w.heap.size, i, none⟩) (Nat.lt_succ_self _)).trans (zE.at_ i hi).1, (bl1.frozen (p := ⟨w.heap.size, i, none⟩) (Nat.lt_succ_self _)).trans (zE.at_ i hi).2⟩)
  have R1 := RK.mk0 rd1
  generalize hr : w.heap.size + 1 = r at *
  clear bl1 zE Z h1
  go_wp2_with fail
  refine (anyPoll_any _ _ _ _ rd1 (by omega)).mono ?_
  rintro e w2 ⟨p, c, rfl, R⟩
  have P0 : PG r w w1 (w2.alloc (.cells #[.int .i64 p, .int .i64 c] 24)) r (0 + 5) w.heap.size w2.heap.size [0, 0] [p, c] :=
    ⟨R.alloc _ _, b1, (e1.far R.far).far ((Far.refl _ _).alloc _), BoxN.new [p, c] _ R.rdr.top, Nat.le_refl _, R.far.size, by have := R.rdr.top; omega, by omega⟩
  clear R e1 R1 rd1 b1
  go_wp2_with fail
  generalize w2.alloc (.cells #[.int .i64 p, .int .i64 c] 24) = W at P0 ⊢
  generalize w2.heap.size = D at P0 ⊢
  refine (anyOffset_any _ r _ _ P0.R.rdr (by omega)).mono ?_
  rintro e w4 ⟨z4, rfl, lo4, hi4, bl, rd, fr⟩
  have P4 := P0.next rd bl fr
  clear bl rd fr P0
  go_wp2_with fail
  have PV := P4.drew
  clear P4
  refine wp_region_held_drew (S := (fun w' => w'.cell? ⟨D, 0, none⟩ = some (.int .i64 p) ∧ w'.cell? ⟨D, 1, none⟩ = some (.int .i64 c))) (by kernel_rfl) (⟨(PV.d.at_ 0 (by simp)).1, (PV.d.at_ 1 (by simp)).1⟩) (fun hHeld => ?_)
  generalize w4.drew = X9 at *
  refine wpAnyH_take (i := 0) (v := ?_) rfl (by kernel_rfl) (by kernel_rfl) (by kernel_rfl) (fun _ _ _ h => h) (Or.inl ⟨by rfl, ?_⟩) (by assumption) ?_
  rotate_left
  · intro w hSw
    (try dsimp only at hSw)
    go_simp
    all_goals with_reducible rfl
  try simp only [Act.put, List.setIfInBounds_toArray, List.set_cons_zero, List.set_cons_succ, List.getElem_toArray, List.getElem_cons_zero]
  refine wpAnyH_take (i := 1) (v := ?_) rfl (by kernel_rfl) (by kernel_rfl) (by kernel_rfl) (fun _ _ _ h => h) (Or.inl ⟨by rfl, ?_⟩) (by assumption) ?_
  rotate_left
  · intro w hSw
    (try dsimp only at hSw)
    go_simp
    all_goals with_reducible rfl
  try simp only [Act.put, List.setIfInBounds_toArray, List.set_cons_zero, List.set_cons_succ, List.getElem_toArray, List.getElem_cons_zero, List.getElem_cons_succ]
  refine wpAnyH_take (i := 2) (v := ?_) rfl (by kernel_rfl) (by kernel_rfl) (by kernel_rfl) (fun _ _ _ h => h) (Or.inl ⟨by rfl, ?_⟩) (by assumption) ?_
  rotate_left
  · intro w hSw
    (try dsimp only at hSw)
    go_simp
    all_goals with_reducible rfl
  try simp only [Act.put, List.setIfInBounds_toArray, List.set_cons_zero, List.set_cons_succ, List.getElem_toArray, List.getElem_cons_zero, List.getElem_cons_succ]
  have PW := PV.alloc #[.int .i64 0, .int .i64 25, .int .i64 100, .int .i64 1250, .int .i64 1000000, .int .i64 1000001, .int .i64 (-1)] 3
  have hLr : X9.heap.size ≠ r := by have := PV.R.rdr.top; omega
  refine wpAnyH_ready (rs := [3]) (by kernel_rfl) (by simp) ?_
  refine AllReadyH.cons rfl (fun K hK => ?_) AllReadyH.nil
  go_simp
  skip
  refine hK.out _ _ (⟨(PW.d.at_ 0 (by simp)).1, (PW.d.at_ 1 (by simp)).1⟩) (fun hHeld => ?_)
  clear hK K
  try simp only [Act.put, List.setIfInBounds_toArray, List.set_cons_zero, List.set_cons_succ, List.getElem_toArray, List.getElem_cons_zero, List.getElem_cons_succ]
  refine wpAnyH_ready (rs := [4]) (by kernel_rfl) (by simp) ?_
  refine AllReadyH.cons rfl (fun K hK => ?_) AllReadyH.nil
  go_simp
  (go_at_call 26; refine (one_any _ r _ _ _ _ (-1) 1000001 _ PW.R.rdr (by omega) (by omega) (by omega) hLr ?_).mono ?_)
  · exact made_cells _ _ _ _ _ _ rfl (by simp [Ints])
  rintro e V11 ⟨z11, rfl, lo11, hi11, bl, rd, fr⟩
  have PX := PW.next rd bl fr
  refine hK.out _ _ ⟨(PX.d.at_ 0 (by simp)).1, (PX.d.at_ 1 (by simp)).1⟩ (fun hHeld => ?_)
  clear hK K bl rd fr PW PV
  try simp only [Act.put, List.setIfInBounds_toArray, List.set_cons_zero, List.set_cons_succ, List.getElem_toArray, List.getElem_cons_zero, List.getElem_cons_succ]
  have u0 : V11.cell? ⟨w.heap.size, 0, none⟩ = some (.int .i64 0) := (PX.e.at_ 0 (by simp)).1
  have u1 : V11.cell? ⟨w.heap.size, 1, none⟩ = some (.int .i64 0) := (PX.e.at_ 1 (by simp)).1
  have v0 := (PX.e.at_ 0 (by simp)).2
  have v1 := (PX.e.at_ 1 (by simp)).2
  have hDE := PX.hDE
  have d9 := (PX.d.other (i := 0) (v := .int .i64 p) hDE.symm).other (i := 1) (v := .int .i64 c) hDE.symm
  have HN := Lib.hid ((PX.bel.setCell (p := ⟨w.heap.size, 0, none⟩) (Nat.le_refl _) (.int .i64 p)).setCell (p := ⟨w.heap.size, 1, none⟩) (Nat.le_refl _) (.int .i64 c))
  refine wpAnyH_ready (rs := [5]) (by kernel_rfl) (by simp) ?_
  refine AllReadyH.cons rfl (fun K hK => ?_) AllReadyH.nil
  go_simp
  skip
  refine hK.out _ _ (⟨(d9.at_ 0 (by simp)).1, (d9.at_ 1 (by simp)).1⟩) (fun hHeld => ?_)
  clear hK K
  try simp only [Act.put, List.setIfInBounds_toArray, List.set_cons_zero, List.set_cons_succ, List.getElem_toArray, List.getElem_cons_zero, List.getElem_cons_succ]
  refine wpAnyH_take (i := 6) (v := ?_) rfl (by kernel_rfl) (by kernel_rfl) (by kernel_rfl) (fun _ _ _ h => h) (Or.inl ⟨by rfl, ?_⟩) (by assumption) ?_
  rotate_left
  · intro w hSw
    (try dsimp only at hSw)
    go_simp
    all_goals with_reducible rfl
  try simp only [Act.put, List.setIfInBounds_toArray, List.set_cons_zero, List.set_cons_succ, List.getElem_toArray, List.getElem_cons_zero, List.getElem_cons_succ]
  refine wpAnyH_take (i := 7) (v := ?_) rfl (by kernel_rfl) (by kernel_rfl) (by kernel_rfl) (fun _ _ _ h => h) (Or.inl ⟨by rfl, ?_⟩) (by assumption) ?_
  rotate_left
  · intro w hSw
    (try dsimp only at hSw)
    go_simp
    all_goals with_reducible rfl
  try simp only [Act.put, List.setIfInBounds_toArray, List.set_cons_zero, List.set_cons_succ, List.getElem_toArray, List.getElem_cons_zero, List.getElem_cons_succ]
  refine wpAnyH_done (by kernel_rfl) ?_ _
  clear hHeld d9
  go_wp2
  exact bodyPost_ret (v := .tuple #[.agg #[.int .i64 p, .int .i64 c], .int .i64 z4, .int .i64 z11]) (by simp [results, Tryd.results11, go_sem, u0, u1]) rfl ⟨_, _, _, _, rfl, ⟨lo4, hi4⟩, by omega, HN.out⟩
end Go.Proofs.YthbfjmlkcgcgaaaDoor
