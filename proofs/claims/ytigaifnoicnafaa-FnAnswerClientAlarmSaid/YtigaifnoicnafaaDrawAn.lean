/-
  The generators of questions and answers (chapter 11): some arguments, and nothing that was there has changed. Condition: the code has at most 1048576 bytes.
-/
import Derived.Test.YtigaifnoicnafaaDrawPk
import Derived.Test.YtigaifnoicnafaaAnswer
namespace Go.Proofs.Ytigaifnoicnafaa
open Go.RowKit
set_option linter.unusedVariables false
set_option maxRecDepth 100000
/-- The state of a draw: the reader, a result of eight zeros at E, a packet at D. -/
structure PD (B : Nat) (w0 w1 w : World) (r m E D : Nat) (l : List Int) : Prop where
  R : RK B w1 w r m
  b1 : Below w0.heap.size w0 w1
  e : BoxN w r E [0, 0, 0, 0, 0, 0, 0, 0]
  d : BoxN w r D l
  hE : w0.heap.size ≤ E
  hD : w1.heap.size ≤ D
  hDE : D ≠ E
  hB : w0.heap.size ≤ B
  len : l.length = 8
section
variable {B r m m' E D : Nat} {w0 w1 w w' : World} {l : List Int}
theorem PD.next (h : PD B w0 w1 w r m E D l) (rd : Rdr B w' r m') (bl : Below B w w') (fr : Far w r w') : PD B w0 w1 w' r m' E D l :=
  ⟨h.R.next rd bl fr, h.b1, h.e.far fr, h.d.far fr, h.hE, h.hD, h.hDE, h.hB, h.len⟩
theorem PD.step (h : PD B w0 w1 w r m E D l) (st : Step B w r m' w') : PD B w0 w1 w' r m' E D l := h.next st.rdr st.bel st.far
theorem PD.alloc (h : PD B w0 w1 w r m E D l) (c : Array Value) (t : TypeId) : PD B w0 w1 (w.alloc (.cells c t)) r m E D l :=
  h.next (h.R.rdr.alloc c t) ((Below.refl _ _).alloc h.R.rdr.le _) ((Far.refl _ _).alloc _)
theorem PD.b (h : PD B w0 w1 w r m E D l) (q : Below w.heap.size w w') : PD B w0 w1 w' r m E D l := h.next (h.R.rdr.later q) (q.mono h.R.rdr.le) (Below.far q)
theorem PD.drew (h : PD B w0 w1 w r m E D l) : PD B w0 w1 w.drew r m E D l := h.next h.R.rdr.drew ((Below.refl _ _).drew) ⟨Nat.le_refl _, fun _ _ _ => rfl⟩
theorem PD.mono (h : PD B w0 w1 w r m E D l) (hm : m ≤ m') : PD B w0 w1 w r m' E D l := { h with R := h.R.mono hm }
theorem PD.set (h : PD B w0 w1 w r m E D l) (j : Nat) (hj : j < 8) (x : Int) : PD B w0 w1 (w.setCell ⟨D, j, none⟩ (.int .i64 x)) r m E D (l.set j x) :=
  ⟨h.R.set h.hD, h.b1, h.e.other h.hDE, h.d.set j (by rw [h.len]; exact hj) x, h.hE, h.hD, h.hDE, h.hB, by rw [List.length_set]; exact h.len⟩
theorem PD.bel (h : PD B w0 w1 w r m E D l) : Below w0.heap.size w0 w := h.b1.trans (h.R.bel.mono h.hB)
theorem PD.fin (h : PD B w0 w1 w r m E D l) (x0 x1 x2 x3 x4 x5 x6 x7 : Value) : Below w0.heap.size w0 ((((((((w.setCell ⟨E, 0, none⟩ x0).setCell ⟨E, 1, none⟩ x1).setCell ⟨E, 2, none⟩ x2).setCell ⟨E, 3, none⟩ x3).setCell ⟨E, 4, none⟩ x4).setCell ⟨E, 5, none⟩ x5).setCell ⟨E, 6, none⟩ x6).setCell ⟨E, 7, none⟩ x7) := fin8 h.bel h.hE _ _ _ _ _ _ _ _
theorem PD.all {y0 y1 y2 y3 y4 y5 y6 y7 : Int} (h : PD B w0 w1 w r m E D [y0, y1, y2, y3, y4, y5, y6, y7]) : w.cell? ⟨D, 0, none⟩ = some (.int .i64 y0) ∧ w.cell? ⟨D, 1, none⟩ = some (.int .i64 y1) ∧ w.cell? ⟨D, 2, none⟩ = some (.int .i64 y2) ∧ w.cell? ⟨D, 3, none⟩ = some (.int .i64 y3) ∧ w.cell? ⟨D, 4, none⟩ = some (.int .i64 y4) ∧ w.cell? ⟨D, 5, none⟩ = some (.int .i64 y5) ∧ w.cell? ⟨D, 6, none⟩ = some (.int .i64 y6) ∧ w.cell? ⟨D, 7, none⟩ = some (.int .i64 y7) ∧ PD B w0 w1 w r m E D [y0, y1, y2, y3, y4, y5, y6, y7] :=
  ⟨(h.d.at_ 0 (by simp)).1, (h.d.at_ 1 (by simp)).1, (h.d.at_ 2 (by simp)).1, (h.d.at_ 3 (by simp)).1, (h.d.at_ 4 (by simp)).1, (h.d.at_ 5 (by simp)).1, (h.d.at_ 6 (by simp)).1, (h.d.at_ 7 (by simp)).1, h⟩
end
theorem BoxN.all8 {w : World} {r D : Nat} {y0 y1 y2 y3 y4 y5 y6 y7 : Int} (h : BoxN w r D [y0, y1, y2, y3, y4, y5, y6, y7]) : w.cell? ⟨D, 0, none⟩ = some (.int .i64 y0) ∧ w.cell? ⟨D, 1, none⟩ = some (.int .i64 y1) ∧ w.cell? ⟨D, 2, none⟩ = some (.int .i64 y2) ∧ w.cell? ⟨D, 3, none⟩ = some (.int .i64 y3) ∧ w.cell? ⟨D, 4, none⟩ = some (.int .i64 y4) ∧ w.cell? ⟨D, 5, none⟩ = some (.int .i64 y5) ∧ w.cell? ⟨D, 6, none⟩ = some (.int .i64 y6) ∧ w.cell? ⟨D, 7, none⟩ = some (.int .i64 y7) :=
  ⟨(h.at_ 0 (by simp)).1, (h.at_ 1 (by simp)).1, (h.at_ 2 (by simp)).1, (h.at_ 3 (by simp)).1, (h.at_ 4 (by simp)).1, (h.at_ 5 (by simp)).1, (h.at_ 6 (by simp)).1, (h.at_ 7 (by simp)).1⟩
theorem last9 {A0 A1 A2 A3 A4 A5 A6 A7 P : Prop} (h : A0 ∧ A1 ∧ A2 ∧ A3 ∧ A4 ∧ A5 ∧ A6 ∧ A7 ∧ P) : P := h.2.2.2.2.2.2.2.2
theorem DrawAskServer_any (w : World) (a : Option Addr) (len cap : Nat) (h : Code w a len) (hcap : len ≤ cap) : Calls Try.prog 12 #[.slice a len cap] w (FromN1 w) := by
  go_enter Try.func12, Try.ntmps12
  go_wp2_with fail
  refine (DrawSplitStamp_any w a len cap h hcap).mono ?_
  rintro e w0 ⟨z, rfl, hz, bl⟩
  go_wp2
  go_ret
  exact ⟨z, rfl, hz, bl⟩
def FromAn (w : World) (e : Ending) (w' : World) : Prop := ∃ x0 x1 x2 x3 x4 x5 x6 x7 r s lv sp : Int, e = .returned (.tuple #[.agg #[.int .i64 x0, .int .i64 x1, .int .i64 x2, .int .i64 x3, .int .i64 x4, .int .i64 x5, .int .i64 x6, .int .i64 x7], .int .i64 r, .int .i64 s, .int .i64 lv, .int .i64 sp]) ∧ Below w.heap.size w w'
set_option maxHeartbeats 8000000 in
theorem DrawAnswerClient_any (w : World) (a : Option Addr) (len cap : Nat) (h : Code w a len) (hcap : len ≤ cap) : Calls Try.prog 16 #[.slice a len cap] w (FromAn w) := by
  have Z := (Below.refl w.heap.size w).alloc (Nat.le_refl _) (.cells #[.int .i64 0, .int .i64 0, .int .i64 0, .int .i64 0, .int .i64 0, .int .i64 0, .int .i64 0, .int .i64 0] 25)
  have zE := E8.new w 25
  have h1 := h.laterP Z
  go_enter Try.func16, Try.ntmps16
  go_wp2_with fail
  refine (newReader_any _ a len cap h1 hcap).mono ?_
  rintro e w1 ⟨rfl, bl1, rd1⟩
  have z1 := zE.b bl1
  have b1 := Z.trans (bl1.mono Z.size)
  have hrE : w.heap.size < (w.alloc (.cells #[.int .i64 0, .int .i64 0, .int .i64 0, .int .i64 0, .int .i64 0, .int .i64 0, .int .i64 0, .int .i64 0] 25)).heap.size := zE.lt
  have hE0 : w.heap.size ≤ w.heap.size := Nat.le_refl _
  generalize (w.alloc (.cells #[.int .i64 0, .int .i64 0, .int .i64 0, .int .i64 0, .int .i64 0, .int .i64 0, .int .i64 0, .int .i64 0] 25)).heap.size = r at rd1 hrE ⊢
  have e1 : BoxN w1 r w.heap.size [0, 0, 0, 0, 0, 0, 0, 0] := ⟨by omega, z1.lt, fun i hi => by
    rcases (show i = 0 ∨ i = 1 ∨ i = 2 ∨ i = 3 ∨ i = 4 ∨ i = 5 ∨ i = 6 ∨ i = 7 by simp at hi; omega) with rfl | rfl | rfl | rfl | rfl | rfl | rfl | rfl
    · exact ⟨z1.c0, z1.f0⟩
    · exact ⟨z1.c1, z1.f1⟩
    · exact ⟨z1.c2, z1.f2⟩
    · exact ⟨z1.c3, z1.f3⟩
    · exact ⟨z1.c4, z1.f4⟩
    · exact ⟨z1.c5, z1.f5⟩
    · exact ⟨z1.c6, z1.f6⟩
    · exact ⟨z1.c7, z1.f7⟩⟩
  have hrB : w.heap.size ≤ r := by omega
  have hEr : w.heap.size < r := hrE
  have R1 := RK.mk0 rd1
  clear bl1 zE Z h1 z1
  go_wp2_with fail
  refine (anyPacket_any _ _ _ _ rd1 (by omega)).mono ?_
  rintro e w2 ⟨x0, x1, x2, x3, x4, x5, x6, x7, rfl, R⟩
  have P0 : PD r w w1 (w2.alloc (.cells #[.int .i64 x0, .int .i64 x1, .int .i64 x2, .int .i64 x3, .int .i64 x4, .int .i64 x5, .int .i64 x6, .int .i64 x7] 25)) r (0 + 40) w.heap.size w2.heap.size [x0, x1, x2, x3, x4, x5, x6, x7] :=
    ⟨R.alloc _ _, b1, (e1.far R.far).far ((Far.refl _ _).alloc _), BoxN.new [x0, x1, x2, x3, x4, x5, x6, x7] _ R.rdr.top, Nat.le_refl _, R.far.size, by have := R.rdr.top; omega, hrB, rfl⟩
  clear R e1 R1 rd1 b1
  go_wp2_with fail
  generalize w2.alloc (.cells #[.int .i64 x0, .int .i64 x1, .int .i64 x2, .int .i64 x3, .int .i64 x4, .int .i64 x5, .int .i64 x6, .int .i64 x7] 25) = W at P0 ⊢
  generalize w2.heap.size = D at P0 ⊢
  refine (pick_any _ r _ _ _ P0.R.rdr (by omega)).mono ?_
  rintro e w4 ⟨k4, rfl, a4, b4, st4⟩
  have P := P0.step st4
  clear b4 st4 P0
  by_cases hk : 0 < k4
  · have hk' : (k4 : Int) > 0 := hk
    go_wp2_with fail
    refine (someStamp_any _ r _ _ P.R.rdr (by omega)).mono ?_
    rintro e w5 ⟨z5, rfl, lo5, hi5, bl, rd, fr⟩
    have P5 := P.next rd bl fr
    clear bl rd fr P
    obtain ⟨y0, y1, y2, y3, y4, y5, y6, y7, ka⟩ : ∃ y0 y1 y2 y3 y4 y5 y6 y7 : Int, ∀ w' : World, Calls Try.prog 14 #[.int .i64 z5] w' fun e w'' => e = .returned (.agg #[.int .i64 y0, .int .i64 y1, .int .i64 y2, .int .i64 y3, .int .i64 y4, .int .i64 y5, .int .i64 y6, .int .i64 y7]) ∧ Below w'.heap.size w' w'' := by
      rcases hv : T.vs z5 with _ | _
      · exact ⟨0, 0, 0, 0, 0, 0, 0, 0, fun w' => AS_spec_no z5 hv w'⟩
      · exact ⟨0, 3, 0, 0, 0, 0, 0, z5, fun w' => AS_spec_yes z5 hv w'⟩
    have KA := Lib.hid ka
    clear ka
    go_wp2_with fail
    refine (KA.out _).mono ?_
    rintro e w6 ⟨rfl, b6⟩
    have P6 := P5.b b6
    clear P5 b6 KA
    have d0 : w6.cell? ⟨D, 0, none⟩ = some (.int .i64 x0) := (P6.d.at_ 0 (by simp)).1
    have g0 := (P6.d.at_ 0 (by simp)).2
    have d1 : w6.cell? ⟨D, 1, none⟩ = some (.int .i64 x1) := (P6.d.at_ 1 (by simp)).1
    have g1 := (P6.d.at_ 1 (by simp)).2
    have d2 : w6.cell? ⟨D, 2, none⟩ = some (.int .i64 x2) := (P6.d.at_ 2 (by simp)).1
    have g2 := (P6.d.at_ 2 (by simp)).2
    have d3 : w6.cell? ⟨D, 3, none⟩ = some (.int .i64 x3) := (P6.d.at_ 3 (by simp)).1
    have g3 := (P6.d.at_ 3 (by simp)).2
    have d4 : w6.cell? ⟨D, 4, none⟩ = some (.int .i64 x4) := (P6.d.at_ 4 (by simp)).1
    have g4 := (P6.d.at_ 4 (by simp)).2
    have d5 : w6.cell? ⟨D, 5, none⟩ = some (.int .i64 x5) := (P6.d.at_ 5 (by simp)).1
    have g5 := (P6.d.at_ 5 (by simp)).2
    have d6 : w6.cell? ⟨D, 6, none⟩ = some (.int .i64 x6) := (P6.d.at_ 6 (by simp)).1
    have g6 := (P6.d.at_ 6 (by simp)).2
    have d7 : w6.cell? ⟨D, 7, none⟩ = some (.int .i64 x7) := (P6.d.at_ 7 (by simp)).1
    have g7 := (P6.d.at_ 7 (by simp)).2
    have P7 : PD r w w1 ((((((((w6.setCell ⟨D, 0, none⟩ (.int .i64 y0)).setCell ⟨D, 1, none⟩ (.int .i64 y1)).setCell ⟨D, 2, none⟩ (.int .i64 y2)).setCell ⟨D, 3, none⟩ (.int .i64 y3)).setCell ⟨D, 4, none⟩ (.int .i64 y4)).setCell ⟨D, 5, none⟩ (.int .i64 y5)).setCell ⟨D, 6, none⟩ (.int .i64 y6)).setCell ⟨D, 7, none⟩ (.int .i64 y7)) r (0 + 40 + 1 + 3) w.heap.size D [y0, y1, y2, y3, y4, y5, y6, y7] := (((((((P6.set 0 (by omega) y0).set 1 (by omega) y1).set 2 (by omega) y2).set 3 (by omega) y3).set 4 (by omega) y4).set 5 (by omega) y5).set 6 (by omega) y6).set 7 (by omega) y7
    clear P6
    go_upto_region 5 with (fail)
    clear d0 g0 d1 g1 d2 g2 d3 g3 d4 g4 d5 g5 d6 g6 d7 g7
    generalize (((((((w6.setCell ⟨D, 0, none⟩ (.int .i64 y0)).setCell ⟨D, 1, none⟩ (.int .i64 y1)).setCell ⟨D, 2, none⟩ (.int .i64 y2)).setCell ⟨D, 3, none⟩ (.int .i64 y3)).setCell ⟨D, 4, none⟩ (.int .i64 y4)).setCell ⟨D, 5, none⟩ (.int .i64 y5)).setCell ⟨D, 6, none⟩ (.int .i64 y6)).setCell ⟨D, 7, none⟩ (.int .i64 y7) = V at P7 ⊢
    have P := P7
    clear P7
    go_wp2_with fail
    refine (someStamp_any _ r _ _ P.R.rdr (by omega)).mono ?_
    rintro e V7 ⟨z7, rfl, loz7, hiz7, bl, rd, fr⟩
    have Pn := P.next rd bl fr
    clear bl rd fr P
    go_wp2_with fail
    refine (one_any _ r _ _ _ _ (-1) 100 _ (Pn.alloc _ _).R.rdr (by omega) (by omega) (by omega) (by have := Pn.R.rdr.top; omega) ?_).mono ?_
    · exact made_cells _ _ _ _ _ _ rfl (by simp [Ints])
    rintro e V8 ⟨z8, rfl, loz8, hiz8, bl, rd, fr⟩
    have Pnn := (Pn.alloc _ _).next rd bl fr
    clear bl rd fr Pn
    go_wp2_with fail
    refine (one_any _ r _ _ _ _ (-1) 3 _ (Pnn.alloc _ _).R.rdr (by omega) (by omega) (by omega) (by have := Pnn.R.rdr.top; omega) ?_).mono ?_
    · exact made_cells _ _ _ _ _ _ rfl (by simp [Ints])
    rintro e V9 ⟨z9, rfl, loz9, hiz9, bl, rd, fr⟩
    have Pnnn := (Pnn.alloc _ _).next rd bl fr
    clear bl rd fr Pnn
    have P9 := Pnnn
    clear Pnnn
    go_wp2_with fail
    have PV := P9.drew
    clear P9
    refine wp_region_held_drew (S := (fun w' => w'.cell? ⟨D, 0, none⟩ = some (.int .i64 y0) ∧ w'.cell? ⟨D, 1, none⟩ = some (.int .i64 y1) ∧ w'.cell? ⟨D, 2, none⟩ = some (.int .i64 y2) ∧ w'.cell? ⟨D, 3, none⟩ = some (.int .i64 y3) ∧ w'.cell? ⟨D, 4, none⟩ = some (.int .i64 y4) ∧ w'.cell? ⟨D, 5, none⟩ = some (.int .i64 y5) ∧ w'.cell? ⟨D, 6, none⟩ = some (.int .i64 y6) ∧ w'.cell? ⟨D, 7, none⟩ = some (.int .i64 y7))) (by kernel_rfl) (PV.d.all8) (fun hHeld => ?_)
    generalize V9.drew = X9 at *
    refine wpAnyH_take (i := 0) (v := ?_) rfl (by kernel_rfl) (by kernel_rfl) (by kernel_rfl) (fun _ _ _ h => h) (Or.inl ⟨by rfl, ?_⟩) (by assumption) ?_
    rotate_left
    · intro w hSw
      (try dsimp only at hSw)
      go_simp
      all_goals with_reducible rfl
    try simp only [Act.put, List.setIfInBounds_toArray, List.set_cons_zero, List.set_cons_succ, List.getElem_toArray, List.getElem_cons_zero]
    refine wpAnyH_take (i := 1) (v := ?_) rfl (by kernel_rfl) (by kernel_rfl) (by kernel_rfl) (fun _ _ _ h => h) (Or.inl ⟨by rfl, ?_⟩) (by assumption) ?_
    rotate_left
    · intro w hSw
      (try dsimp only at hSw)
      go_simp
      all_goals with_reducible rfl
    try simp only [Act.put, List.setIfInBounds_toArray, List.set_cons_zero, List.set_cons_succ, List.getElem_toArray, List.getElem_cons_zero, List.getElem_cons_succ]
    refine wpAnyH_take (i := 2) (v := ?_) rfl (by kernel_rfl) (by kernel_rfl) (by kernel_rfl) (fun _ _ _ h => h) (Or.inl ⟨by rfl, ?_⟩) (by assumption) ?_
    rotate_left
    · intro w hSw
      (try dsimp only at hSw)
      go_simp
      all_goals with_reducible rfl
    try simp only [Act.put, List.setIfInBounds_toArray, List.set_cons_zero, List.set_cons_succ, List.getElem_toArray, List.getElem_cons_zero, List.getElem_cons_succ]
    refine wpAnyH_take (i := 3) (v := ?_) rfl (by kernel_rfl) (by kernel_rfl) (by kernel_rfl) (fun _ _ _ h => h) (Or.inl ⟨by rfl, ?_⟩) (by assumption) ?_
    rotate_left
    · intro w hSw
      (try dsimp only at hSw)
      go_simp
      all_goals with_reducible rfl
    try simp only [Act.put, List.setIfInBounds_toArray, List.set_cons_zero, List.set_cons_succ, List.getElem_toArray, List.getElem_cons_zero, List.getElem_cons_succ]
    refine wpAnyH_take (i := 4) (v := ?_) rfl (by kernel_rfl) (by kernel_rfl) (by kernel_rfl) (fun _ _ _ h => h) (Or.inl ⟨by rfl, ?_⟩) (by assumption) ?_
    rotate_left
    · intro w hSw
      (try dsimp only at hSw)
      go_simp
      all_goals with_reducible rfl
    try simp only [Act.put, List.setIfInBounds_toArray, List.set_cons_zero, List.set_cons_succ, List.getElem_toArray, List.getElem_cons_zero, List.getElem_cons_succ]
    have PW := PV.alloc #[.int .i64 0, .int .i64 100, .int .i64 65535, .int .i64 65536, .int .i64 (-1)] 3
    have hLr : X9.heap.size ≠ r := by have := PV.R.rdr.top; omega
    refine wpAnyH_ready (rs := [5]) (by kernel_rfl) (by simp) ?_
    refine AllReadyH.cons rfl (fun K hK => ?_) AllReadyH.nil
    go_simp
    skip
    refine hK.out _ _ (PW.d.all8) (fun hHeld => ?_)
    clear hK K
    try simp only [Act.put, List.setIfInBounds_toArray, List.set_cons_zero, List.set_cons_succ, List.getElem_toArray, List.getElem_cons_zero, List.getElem_cons_succ]
    refine wpAnyH_ready (rs := [6]) (by kernel_rfl) (by simp) ?_
    refine AllReadyH.cons rfl (fun K hK => ?_) AllReadyH.nil
    go_simp
    (go_at_call 38; refine (one_any _ r _ _ _ _ (-1) 65536 _ PW.R.rdr (by omega) (by omega) (by omega) hLr ?_).mono ?_)
    · exact made_cells _ _ _ _ _ _ rfl (by simp [Ints])
    rintro e V11 ⟨z11, rfl, lo11, hi11, bl, rd, fr⟩
    have PX := PW.next rd bl fr
    refine hK.out _ _ PX.d.all8 (fun hHeld => ?_)
    clear hK K bl rd fr PW PV
    try simp only [Act.put, List.setIfInBounds_toArray, List.set_cons_zero, List.set_cons_succ, List.getElem_toArray, List.getElem_cons_zero, List.getElem_cons_succ]
    have u0 : V11.cell? ⟨w.heap.size, 0, none⟩ = some (.int .i64 0) := (PX.e.at_ 0 (by simp)).1
    have v0 := (PX.e.at_ 0 (by simp)).2
    have u1 : V11.cell? ⟨w.heap.size, 1, none⟩ = some (.int .i64 0) := (PX.e.at_ 1 (by simp)).1
    have v1 := (PX.e.at_ 1 (by simp)).2
    have u2 : V11.cell? ⟨w.heap.size, 2, none⟩ = some (.int .i64 0) := (PX.e.at_ 2 (by simp)).1
    have v2 := (PX.e.at_ 2 (by simp)).2
    have u3 : V11.cell? ⟨w.heap.size, 3, none⟩ = some (.int .i64 0) := (PX.e.at_ 3 (by simp)).1
    have v3 := (PX.e.at_ 3 (by simp)).2
    have u4 : V11.cell? ⟨w.heap.size, 4, none⟩ = some (.int .i64 0) := (PX.e.at_ 4 (by simp)).1
    have v4 := (PX.e.at_ 4 (by simp)).2
    have u5 : V11.cell? ⟨w.heap.size, 5, none⟩ = some (.int .i64 0) := (PX.e.at_ 5 (by simp)).1
    have v5 := (PX.e.at_ 5 (by simp)).2
    have u6 : V11.cell? ⟨w.heap.size, 6, none⟩ = some (.int .i64 0) := (PX.e.at_ 6 (by simp)).1
    have v6 := (PX.e.at_ 6 (by simp)).2
    have u7 : V11.cell? ⟨w.heap.size, 7, none⟩ = some (.int .i64 0) := (PX.e.at_ 7 (by simp)).1
    have v7 := (PX.e.at_ 7 (by simp)).2
    have hDE := PX.hDE
    have d9 := (((((((PX.d.other (i := 0) (v := .int .i64 y0) hDE.symm).other (i := 1) (v := .int .i64 y1) hDE.symm).other (i := 2) (v := .int .i64 y2) hDE.symm).other (i := 3) (v := .int .i64 y3) hDE.symm).other (i := 4) (v := .int .i64 y4) hDE.symm).other (i := 5) (v := .int .i64 y5) hDE.symm).other (i := 6) (v := .int .i64 y6) hDE.symm).other (i := 7) (v := .int .i64 y7) hDE.symm
    have HN := Lib.hid (PX.fin (.int .i64 y0) (.int .i64 y1) (.int .i64 y2) (.int .i64 y3) (.int .i64 y4) (.int .i64 y5) (.int .i64 y6) (.int .i64 y7))
    refine wpAnyH_ready (rs := [7]) (by kernel_rfl) (by simp) ?_
    refine AllReadyH.cons rfl (fun K hK => ?_) AllReadyH.nil
    go_simp
    skip
    refine hK.out _ _ (d9.all8) (fun hHeld => ?_)
    clear hK K
    try simp only [Act.put, List.setIfInBounds_toArray, List.set_cons_zero, List.set_cons_succ, List.getElem_toArray, List.getElem_cons_zero, List.getElem_cons_succ]
    refine wpAnyH_take (i := 8) (v := ?_) rfl (by kernel_rfl) (by kernel_rfl) (by kernel_rfl) (fun _ _ _ h => h) (Or.inl ⟨by rfl, ?_⟩) (by assumption) ?_
    rotate_left
    · intro w hSw
      (try dsimp only at hSw)
      go_simp
      all_goals with_reducible rfl
    try simp only [Act.put, List.setIfInBounds_toArray, List.set_cons_zero, List.set_cons_succ, List.getElem_toArray, List.getElem_cons_zero, List.getElem_cons_succ]
    refine wpAnyH_take (i := 9) (v := ?_) rfl (by kernel_rfl) (by kernel_rfl) (by kernel_rfl) (fun _ _ _ h => h) (Or.inl ⟨by rfl, ?_⟩) (by assumption) ?_
    rotate_left
    · intro w hSw
      (try dsimp only at hSw)
      go_simp
      all_goals with_reducible rfl
    try simp only [Act.put, List.setIfInBounds_toArray, List.set_cons_zero, List.set_cons_succ, List.getElem_toArray, List.getElem_cons_zero, List.getElem_cons_succ]
    refine wpAnyH_take (i := 10) (v := ?_) rfl (by kernel_rfl) (by kernel_rfl) (by kernel_rfl) (fun _ _ _ h => h) (Or.inl ⟨by rfl, ?_⟩) (by assumption) ?_
    rotate_left
    · intro w hSw
      (try dsimp only at hSw)
      go_simp
      all_goals with_reducible rfl
    try simp only [Act.put, List.setIfInBounds_toArray, List.set_cons_zero, List.set_cons_succ, List.getElem_toArray, List.getElem_cons_zero, List.getElem_cons_succ]
    refine wpAnyH_take (i := 11) (v := ?_) rfl (by kernel_rfl) (by kernel_rfl) (by kernel_rfl) (fun _ _ _ h => h) (Or.inl ⟨by rfl, ?_⟩) (by assumption) ?_
    rotate_left
    · intro w hSw
      (try dsimp only at hSw)
      go_simp
      all_goals with_reducible rfl
    try simp only [Act.put, List.setIfInBounds_toArray, List.set_cons_zero, List.set_cons_succ, List.getElem_toArray, List.getElem_cons_zero, List.getElem_cons_succ]
    refine wpAnyH_done (by kernel_rfl) ?_ _
    clear hHeld d9
    go_wp2
    exact bodyPost_ret (v := .tuple #[.agg #[.int .i64 y0, .int .i64 y1, .int .i64 y2, .int .i64 y3, .int .i64 y4, .int .i64 y5, .int .i64 y6, .int .i64 y7], .int .i64 z7, .int .i64 (z7 + z8), .int .i64 z9, .int .i64 z11]) (by simp [results, Try.results16, go_sem, u0, u1, u2, u3, u4, u5, u6, u7]) rfl ⟨_, _, _, _, _, _, _, _, _, _, _, _, rfl, HN.out⟩
  · have hk' : decide (0 < k4) = false := decide_eq_false hk
    clear hk
    go_upto_region 5 with (fail)
    generalize w4 = V at P ⊢
    have P := P.mono (show 0 + 40 + 1 ≤ 0 + 40 + 1 + 3 by omega)
    go_wp2_with fail
    refine (someStamp_any _ r _ _ P.R.rdr (by omega)).mono ?_
    rintro e V7 ⟨z7, rfl, loz7, hiz7, bl, rd, fr⟩
    have Pn := P.next rd bl fr
    clear bl rd fr P
    go_wp2_with fail
    refine (one_any _ r _ _ _ _ (-1) 100 _ (Pn.alloc _ _).R.rdr (by omega) (by omega) (by omega) (by have := Pn.R.rdr.top; omega) ?_).mono ?_
    · exact made_cells _ _ _ _ _ _ rfl (by simp [Ints])
    rintro e V8 ⟨z8, rfl, loz8, hiz8, bl, rd, fr⟩
    have Pnn := (Pn.alloc _ _).next rd bl fr
    clear bl rd fr Pn
    go_wp2_with fail
    refine (one_any _ r _ _ _ _ (-1) 3 _ (Pnn.alloc _ _).R.rdr (by omega) (by omega) (by omega) (by have := Pnn.R.rdr.top; omega) ?_).mono ?_
    · exact made_cells _ _ _ _ _ _ rfl (by simp [Ints])
    rintro e V9 ⟨z9, rfl, loz9, hiz9, bl, rd, fr⟩
    have Pnnn := (Pnn.alloc _ _).next rd bl fr
    clear bl rd fr Pnn
    have P9 := Pnnn
    clear Pnnn
    go_wp2_with fail
    have PV := P9.drew
    clear P9
    refine wp_region_held_drew (S := (fun w' => w'.cell? ⟨D, 0, none⟩ = some (.int .i64 x0) ∧ w'.cell? ⟨D, 1, none⟩ = some (.int .i64 x1) ∧ w'.cell? ⟨D, 2, none⟩ = some (.int .i64 x2) ∧ w'.cell? ⟨D, 3, none⟩ = some (.int .i64 x3) ∧ w'.cell? ⟨D, 4, none⟩ = some (.int .i64 x4) ∧ w'.cell? ⟨D, 5, none⟩ = some (.int .i64 x5) ∧ w'.cell? ⟨D, 6, none⟩ = some (.int .i64 x6) ∧ w'.cell? ⟨D, 7, none⟩ = some (.int .i64 x7))) (by kernel_rfl) (PV.d.all8) (fun hHeld => ?_)
    generalize V9.drew = X9 at *
    refine wpAnyH_take (i := 0) (v := ?_) rfl (by kernel_rfl) (by kernel_rfl) (by kernel_rfl) (fun _ _ _ h => h) (Or.inl ⟨by rfl, ?_⟩) (by assumption) ?_
    rotate_left
    · intro w hSw
      (try dsimp only at hSw)
      go_simp
      all_goals with_reducible rfl
    try simp only [Act.put, List.setIfInBounds_toArray, List.set_cons_zero, List.set_cons_succ, List.getElem_toArray, List.getElem_cons_zero]
    refine wpAnyH_take (i := 1) (v := ?_) rfl (by kernel_rfl) (by kernel_rfl) (by kernel_rfl) (fun _ _ _ h => h) (Or.inl ⟨by rfl, ?_⟩) (by assumption) ?_
    rotate_left
    · intro w hSw
      (try dsimp only at hSw)
      go_simp
      all_goals with_reducible rfl
    try simp only [Act.put, List.setIfInBounds_toArray, List.set_cons_zero, List.set_cons_succ, List.getElem_toArray, List.getElem_cons_zero, List.getElem_cons_succ]
    refine wpAnyH_take (i := 2) (v := ?_) rfl (by kernel_rfl) (by kernel_rfl) (by kernel_rfl) (fun _ _ _ h => h) (Or.inl ⟨by rfl, ?_⟩) (by assumption) ?_
    rotate_left
    · intro w hSw
      (try dsimp only at hSw)
      go_simp
      all_goals with_reducible rfl
    try simp only [Act.put, List.setIfInBounds_toArray, List.set_cons_zero, List.set_cons_succ, List.getElem_toArray, List.getElem_cons_zero, List.getElem_cons_succ]
    refine wpAnyH_take (i := 3) (v := ?_) rfl (by kernel_rfl) (by kernel_rfl) (by kernel_rfl) (fun _ _ _ h => h) (Or.inl ⟨by rfl, ?_⟩) (by assumption) ?_
    rotate_left
    · intro w hSw
      (try dsimp only at hSw)
      go_simp
      all_goals with_reducible rfl
    try simp only [Act.put, List.setIfInBounds_toArray, List.set_cons_zero, List.set_cons_succ, List.getElem_toArray, List.getElem_cons_zero, List.getElem_cons_succ]
    refine wpAnyH_take (i := 4) (v := ?_) rfl (by kernel_rfl) (by kernel_rfl) (by kernel_rfl) (fun _ _ _ h => h) (Or.inl ⟨by rfl, ?_⟩) (by assumption) ?_
    rotate_left
    · intro w hSw
      (try dsimp only at hSw)
      go_simp
      all_goals with_reducible rfl
    try simp only [Act.put, List.setIfInBounds_toArray, List.set_cons_zero, List.set_cons_succ, List.getElem_toArray, List.getElem_cons_zero, List.getElem_cons_succ]
    have PW := PV.alloc #[.int .i64 0, .int .i64 100, .int .i64 65535, .int .i64 65536, .int .i64 (-1)] 3
    have hLr : X9.heap.size ≠ r := by have := PV.R.rdr.top; omega
    refine wpAnyH_ready (rs := [5]) (by kernel_rfl) (by simp) ?_
    refine AllReadyH.cons rfl (fun K hK => ?_) AllReadyH.nil
    go_simp
    skip
    refine hK.out _ _ (PW.d.all8) (fun hHeld => ?_)
    clear hK K
    try simp only [Act.put, List.setIfInBounds_toArray, List.set_cons_zero, List.set_cons_succ, List.getElem_toArray, List.getElem_cons_zero, List.getElem_cons_succ]
    refine wpAnyH_ready (rs := [6]) (by kernel_rfl) (by simp) ?_
    refine AllReadyH.cons rfl (fun K hK => ?_) AllReadyH.nil
    go_simp
    (go_at_call 38; refine (one_any _ r _ _ _ _ (-1) 65536 _ PW.R.rdr (by omega) (by omega) (by omega) hLr ?_).mono ?_)
    · exact made_cells _ _ _ _ _ _ rfl (by simp [Ints])
    rintro e V11 ⟨z11, rfl, lo11, hi11, bl, rd, fr⟩
    have PX := PW.next rd bl fr
    refine hK.out _ _ PX.d.all8 (fun hHeld => ?_)
    clear hK K bl rd fr PW PV
    try simp only [Act.put, List.setIfInBounds_toArray, List.set_cons_zero, List.set_cons_succ, List.getElem_toArray, List.getElem_cons_zero, List.getElem_cons_succ]
    have u0 : V11.cell? ⟨w.heap.size, 0, none⟩ = some (.int .i64 0) := (PX.e.at_ 0 (by simp)).1
    have v0 := (PX.e.at_ 0 (by simp)).2
    have u1 : V11.cell? ⟨w.heap.size, 1, none⟩ = some (.int .i64 0) := (PX.e.at_ 1 (by simp)).1
    have v1 := (PX.e.at_ 1 (by simp)).2
    have u2 : V11.cell? ⟨w.heap.size, 2, none⟩ = some (.int .i64 0) := (PX.e.at_ 2 (by simp)).1
    have v2 := (PX.e.at_ 2 (by simp)).2
    have u3 : V11.cell? ⟨w.heap.size, 3, none⟩ = some (.int .i64 0) := (PX.e.at_ 3 (by simp)).1
    have v3 := (PX.e.at_ 3 (by simp)).2
    have u4 : V11.cell? ⟨w.heap.size, 4, none⟩ = some (.int .i64 0) := (PX.e.at_ 4 (by simp)).1
    have v4 := (PX.e.at_ 4 (by simp)).2
    have u5 : V11.cell? ⟨w.heap.size, 5, none⟩ = some (.int .i64 0) := (PX.e.at_ 5 (by simp)).1
    have v5 := (PX.e.at_ 5 (by simp)).2
    have u6 : V11.cell? ⟨w.heap.size, 6, none⟩ = some (.int .i64 0) := (PX.e.at_ 6 (by simp)).1
    have v6 := (PX.e.at_ 6 (by simp)).2
    have u7 : V11.cell? ⟨w.heap.size, 7, none⟩ = some (.int .i64 0) := (PX.e.at_ 7 (by simp)).1
    have v7 := (PX.e.at_ 7 (by simp)).2
    have hDE := PX.hDE
    have d9 := (((((((PX.d.other (i := 0) (v := .int .i64 x0) hDE.symm).other (i := 1) (v := .int .i64 x1) hDE.symm).other (i := 2) (v := .int .i64 x2) hDE.symm).other (i := 3) (v := .int .i64 x3) hDE.symm).other (i := 4) (v := .int .i64 x4) hDE.symm).other (i := 5) (v := .int .i64 x5) hDE.symm).other (i := 6) (v := .int .i64 x6) hDE.symm).other (i := 7) (v := .int .i64 x7) hDE.symm
    have HN := Lib.hid (PX.fin (.int .i64 x0) (.int .i64 x1) (.int .i64 x2) (.int .i64 x3) (.int .i64 x4) (.int .i64 x5) (.int .i64 x6) (.int .i64 x7))
    refine wpAnyH_ready (rs := [7]) (by kernel_rfl) (by simp) ?_
    refine AllReadyH.cons rfl (fun K hK => ?_) AllReadyH.nil
    go_simp
    skip
    refine hK.out _ _ (d9.all8) (fun hHeld => ?_)
    clear hK K
    try simp only [Act.put, List.setIfInBounds_toArray, List.set_cons_zero, List.set_cons_succ, List.getElem_toArray, List.getElem_cons_zero, List.getElem_cons_succ]
    refine wpAnyH_take (i := 8) (v := ?_) rfl (by kernel_rfl) (by kernel_rfl) (by kernel_rfl) (fun _ _ _ h => h) (Or.inl ⟨by rfl, ?_⟩) (by assumption) ?_
    rotate_left
    · intro w hSw
      (try dsimp only at hSw)
      go_simp
      all_goals with_reducible rfl
    try simp only [Act.put, List.setIfInBounds_toArray, List.set_cons_zero, List.set_cons_succ, List.getElem_toArray, List.getElem_cons_zero, List.getElem_cons_succ]
    refine wpAnyH_take (i := 9) (v := ?_) rfl (by kernel_rfl) (by kernel_rfl) (by kernel_rfl) (fun _ _ _ h => h) (Or.inl ⟨by rfl, ?_⟩) (by assumption) ?_
    rotate_left
    · intro w hSw
      (try dsimp only at hSw)
      go_simp
      all_goals with_reducible rfl
    try simp only [Act.put, List.setIfInBounds_toArray, List.set_cons_zero, List.set_cons_succ, List.getElem_toArray, List.getElem_cons_zero, List.getElem_cons_succ]
    refine wpAnyH_take (i := 10) (v := ?_) rfl (by kernel_rfl) (by kernel_rfl) (by kernel_rfl) (fun _ _ _ h => h) (Or.inl ⟨by rfl, ?_⟩) (by assumption) ?_
    rotate_left
    · intro w hSw
      (try dsimp only at hSw)
      go_simp
      all_goals with_reducible rfl
    try simp only [Act.put, List.setIfInBounds_toArray, List.set_cons_zero, List.set_cons_succ, List.getElem_toArray, List.getElem_cons_zero, List.getElem_cons_succ]
    refine wpAnyH_take (i := 11) (v := ?_) rfl (by kernel_rfl) (by kernel_rfl) (by kernel_rfl) (fun _ _ _ h => h) (Or.inl ⟨by rfl, ?_⟩) (by assumption) ?_
    rotate_left
    · intro w hSw
      (try dsimp only at hSw)
      go_simp
      all_goals with_reducible rfl
    try simp only [Act.put, List.setIfInBounds_toArray, List.set_cons_zero, List.set_cons_succ, List.getElem_toArray, List.getElem_cons_zero, List.getElem_cons_succ]
    refine wpAnyH_done (by kernel_rfl) ?_ _
    clear hHeld d9
    go_wp2
    exact bodyPost_ret (v := .tuple #[.agg #[.int .i64 x0, .int .i64 x1, .int .i64 x2, .int .i64 x3, .int .i64 x4, .int .i64 x5, .int .i64 x6, .int .i64 x7], .int .i64 z7, .int .i64 (z7 + z8), .int .i64 z9, .int .i64 z11]) (by simp [results, Try.results16, go_sem, u0, u1, u2, u3, u4, u5, u6, u7]) rfl ⟨_, _, _, _, _, _, _, _, _, _, _, _, rfl, HN.out⟩
theorem AN_any (x0 x1 x2 x3 x4 x5 x6 x7 r s lv sp : Int) : ∃ (y0 y1 y2 y3 y4 y5 y6 y7 : Int) (ok : Bool), ∀ w' : World, Calls Try.prog 18 #[.agg #[.int .i64 x0, .int .i64 x1, .int .i64 x2, .int .i64 x3, .int .i64 x4, .int .i64 x5, .int .i64 x6, .int .i64 x7], .int .i64 r, .int .i64 s, .int .i64 lv, .int .i64 sp] w' fun e w'' => e = .returned (.tuple #[.agg #[.int .i64 y0, .int .i64 y1, .int .i64 y2, .int .i64 y3, .int .i64 y4, .int .i64 y5, .int .i64 y6, .int .i64 y7], .bool ok]) ∧ Below w'.heap.size w' w'' := by
  by_cases q : D.Ak x0 x1 x2 x3 x4 x5 x6 x7 r s lv sp
  · exact ⟨_, _, _, _, _, _, _, _, true, fun w' => AN_spec_yes _ _ _ _ _ _ _ _ _ _ _ _ q w'⟩
  · exact ⟨_, _, _, _, _, _, _, _, false, fun w' => AN_spec_no _ _ _ _ _ _ _ _ _ _ _ _ q w'⟩
def FromTa (w : World) (e : Ending) (w' : World) : Prop := ∃ q x0 x1 x2 x3 x4 x5 x6 x7 r : Int, e = .returned (.tuple #[.int .i64 q, .agg #[.int .i64 x0, .int .i64 x1, .int .i64 x2, .int .i64 x3, .int .i64 x4, .int .i64 x5, .int .i64 x6, .int .i64 x7], .int .i64 r]) ∧ Below w.heap.size w w'
set_option maxHeartbeats 8000000 in
theorem DrawTakeAnswer_any (w : World) (a : Option Addr) (len cap : Nat) (h : Code w a len) (hcap : len ≤ cap) : Calls Try.prog 21 #[.slice a len cap] w (FromTa w) := by
  have Z := (Below.refl w.heap.size w).alloc (Nat.le_refl _) (.cells #[.int .i64 0, .int .i64 0, .int .i64 0, .int .i64 0, .int .i64 0, .int .i64 0, .int .i64 0, .int .i64 0] 25)
  have zE := E8.new w 25
  have h1 := h.laterP Z
  go_enter Try.func21, Try.ntmps21
  go_wp2_with fail
  refine (newReader_any _ a len cap h1 hcap).mono ?_
  rintro e w1 ⟨rfl, bl1, rd1⟩
  have z1 := zE.b bl1
  have b1 := Z.trans (bl1.mono Z.size)
  have hrE : w.heap.size < (w.alloc (.cells #[.int .i64 0, .int .i64 0, .int .i64 0, .int .i64 0, .int .i64 0, .int .i64 0, .int .i64 0, .int .i64 0] 25)).heap.size := zE.lt
  have hE0 : w.heap.size ≤ w.heap.size := Nat.le_refl _
  generalize (w.alloc (.cells #[.int .i64 0, .int .i64 0, .int .i64 0, .int .i64 0, .int .i64 0, .int .i64 0, .int .i64 0, .int .i64 0] 25)).heap.size = r at rd1 hrE ⊢
  have e1 : BoxN w1 r w.heap.size [0, 0, 0, 0, 0, 0, 0, 0] := ⟨by omega, z1.lt, fun i hi => by
    rcases (show i = 0 ∨ i = 1 ∨ i = 2 ∨ i = 3 ∨ i = 4 ∨ i = 5 ∨ i = 6 ∨ i = 7 by simp at hi; omega) with rfl | rfl | rfl | rfl | rfl | rfl | rfl | rfl
    · exact ⟨z1.c0, z1.f0⟩
    · exact ⟨z1.c1, z1.f1⟩
    · exact ⟨z1.c2, z1.f2⟩
    · exact ⟨z1.c3, z1.f3⟩
    · exact ⟨z1.c4, z1.f4⟩
    · exact ⟨z1.c5, z1.f5⟩
    · exact ⟨z1.c6, z1.f6⟩
    · exact ⟨z1.c7, z1.f7⟩⟩
  have hrB : w.heap.size ≤ r := by omega
  have hEr : w.heap.size < r := hrE
  have R1 := RK.mk0 rd1
  clear bl1 zE Z h1 z1
  go_wp2_with fail
  refine (someStamp_any _ r _ _ rd1 (by omega)).mono ?_
  rintro e w2 ⟨z6, rfl, lo6, hi6, bl, rd, fr⟩
  have R2 := R1.next rd bl fr
  have e2 := e1.far fr
  clear bl rd fr R1 e1 rd1
  go_wp2_with fail
  refine (someStamp_any _ r _ _ R2.rdr (by omega)).mono ?_
  rintro e w3 ⟨z7, rfl, lo7, hi7, bl, rd, fr⟩
  have R3 := R2.next rd bl fr
  have e3 := e2.far fr
  clear bl rd fr R2 e2
  obtain ⟨x0, x1, x2, x3, x4, x5, x6, x7, ka⟩ : ∃ y0 y1 y2 y3 y4 y5 y6 y7 : Int, ∀ w' : World, Calls Try.prog 14 #[.int .i64 z6] w' fun e w'' => e = .returned (.agg #[.int .i64 y0, .int .i64 y1, .int .i64 y2, .int .i64 y3, .int .i64 y4, .int .i64 y5, .int .i64 y6, .int .i64 y7]) ∧ Below w'.heap.size w' w'' := by
    rcases hv : T.vs z6 with _ | _
    · exact ⟨0, 0, 0, 0, 0, 0, 0, 0, fun w' => AS_spec_no z6 hv w'⟩
    · exact ⟨0, 3, 0, 0, 0, 0, 0, z6, fun w' => AS_spec_yes z6 hv w'⟩
  have KA := Lib.hid ka
  clear ka
  go_wp2_with fail
  refine (KA.out _).mono ?_
  rintro e w4 ⟨rfl, b4⟩
  have R4 := R3.next (R3.rdr.later b4) (b4.mono R3.rdr.le) (Below.far b4)
  have e4 := e3.far (Below.far b4)
  clear R3 e3 b4 KA
  go_wp2_with fail
  · refine (one_any _ r _ _ _ _ 0 2 _ (R4.alloc _ _).rdr (by omega) (by omega) (by omega) (by have := R4.rdr.top; omega) ?_).mono ?_
    · exact made_cells _ _ _ _ _ _ rfl (by simp [Ints])
    rintro e w5 ⟨z5, rfl, lo5, hi5, bl, rd, fr⟩
    have R5 := (R4.alloc _ _).next rd bl fr
    have e5 := (e4.far ((Far.refl _ _).alloc _)).far fr
    clear bl rd fr R4 e4
    obtain ⟨y0, y1, y2, y3, y4, y5, y6, y7, ok, kb⟩ := AN_any x0 x1 x2 x3 x4 x5 x6 x7 z7 200000000999999 z5 10
    have KB := Lib.hid kb
    clear kb
    go_wp2_with fail
    refine (KB.out _).mono ?_
    rintro e w6 ⟨rfl, b6⟩
    have P0 : PD r w w1 (w6.alloc (.cells #[.int .i64 y0, .int .i64 y1, .int .i64 y2, .int .i64 y3, .int .i64 y4, .int .i64 y5, .int .i64 y6, .int .i64 y7] 25)) r (0 + 3 + 3 + 1) w.heap.size w6.heap.size [y0, y1, y2, y3, y4, y5, y6, y7] :=
      ⟨(R5.next (R5.rdr.later b6) (b6.mono R5.rdr.le) (Below.far b6)).alloc _ _, b1, (e5.far (Below.far b6)).far ((Far.refl _ _).alloc _), BoxN.new [y0, y1, y2, y3, y4, y5, y6, y7] _ (Nat.lt_of_lt_of_le R5.rdr.top b6.size), Nat.le_refl _, Nat.le_trans R5.far.size b6.size, by have := R5.rdr.top; have := b6.size; omega, hrB, rfl⟩
    clear R5 e5 b6 KB b1
    have hD6 : w1.heap.size ≤ w6.heap.size := P0.hD
    rcases ok with _ | _
    · go_upto_region 6 with (fail)
      generalize w6.alloc (.cells #[.int .i64 y0, .int .i64 y1, .int .i64 y2, .int .i64 y3, .int .i64 y4, .int .i64 y5, .int .i64 y6, .int .i64 y7] 25) = W at P0 ⊢
      generalize w6.heap.size = D at P0 hD6 ⊢
      go_wp2_with fail
      refine (anyPacket_any _ r _ _ P0.R.rdr (by omega)).mono ?_
      rintro e w7 ⟨n0, n1, n2, n3, n4, n5, n6, n7, rfl, RR⟩
      have P7 := P0.next RR.rdr RR.bel RR.far
      clear RR P0
      have d0 : w7.cell? ⟨D, 0, none⟩ = some (.int .i64 y0) := (P7.d.at_ 0 (by simp)).1
      have g0 := (P7.d.at_ 0 (by simp)).2
      have d1 : w7.cell? ⟨D, 1, none⟩ = some (.int .i64 y1) := (P7.d.at_ 1 (by simp)).1
      have g1 := (P7.d.at_ 1 (by simp)).2
      have d2 : w7.cell? ⟨D, 2, none⟩ = some (.int .i64 y2) := (P7.d.at_ 2 (by simp)).1
      have g2 := (P7.d.at_ 2 (by simp)).2
      have d3 : w7.cell? ⟨D, 3, none⟩ = some (.int .i64 y3) := (P7.d.at_ 3 (by simp)).1
      have g3 := (P7.d.at_ 3 (by simp)).2
      have d4 : w7.cell? ⟨D, 4, none⟩ = some (.int .i64 y4) := (P7.d.at_ 4 (by simp)).1
      have g4 := (P7.d.at_ 4 (by simp)).2
      have d5 : w7.cell? ⟨D, 5, none⟩ = some (.int .i64 y5) := (P7.d.at_ 5 (by simp)).1
      have g5 := (P7.d.at_ 5 (by simp)).2
      have d6 : w7.cell? ⟨D, 6, none⟩ = some (.int .i64 y6) := (P7.d.at_ 6 (by simp)).1
      have g6 := (P7.d.at_ 6 (by simp)).2
      have d7 : w7.cell? ⟨D, 7, none⟩ = some (.int .i64 y7) := (P7.d.at_ 7 (by simp)).1
      have g7 := (P7.d.at_ 7 (by simp)).2
      have P8 : PD r w w1 ((((((((w7.setCell ⟨D, 0, none⟩ (.int .i64 n0)).setCell ⟨D, 1, none⟩ (.int .i64 n1)).setCell ⟨D, 2, none⟩ (.int .i64 n2)).setCell ⟨D, 3, none⟩ (.int .i64 n3)).setCell ⟨D, 4, none⟩ (.int .i64 n4)).setCell ⟨D, 5, none⟩ (.int .i64 n5)).setCell ⟨D, 6, none⟩ (.int .i64 n6)).setCell ⟨D, 7, none⟩ (.int .i64 n7)) r (0 + 3 + 3 + 1 + 40) w.heap.size D [n0, n1, n2, n3, n4, n5, n6, n7] := (((((((P7.set 0 (by omega) n0).set 1 (by omega) n1).set 2 (by omega) n2).set 3 (by omega) n3).set 4 (by omega) n4).set 5 (by omega) n5).set 6 (by omega) n6).set 7 (by omega) n7
      clear P7
      go_upto_region 7 with (fail)
      clear d0 g0 d1 g1 d2 g2 d3 g3 d4 g4 d5 g5 d6 g6 d7 g7
      generalize (((((((w7.setCell ⟨D, 0, none⟩ (.int .i64 n0)).setCell ⟨D, 1, none⟩ (.int .i64 n1)).setCell ⟨D, 2, none⟩ (.int .i64 n2)).setCell ⟨D, 3, none⟩ (.int .i64 n3)).setCell ⟨D, 4, none⟩ (.int .i64 n4)).setCell ⟨D, 5, none⟩ (.int .i64 n5)).setCell ⟨D, 6, none⟩ (.int .i64 n6)).setCell ⟨D, 7, none⟩ (.int .i64 n7) = V at P8 ⊢
      have P := P8
      clear P8
      go_wp2_with fail
      refine (pick_any _ r _ _ _ P.R.rdr (by omega)).mono ?_
      rintro e V12 ⟨k12, rfl, a12, b12, st12⟩
      have Q := P.step st12
      clear b12 st12 P
      by_cases hk : k12 = 0
      · subst hk
        have d5 : V12.cell? ⟨D, 5, none⟩ = some (.int .i64 n5) := (Q.d.at_ 5 (by simp)).1
        have g5 := (Q.d.at_ 5 (by simp)).2
        obtain ⟨q5, hq5⟩ : ∃ q5 : Int, q5 = wrap64 (n5 + 1) := ⟨_, rfl⟩
        have Q5 := Q.set 5 (by omega) q5
        go_upto_region 9 with (fail)
        clear d5 g5
        rw [← hq5]
        clear hq5 Q
        generalize V12.setCell ⟨D, 5, none⟩ (.int .i64 q5) = V at Q5 ⊢
        have P : PD r w w1 V r (0 + 3 + 3 + 1 + 40 + 1) w.heap.size D [n0, n1, n2, n3, n4, q5, n6, n7] := Q5
        clear Q5
        go_wp2_with fail
        have PV := P.drew
        clear P
        refine wp_region_held_drew (S := (fun w' => w'.cell? ⟨D, 0, none⟩ = some (.int .i64 n0) ∧ w'.cell? ⟨D, 1, none⟩ = some (.int .i64 n1) ∧ w'.cell? ⟨D, 2, none⟩ = some (.int .i64 n2) ∧ w'.cell? ⟨D, 3, none⟩ = some (.int .i64 n3) ∧ w'.cell? ⟨D, 4, none⟩ = some (.int .i64 n4) ∧ w'.cell? ⟨D, 5, none⟩ = some (.int .i64 q5) ∧ w'.cell? ⟨D, 6, none⟩ = some (.int .i64 n6) ∧ w'.cell? ⟨D, 7, none⟩ = some (.int .i64 n7))) (by kernel_rfl) (PV.d.all8) (fun hHeld => ?_)
        generalize V.drew = X9 at *
        refine wpAnyH_take (i := 0) (v := ?_) rfl (by kernel_rfl) (by kernel_rfl) (by kernel_rfl) (fun _ _ _ h => h) (Or.inl ⟨by rfl, ?_⟩) (by assumption) ?_
        rotate_left
        · intro w hSw
          (try dsimp only at hSw)
          go_simp
          all_goals with_reducible rfl
        try simp only [Act.put, List.setIfInBounds_toArray, List.set_cons_zero, List.set_cons_succ, List.getElem_toArray, List.getElem_cons_zero]
        refine wpAnyH_take (i := 1) (v := ?_) rfl (by kernel_rfl) (by kernel_rfl) (by kernel_rfl) (fun _ _ _ h => h) (Or.inl ⟨by rfl, ?_⟩) (by assumption) ?_
        rotate_left
        · intro w hSw
          (try dsimp only at hSw)
          go_simp
          all_goals with_reducible rfl
        try simp only [Act.put, List.setIfInBounds_toArray, List.set_cons_zero, List.set_cons_succ, List.getElem_toArray, List.getElem_cons_zero, List.getElem_cons_succ]
        refine wpAnyH_take (i := 2) (v := ?_) rfl (by kernel_rfl) (by kernel_rfl) (by kernel_rfl) (fun _ _ _ h => h) (Or.inl ⟨by rfl, ?_⟩) (by assumption) ?_
        rotate_left
        · intro w hSw
          (try dsimp only at hSw)
          go_simp
          all_goals with_reducible rfl
        try simp only [Act.put, List.setIfInBounds_toArray, List.set_cons_zero, List.set_cons_succ, List.getElem_toArray, List.getElem_cons_zero, List.getElem_cons_succ]
        refine wpAnyH_ready (rs := [3]) (by kernel_rfl) (by simp) ?_
        refine AllReadyH.cons rfl (fun K hK => ?_) AllReadyH.nil
        go_simp
        (go_at_call 37; refine (someStamp_any _ r _ _ PV.R.rdr (by omega)).mono ?_)
        rintro e V11 ⟨z11, rfl, lo11, hi11, bl, rd, fr⟩
        have PX := PV.next rd bl fr
        refine hK.out _ _ PX.d.all8 (fun hHeld => ?_)
        clear hK K bl rd fr PV
        try simp only [Act.put, List.setIfInBounds_toArray, List.set_cons_zero, List.set_cons_succ, List.getElem_toArray, List.getElem_cons_zero, List.getElem_cons_succ]
        have u0 : V11.cell? ⟨w.heap.size, 0, none⟩ = some (.int .i64 0) := (PX.e.at_ 0 (by simp)).1
        have v0 := (PX.e.at_ 0 (by simp)).2
        have u1 : V11.cell? ⟨w.heap.size, 1, none⟩ = some (.int .i64 0) := (PX.e.at_ 1 (by simp)).1
        have v1 := (PX.e.at_ 1 (by simp)).2
        have u2 : V11.cell? ⟨w.heap.size, 2, none⟩ = some (.int .i64 0) := (PX.e.at_ 2 (by simp)).1
        have v2 := (PX.e.at_ 2 (by simp)).2
        have u3 : V11.cell? ⟨w.heap.size, 3, none⟩ = some (.int .i64 0) := (PX.e.at_ 3 (by simp)).1
        have v3 := (PX.e.at_ 3 (by simp)).2
        have u4 : V11.cell? ⟨w.heap.size, 4, none⟩ = some (.int .i64 0) := (PX.e.at_ 4 (by simp)).1
        have v4 := (PX.e.at_ 4 (by simp)).2
        have u5 : V11.cell? ⟨w.heap.size, 5, none⟩ = some (.int .i64 0) := (PX.e.at_ 5 (by simp)).1
        have v5 := (PX.e.at_ 5 (by simp)).2
        have u6 : V11.cell? ⟨w.heap.size, 6, none⟩ = some (.int .i64 0) := (PX.e.at_ 6 (by simp)).1
        have v6 := (PX.e.at_ 6 (by simp)).2
        have u7 : V11.cell? ⟨w.heap.size, 7, none⟩ = some (.int .i64 0) := (PX.e.at_ 7 (by simp)).1
        have v7 := (PX.e.at_ 7 (by simp)).2
        have hDE := PX.hDE
        have d9 := (((((((PX.d.other (i := 0) (v := .int .i64 n0) hDE.symm).other (i := 1) (v := .int .i64 n1) hDE.symm).other (i := 2) (v := .int .i64 n2) hDE.symm).other (i := 3) (v := .int .i64 n3) hDE.symm).other (i := 4) (v := .int .i64 n4) hDE.symm).other (i := 5) (v := .int .i64 q5) hDE.symm).other (i := 6) (v := .int .i64 n6) hDE.symm).other (i := 7) (v := .int .i64 n7) hDE.symm
        have HN := Lib.hid (PX.fin (.int .i64 n0) (.int .i64 n1) (.int .i64 n2) (.int .i64 n3) (.int .i64 n4) (.int .i64 q5) (.int .i64 n6) (.int .i64 n7))
        refine wpAnyH_take (i := 4) (v := ?_) rfl (by kernel_rfl) (by kernel_rfl) (by kernel_rfl) (fun _ _ _ h => h) (Or.inl ⟨by rfl, ?_⟩) (by assumption) ?_
        rotate_left
        · intro w hSw
          (try dsimp only at hSw)
          go_simp
          all_goals with_reducible rfl
        try simp only [Act.put, List.setIfInBounds_toArray, List.set_cons_zero, List.set_cons_succ, List.getElem_toArray, List.getElem_cons_zero, List.getElem_cons_succ]
        refine wpAnyH_ready (rs := [5]) (by kernel_rfl) (by simp) ?_
        refine AllReadyH.cons rfl (fun K hK => ?_) AllReadyH.nil
        go_simp
        skip
        refine hK.out _ _ (d9.all8) (fun hHeld => ?_)
        clear hK K
        try simp only [Act.put, List.setIfInBounds_toArray, List.set_cons_zero, List.set_cons_succ, List.getElem_toArray, List.getElem_cons_zero, List.getElem_cons_succ]
        refine wpAnyH_take (i := 6) (v := ?_) rfl (by kernel_rfl) (by kernel_rfl) (by kernel_rfl) (fun _ _ _ h => h) (Or.inl ⟨by rfl, ?_⟩) (by assumption) ?_
        rotate_left
        · intro w hSw
          (try dsimp only at hSw)
          go_simp
          all_goals with_reducible rfl
        try simp only [Act.put, List.setIfInBounds_toArray, List.set_cons_zero, List.set_cons_succ, List.getElem_toArray, List.getElem_cons_zero, List.getElem_cons_succ]
        refine wpAnyH_done (by kernel_rfl) ?_ _
        clear hHeld d9
        go_wp2
        exact bodyPost_ret (v := .tuple #[.int .i64 z6, .agg #[.int .i64 n0, .int .i64 n1, .int .i64 n2, .int .i64 n3, .int .i64 n4, .int .i64 q5, .int .i64 n6, .int .i64 n7], .int .i64 z11]) (by simp [results, Try.results21, go_sem, u0, u1, u2, u3, u4, u5, u6, u7]) rfl ⟨_, _, _, _, _, _, _, _, _, _, rfl, HN.out⟩
      · have hk' : (k12 == 0) = false := by rw [beq_eq_false_iff_ne]; exact hk
        clear hk
        go_upto_region 9 with (fail)
        generalize V12 = V at Q ⊢
        have P := Q
        clear Q
        go_wp2_with fail
        have PV := P.drew
        clear P
        refine wp_region_held_drew (S := (fun w' => w'.cell? ⟨D, 0, none⟩ = some (.int .i64 n0) ∧ w'.cell? ⟨D, 1, none⟩ = some (.int .i64 n1) ∧ w'.cell? ⟨D, 2, none⟩ = some (.int .i64 n2) ∧ w'.cell? ⟨D, 3, none⟩ = some (.int .i64 n3) ∧ w'.cell? ⟨D, 4, none⟩ = some (.int .i64 n4) ∧ w'.cell? ⟨D, 5, none⟩ = some (.int .i64 n5) ∧ w'.cell? ⟨D, 6, none⟩ = some (.int .i64 n6) ∧ w'.cell? ⟨D, 7, none⟩ = some (.int .i64 n7))) (by kernel_rfl) (PV.d.all8) (fun hHeld => ?_)
        generalize V.drew = X9 at *
        refine wpAnyH_take (i := 0) (v := ?_) rfl (by kernel_rfl) (by kernel_rfl) (by kernel_rfl) (fun _ _ _ h => h) (Or.inl ⟨by rfl, ?_⟩) (by assumption) ?_
        rotate_left
        · intro w hSw
          (try dsimp only at hSw)
          go_simp
          all_goals with_reducible rfl
        try simp only [Act.put, List.setIfInBounds_toArray, List.set_cons_zero, List.set_cons_succ, List.getElem_toArray, List.getElem_cons_zero]
        refine wpAnyH_take (i := 1) (v := ?_) rfl (by kernel_rfl) (by kernel_rfl) (by kernel_rfl) (fun _ _ _ h => h) (Or.inl ⟨by rfl, ?_⟩) (by assumption) ?_
        rotate_left
        · intro w hSw
          (try dsimp only at hSw)
          go_simp
          all_goals with_reducible rfl
        try simp only [Act.put, List.setIfInBounds_toArray, List.set_cons_zero, List.set_cons_succ, List.getElem_toArray, List.getElem_cons_zero, List.getElem_cons_succ]
        refine wpAnyH_take (i := 2) (v := ?_) rfl (by kernel_rfl) (by kernel_rfl) (by kernel_rfl) (fun _ _ _ h => h) (Or.inl ⟨by rfl, ?_⟩) (by assumption) ?_
        rotate_left
        · intro w hSw
          (try dsimp only at hSw)
          go_simp
          all_goals with_reducible rfl
        try simp only [Act.put, List.setIfInBounds_toArray, List.set_cons_zero, List.set_cons_succ, List.getElem_toArray, List.getElem_cons_zero, List.getElem_cons_succ]
        refine wpAnyH_ready (rs := [3]) (by kernel_rfl) (by simp) ?_
        refine AllReadyH.cons rfl (fun K hK => ?_) AllReadyH.nil
        go_simp
        (go_at_call 37; refine (someStamp_any _ r _ _ PV.R.rdr (by omega)).mono ?_)
        rintro e V11 ⟨z11, rfl, lo11, hi11, bl, rd, fr⟩
        have PX := PV.next rd bl fr
        refine hK.out _ _ PX.d.all8 (fun hHeld => ?_)
        clear hK K bl rd fr PV
        try simp only [Act.put, List.setIfInBounds_toArray, List.set_cons_zero, List.set_cons_succ, List.getElem_toArray, List.getElem_cons_zero, List.getElem_cons_succ]
        have u0 : V11.cell? ⟨w.heap.size, 0, none⟩ = some (.int .i64 0) := (PX.e.at_ 0 (by simp)).1
        have v0 := (PX.e.at_ 0 (by simp)).2
        have u1 : V11.cell? ⟨w.heap.size, 1, none⟩ = some (.int .i64 0) := (PX.e.at_ 1 (by simp)).1
        have v1 := (PX.e.at_ 1 (by simp)).2
        have u2 : V11.cell? ⟨w.heap.size, 2, none⟩ = some (.int .i64 0) := (PX.e.at_ 2 (by simp)).1
        have v2 := (PX.e.at_ 2 (by simp)).2
        have u3 : V11.cell? ⟨w.heap.size, 3, none⟩ = some (.int .i64 0) := (PX.e.at_ 3 (by simp)).1
        have v3 := (PX.e.at_ 3 (by simp)).2
        have u4 : V11.cell? ⟨w.heap.size, 4, none⟩ = some (.int .i64 0) := (PX.e.at_ 4 (by simp)).1
        have v4 := (PX.e.at_ 4 (by simp)).2
        have u5 : V11.cell? ⟨w.heap.size, 5, none⟩ = some (.int .i64 0) := (PX.e.at_ 5 (by simp)).1
        have v5 := (PX.e.at_ 5 (by simp)).2
        have u6 : V11.cell? ⟨w.heap.size, 6, none⟩ = some (.int .i64 0) := (PX.e.at_ 6 (by simp)).1
        have v6 := (PX.e.at_ 6 (by simp)).2
        have u7 : V11.cell? ⟨w.heap.size, 7, none⟩ = some (.int .i64 0) := (PX.e.at_ 7 (by simp)).1
        have v7 := (PX.e.at_ 7 (by simp)).2
        have hDE := PX.hDE
        have d9 := (((((((PX.d.other (i := 0) (v := .int .i64 n0) hDE.symm).other (i := 1) (v := .int .i64 n1) hDE.symm).other (i := 2) (v := .int .i64 n2) hDE.symm).other (i := 3) (v := .int .i64 n3) hDE.symm).other (i := 4) (v := .int .i64 n4) hDE.symm).other (i := 5) (v := .int .i64 n5) hDE.symm).other (i := 6) (v := .int .i64 n6) hDE.symm).other (i := 7) (v := .int .i64 n7) hDE.symm
        have HN := Lib.hid (PX.fin (.int .i64 n0) (.int .i64 n1) (.int .i64 n2) (.int .i64 n3) (.int .i64 n4) (.int .i64 n5) (.int .i64 n6) (.int .i64 n7))
        refine wpAnyH_take (i := 4) (v := ?_) rfl (by kernel_rfl) (by kernel_rfl) (by kernel_rfl) (fun _ _ _ h => h) (Or.inl ⟨by rfl, ?_⟩) (by assumption) ?_
        rotate_left
        · intro w hSw
          (try dsimp only at hSw)
          go_simp
          all_goals with_reducible rfl
        try simp only [Act.put, List.setIfInBounds_toArray, List.set_cons_zero, List.set_cons_succ, List.getElem_toArray, List.getElem_cons_zero, List.getElem_cons_succ]
        refine wpAnyH_ready (rs := [5]) (by kernel_rfl) (by simp) ?_
        refine AllReadyH.cons rfl (fun K hK => ?_) AllReadyH.nil
        go_simp
        skip
        refine hK.out _ _ (d9.all8) (fun hHeld => ?_)
        clear hK K
        try simp only [Act.put, List.setIfInBounds_toArray, List.set_cons_zero, List.set_cons_succ, List.getElem_toArray, List.getElem_cons_zero, List.getElem_cons_succ]
        refine wpAnyH_take (i := 6) (v := ?_) rfl (by kernel_rfl) (by kernel_rfl) (by kernel_rfl) (fun _ _ _ h => h) (Or.inl ⟨by rfl, ?_⟩) (by assumption) ?_
        rotate_left
        · intro w hSw
          (try dsimp only at hSw)
          go_simp
          all_goals with_reducible rfl
        try simp only [Act.put, List.setIfInBounds_toArray, List.set_cons_zero, List.set_cons_succ, List.getElem_toArray, List.getElem_cons_zero, List.getElem_cons_succ]
        refine wpAnyH_done (by kernel_rfl) ?_ _
        clear hHeld d9
        go_wp2
        exact bodyPost_ret (v := .tuple #[.int .i64 z6, .agg #[.int .i64 n0, .int .i64 n1, .int .i64 n2, .int .i64 n3, .int .i64 n4, .int .i64 n5, .int .i64 n6, .int .i64 n7], .int .i64 z11]) (by simp [results, Try.results21, go_sem, u0, u1, u2, u3, u4, u5, u6, u7]) rfl ⟨_, _, _, _, _, _, _, _, _, _, rfl, HN.out⟩
    · go_upto_region 5 with (fail)
      generalize w6.alloc (.cells #[.int .i64 y0, .int .i64 y1, .int .i64 y2, .int .i64 y3, .int .i64 y4, .int .i64 y5, .int .i64 y6, .int .i64 y7] 25) = W at P0 ⊢
      generalize w6.heap.size = D at P0 hD6 ⊢
      go_wp2_with fail
      refine (pick_any _ r _ _ _ P0.R.rdr (by omega)).mono ?_
      rintro e W8 ⟨k8, rfl, a8, b8, st8⟩
      have P8 := P0.step st8
      clear b8 st8 P0
      by_cases hk8 : k8 = 0
      · subst hk8
        go_wp2_with fail
        refine (anyPacket_any _ r _ _ P8.R.rdr (by omega)).mono ?_
        rintro e w7 ⟨n0, n1, n2, n3, n4, n5, n6, n7, rfl, RR⟩
        have P7 := P8.next RR.rdr RR.bel RR.far
        clear RR P8
        have d0 : w7.cell? ⟨D, 0, none⟩ = some (.int .i64 y0) := (P7.d.at_ 0 (by simp)).1
        have g0 := (P7.d.at_ 0 (by simp)).2
        have d1 : w7.cell? ⟨D, 1, none⟩ = some (.int .i64 y1) := (P7.d.at_ 1 (by simp)).1
        have g1 := (P7.d.at_ 1 (by simp)).2
        have d2 : w7.cell? ⟨D, 2, none⟩ = some (.int .i64 y2) := (P7.d.at_ 2 (by simp)).1
        have g2 := (P7.d.at_ 2 (by simp)).2
        have d3 : w7.cell? ⟨D, 3, none⟩ = some (.int .i64 y3) := (P7.d.at_ 3 (by simp)).1
        have g3 := (P7.d.at_ 3 (by simp)).2
        have d4 : w7.cell? ⟨D, 4, none⟩ = some (.int .i64 y4) := (P7.d.at_ 4 (by simp)).1
        have g4 := (P7.d.at_ 4 (by simp)).2
        have d5 : w7.cell? ⟨D, 5, none⟩ = some (.int .i64 y5) := (P7.d.at_ 5 (by simp)).1
        have g5 := (P7.d.at_ 5 (by simp)).2
        have d6 : w7.cell? ⟨D, 6, none⟩ = some (.int .i64 y6) := (P7.d.at_ 6 (by simp)).1
        have g6 := (P7.d.at_ 6 (by simp)).2
        have d7 : w7.cell? ⟨D, 7, none⟩ = some (.int .i64 y7) := (P7.d.at_ 7 (by simp)).1
        have g7 := (P7.d.at_ 7 (by simp)).2
        have P8 : PD r w w1 ((((((((w7.setCell ⟨D, 0, none⟩ (.int .i64 n0)).setCell ⟨D, 1, none⟩ (.int .i64 n1)).setCell ⟨D, 2, none⟩ (.int .i64 n2)).setCell ⟨D, 3, none⟩ (.int .i64 n3)).setCell ⟨D, 4, none⟩ (.int .i64 n4)).setCell ⟨D, 5, none⟩ (.int .i64 n5)).setCell ⟨D, 6, none⟩ (.int .i64 n6)).setCell ⟨D, 7, none⟩ (.int .i64 n7)) r (0 + 3 + 3 + 1 + 1 + 40) w.heap.size D [n0, n1, n2, n3, n4, n5, n6, n7] := (((((((P7.set 0 (by omega) n0).set 1 (by omega) n1).set 2 (by omega) n2).set 3 (by omega) n3).set 4 (by omega) n4).set 5 (by omega) n5).set 6 (by omega) n6).set 7 (by omega) n7
        clear P7
        go_upto_region 7 with (fail)
        clear d0 g0 d1 g1 d2 g2 d3 g3 d4 g4 d5 g5 d6 g6 d7 g7
        generalize (((((((w7.setCell ⟨D, 0, none⟩ (.int .i64 n0)).setCell ⟨D, 1, none⟩ (.int .i64 n1)).setCell ⟨D, 2, none⟩ (.int .i64 n2)).setCell ⟨D, 3, none⟩ (.int .i64 n3)).setCell ⟨D, 4, none⟩ (.int .i64 n4)).setCell ⟨D, 5, none⟩ (.int .i64 n5)).setCell ⟨D, 6, none⟩ (.int .i64 n6)).setCell ⟨D, 7, none⟩ (.int .i64 n7) = V at P8 ⊢
        have P := P8
        clear P8
        go_wp2_with fail
        refine (pick_any _ r _ _ _ P.R.rdr (by omega)).mono ?_
        rintro e V12 ⟨k12, rfl, a12, b12, st12⟩
        have Q := P.step st12
        clear b12 st12 P
        by_cases hk : k12 = 0
        · subst hk
          have d5 : V12.cell? ⟨D, 5, none⟩ = some (.int .i64 n5) := (Q.d.at_ 5 (by simp)).1
          have g5 := (Q.d.at_ 5 (by simp)).2
          obtain ⟨q5, hq5⟩ : ∃ q5 : Int, q5 = wrap64 (n5 + 1) := ⟨_, rfl⟩
          have Q5 := Q.set 5 (by omega) q5
          go_upto_region 9 with (fail)
          clear d5 g5
          rw [← hq5]
          clear hq5 Q
          generalize V12.setCell ⟨D, 5, none⟩ (.int .i64 q5) = V at Q5 ⊢
          have P : PD r w w1 V r (0 + 3 + 3 + 1 + 1 + 40 + 1) w.heap.size D [n0, n1, n2, n3, n4, q5, n6, n7] := Q5
          clear Q5
          go_wp2_with fail
          have PV := P.drew
          clear P
          refine wp_region_held_drew (S := (fun w' => w'.cell? ⟨D, 0, none⟩ = some (.int .i64 n0) ∧ w'.cell? ⟨D, 1, none⟩ = some (.int .i64 n1) ∧ w'.cell? ⟨D, 2, none⟩ = some (.int .i64 n2) ∧ w'.cell? ⟨D, 3, none⟩ = some (.int .i64 n3) ∧ w'.cell? ⟨D, 4, none⟩ = some (.int .i64 n4) ∧ w'.cell? ⟨D, 5, none⟩ = some (.int .i64 q5) ∧ w'.cell? ⟨D, 6, none⟩ = some (.int .i64 n6) ∧ w'.cell? ⟨D, 7, none⟩ = some (.int .i64 n7))) (by kernel_rfl) (PV.d.all8) (fun hHeld => ?_)
          generalize V.drew = X9 at *
          refine wpAnyH_take (i := 0) (v := ?_) rfl (by kernel_rfl) (by kernel_rfl) (by kernel_rfl) (fun _ _ _ h => h) (Or.inl ⟨by rfl, ?_⟩) (by assumption) ?_
          rotate_left
          · intro w hSw
            (try dsimp only at hSw)
            go_simp
            all_goals with_reducible rfl
          try simp only [Act.put, List.setIfInBounds_toArray, List.set_cons_zero, List.set_cons_succ, List.getElem_toArray, List.getElem_cons_zero]
          refine wpAnyH_take (i := 1) (v := ?_) rfl (by kernel_rfl) (by kernel_rfl) (by kernel_rfl) (fun _ _ _ h => h) (Or.inl ⟨by rfl, ?_⟩) (by assumption) ?_
          rotate_left
          · intro w hSw
            (try dsimp only at hSw)
            go_simp
            all_goals with_reducible rfl
          try simp only [Act.put, List.setIfInBounds_toArray, List.set_cons_zero, List.set_cons_succ, List.getElem_toArray, List.getElem_cons_zero, List.getElem_cons_succ]
          refine wpAnyH_take (i := 2) (v := ?_) rfl (by kernel_rfl) (by kernel_rfl) (by kernel_rfl) (fun _ _ _ h => h) (Or.inl ⟨by rfl, ?_⟩) (by assumption) ?_
          rotate_left
          · intro w hSw
            (try dsimp only at hSw)
            go_simp
            all_goals with_reducible rfl
          try simp only [Act.put, List.setIfInBounds_toArray, List.set_cons_zero, List.set_cons_succ, List.getElem_toArray, List.getElem_cons_zero, List.getElem_cons_succ]
          refine wpAnyH_ready (rs := [3]) (by kernel_rfl) (by simp) ?_
          refine AllReadyH.cons rfl (fun K hK => ?_) AllReadyH.nil
          go_simp
          (go_at_call 37; refine (someStamp_any _ r _ _ PV.R.rdr (by omega)).mono ?_)
          rintro e V11 ⟨z11, rfl, lo11, hi11, bl, rd, fr⟩
          have PX := PV.next rd bl fr
          refine hK.out _ _ PX.d.all8 (fun hHeld => ?_)
          clear hK K bl rd fr PV
          try simp only [Act.put, List.setIfInBounds_toArray, List.set_cons_zero, List.set_cons_succ, List.getElem_toArray, List.getElem_cons_zero, List.getElem_cons_succ]
          have u0 : V11.cell? ⟨w.heap.size, 0, none⟩ = some (.int .i64 0) := (PX.e.at_ 0 (by simp)).1
          have v0 := (PX.e.at_ 0 (by simp)).2
          have u1 : V11.cell? ⟨w.heap.size, 1, none⟩ = some (.int .i64 0) := (PX.e.at_ 1 (by simp)).1
          have v1 := (PX.e.at_ 1 (by simp)).2
          have u2 : V11.cell? ⟨w.heap.size, 2, none⟩ = some (.int .i64 0) := (PX.e.at_ 2 (by simp)).1
          have v2 := (PX.e.at_ 2 (by simp)).2
          have u3 : V11.cell? ⟨w.heap.size, 3, none⟩ = some (.int .i64 0) := (PX.e.at_ 3 (by simp)).1
          have v3 := (PX.e.at_ 3 (by simp)).2
          have u4 : V11.cell? ⟨w.heap.size, 4, none⟩ = some (.int .i64 0) := (PX.e.at_ 4 (by simp)).1
          have v4 := (PX.e.at_ 4 (by simp)).2
          have u5 : V11.cell? ⟨w.heap.size, 5, none⟩ = some (.int .i64 0) := (PX.e.at_ 5 (by simp)).1
          have v5 := (PX.e.at_ 5 (by simp)).2
          have u6 : V11.cell? ⟨w.heap.size, 6, none⟩ = some (.int .i64 0) := (PX.e.at_ 6 (by simp)).1
          have v6 := (PX.e.at_ 6 (by simp)).2
          have u7 : V11.cell? ⟨w.heap.size, 7, none⟩ = some (.int .i64 0) := (PX.e.at_ 7 (by simp)).1
          have v7 := (PX.e.at_ 7 (by simp)).2
          have hDE := PX.hDE
          have d9 := (((((((PX.d.other (i := 0) (v := .int .i64 n0) hDE.symm).other (i := 1) (v := .int .i64 n1) hDE.symm).other (i := 2) (v := .int .i64 n2) hDE.symm).other (i := 3) (v := .int .i64 n3) hDE.symm).other (i := 4) (v := .int .i64 n4) hDE.symm).other (i := 5) (v := .int .i64 q5) hDE.symm).other (i := 6) (v := .int .i64 n6) hDE.symm).other (i := 7) (v := .int .i64 n7) hDE.symm
          have HN := Lib.hid (PX.fin (.int .i64 n0) (.int .i64 n1) (.int .i64 n2) (.int .i64 n3) (.int .i64 n4) (.int .i64 q5) (.int .i64 n6) (.int .i64 n7))
          refine wpAnyH_take (i := 4) (v := ?_) rfl (by kernel_rfl) (by kernel_rfl) (by kernel_rfl) (fun _ _ _ h => h) (Or.inl ⟨by rfl, ?_⟩) (by assumption) ?_
          rotate_left
          · intro w hSw
            (try dsimp only at hSw)
            go_simp
            all_goals with_reducible rfl
          try simp only [Act.put, List.setIfInBounds_toArray, List.set_cons_zero, List.set_cons_succ, List.getElem_toArray, List.getElem_cons_zero, List.getElem_cons_succ]
          refine wpAnyH_ready (rs := [5]) (by kernel_rfl) (by simp) ?_
          refine AllReadyH.cons rfl (fun K hK => ?_) AllReadyH.nil
          go_simp
          skip
          refine hK.out _ _ (d9.all8) (fun hHeld => ?_)
          clear hK K
          try simp only [Act.put, List.setIfInBounds_toArray, List.set_cons_zero, List.set_cons_succ, List.getElem_toArray, List.getElem_cons_zero, List.getElem_cons_succ]
          refine wpAnyH_take (i := 6) (v := ?_) rfl (by kernel_rfl) (by kernel_rfl) (by kernel_rfl) (fun _ _ _ h => h) (Or.inl ⟨by rfl, ?_⟩) (by assumption) ?_
          rotate_left
          · intro w hSw
            (try dsimp only at hSw)
            go_simp
            all_goals with_reducible rfl
          try simp only [Act.put, List.setIfInBounds_toArray, List.set_cons_zero, List.set_cons_succ, List.getElem_toArray, List.getElem_cons_zero, List.getElem_cons_succ]
          refine wpAnyH_done (by kernel_rfl) ?_ _
          clear hHeld d9
          go_wp2
          exact bodyPost_ret (v := .tuple #[.int .i64 z6, .agg #[.int .i64 n0, .int .i64 n1, .int .i64 n2, .int .i64 n3, .int .i64 n4, .int .i64 q5, .int .i64 n6, .int .i64 n7], .int .i64 z11]) (by simp [results, Try.results21, go_sem, u0, u1, u2, u3, u4, u5, u6, u7]) rfl ⟨_, _, _, _, _, _, _, _, _, _, rfl, HN.out⟩
        · have hk' : (k12 == 0) = false := by rw [beq_eq_false_iff_ne]; exact hk
          clear hk
          go_upto_region 9 with (fail)
          generalize V12 = V at Q ⊢
          have P := Q
          clear Q
          go_wp2_with fail
          have PV := P.drew
          clear P
          refine wp_region_held_drew (S := (fun w' => w'.cell? ⟨D, 0, none⟩ = some (.int .i64 n0) ∧ w'.cell? ⟨D, 1, none⟩ = some (.int .i64 n1) ∧ w'.cell? ⟨D, 2, none⟩ = some (.int .i64 n2) ∧ w'.cell? ⟨D, 3, none⟩ = some (.int .i64 n3) ∧ w'.cell? ⟨D, 4, none⟩ = some (.int .i64 n4) ∧ w'.cell? ⟨D, 5, none⟩ = some (.int .i64 n5) ∧ w'.cell? ⟨D, 6, none⟩ = some (.int .i64 n6) ∧ w'.cell? ⟨D, 7, none⟩ = some (.int .i64 n7))) (by kernel_rfl) (PV.d.all8) (fun hHeld => ?_)
          generalize V.drew = X9 at *
          refine wpAnyH_take (i := 0) (v := ?_) rfl (by kernel_rfl) (by kernel_rfl) (by kernel_rfl) (fun _ _ _ h => h) (Or.inl ⟨by rfl, ?_⟩) (by assumption) ?_
          rotate_left
          · intro w hSw
            (try dsimp only at hSw)
            go_simp
            all_goals with_reducible rfl
          try simp only [Act.put, List.setIfInBounds_toArray, List.set_cons_zero, List.set_cons_succ, List.getElem_toArray, List.getElem_cons_zero]
          refine wpAnyH_take (i := 1) (v := ?_) rfl (by kernel_rfl) (by kernel_rfl) (by kernel_rfl) (fun _ _ _ h => h) (Or.inl ⟨by rfl, ?_⟩) (by assumption) ?_
          rotate_left
          · intro w hSw
            (try dsimp only at hSw)
            go_simp
            all_goals with_reducible rfl
          try simp only [Act.put, List.setIfInBounds_toArray, List.set_cons_zero, List.set_cons_succ, List.getElem_toArray, List.getElem_cons_zero, List.getElem_cons_succ]
          refine wpAnyH_take (i := 2) (v := ?_) rfl (by kernel_rfl) (by kernel_rfl) (by kernel_rfl) (fun _ _ _ h => h) (Or.inl ⟨by rfl, ?_⟩) (by assumption) ?_
          rotate_left
          · intro w hSw
            (try dsimp only at hSw)
            go_simp
            all_goals with_reducible rfl
          try simp only [Act.put, List.setIfInBounds_toArray, List.set_cons_zero, List.set_cons_succ, List.getElem_toArray, List.getElem_cons_zero, List.getElem_cons_succ]
          refine wpAnyH_ready (rs := [3]) (by kernel_rfl) (by simp) ?_
          refine AllReadyH.cons rfl (fun K hK => ?_) AllReadyH.nil
          go_simp
          (go_at_call 37; refine (someStamp_any _ r _ _ PV.R.rdr (by omega)).mono ?_)
          rintro e V11 ⟨z11, rfl, lo11, hi11, bl, rd, fr⟩
          have PX := PV.next rd bl fr
          refine hK.out _ _ PX.d.all8 (fun hHeld => ?_)
          clear hK K bl rd fr PV
          try simp only [Act.put, List.setIfInBounds_toArray, List.set_cons_zero, List.set_cons_succ, List.getElem_toArray, List.getElem_cons_zero, List.getElem_cons_succ]
          have u0 : V11.cell? ⟨w.heap.size, 0, none⟩ = some (.int .i64 0) := (PX.e.at_ 0 (by simp)).1
          have v0 := (PX.e.at_ 0 (by simp)).2
          have u1 : V11.cell? ⟨w.heap.size, 1, none⟩ = some (.int .i64 0) := (PX.e.at_ 1 (by simp)).1
          have v1 := (PX.e.at_ 1 (by simp)).2
          have u2 : V11.cell? ⟨w.heap.size, 2, none⟩ = some (.int .i64 0) := (PX.e.at_ 2 (by simp)).1
          have v2 := (PX.e.at_ 2 (by simp)).2
          have u3 : V11.cell? ⟨w.heap.size, 3, none⟩ = some (.int .i64 0) := (PX.e.at_ 3 (by simp)).1
          have v3 := (PX.e.at_ 3 (by simp)).2
          have u4 : V11.cell? ⟨w.heap.size, 4, none⟩ = some (.int .i64 0) := (PX.e.at_ 4 (by simp)).1
          have v4 := (PX.e.at_ 4 (by simp)).2
          have u5 : V11.cell? ⟨w.heap.size, 5, none⟩ = some (.int .i64 0) := (PX.e.at_ 5 (by simp)).1
          have v5 := (PX.e.at_ 5 (by simp)).2
          have u6 : V11.cell? ⟨w.heap.size, 6, none⟩ = some (.int .i64 0) := (PX.e.at_ 6 (by simp)).1
          have v6 := (PX.e.at_ 6 (by simp)).2
          have u7 : V11.cell? ⟨w.heap.size, 7, none⟩ = some (.int .i64 0) := (PX.e.at_ 7 (by simp)).1
          have v7 := (PX.e.at_ 7 (by simp)).2
          have hDE := PX.hDE
          have d9 := (((((((PX.d.other (i := 0) (v := .int .i64 n0) hDE.symm).other (i := 1) (v := .int .i64 n1) hDE.symm).other (i := 2) (v := .int .i64 n2) hDE.symm).other (i := 3) (v := .int .i64 n3) hDE.symm).other (i := 4) (v := .int .i64 n4) hDE.symm).other (i := 5) (v := .int .i64 n5) hDE.symm).other (i := 6) (v := .int .i64 n6) hDE.symm).other (i := 7) (v := .int .i64 n7) hDE.symm
          have HN := Lib.hid (PX.fin (.int .i64 n0) (.int .i64 n1) (.int .i64 n2) (.int .i64 n3) (.int .i64 n4) (.int .i64 n5) (.int .i64 n6) (.int .i64 n7))
          refine wpAnyH_take (i := 4) (v := ?_) rfl (by kernel_rfl) (by kernel_rfl) (by kernel_rfl) (fun _ _ _ h => h) (Or.inl ⟨by rfl, ?_⟩) (by assumption) ?_
          rotate_left
          · intro w hSw
            (try dsimp only at hSw)
            go_simp
            all_goals with_reducible rfl
          try simp only [Act.put, List.setIfInBounds_toArray, List.set_cons_zero, List.set_cons_succ, List.getElem_toArray, List.getElem_cons_zero, List.getElem_cons_succ]
          refine wpAnyH_ready (rs := [5]) (by kernel_rfl) (by simp) ?_
          refine AllReadyH.cons rfl (fun K hK => ?_) AllReadyH.nil
          go_simp
          skip
          refine hK.out _ _ (d9.all8) (fun hHeld => ?_)
          clear hK K
          try simp only [Act.put, List.setIfInBounds_toArray, List.set_cons_zero, List.set_cons_succ, List.getElem_toArray, List.getElem_cons_zero, List.getElem_cons_succ]
          refine wpAnyH_take (i := 6) (v := ?_) rfl (by kernel_rfl) (by kernel_rfl) (by kernel_rfl) (fun _ _ _ h => h) (Or.inl ⟨by rfl, ?_⟩) (by assumption) ?_
          rotate_left
          · intro w hSw
            (try dsimp only at hSw)
            go_simp
            all_goals with_reducible rfl
          try simp only [Act.put, List.setIfInBounds_toArray, List.set_cons_zero, List.set_cons_succ, List.getElem_toArray, List.getElem_cons_zero, List.getElem_cons_succ]
          refine wpAnyH_done (by kernel_rfl) ?_ _
          clear hHeld d9
          go_wp2
          exact bodyPost_ret (v := .tuple #[.int .i64 z6, .agg #[.int .i64 n0, .int .i64 n1, .int .i64 n2, .int .i64 n3, .int .i64 n4, .int .i64 n5, .int .i64 n6, .int .i64 n7], .int .i64 z11]) (by simp [results, Try.results21, go_sem, u0, u1, u2, u3, u4, u5, u6, u7]) rfl ⟨_, _, _, _, _, _, _, _, _, _, rfl, HN.out⟩
      · have hk8' : (k8 == 0) = false := by rw [beq_eq_false_iff_ne]; exact hk8
        clear hk8
        go_upto_region 7 with (fail)
        generalize W8 = V at P8 ⊢
        have P := P8
        clear P8
        go_wp2_with fail
        refine (pick_any _ r _ _ _ P.R.rdr (by omega)).mono ?_
        rintro e V12 ⟨k12, rfl, a12, b12, st12⟩
        have Q := P.step st12
        clear b12 st12 P
        by_cases hk : k12 = 0
        · subst hk
          have d5 : V12.cell? ⟨D, 5, none⟩ = some (.int .i64 y5) := (Q.d.at_ 5 (by simp)).1
          have g5 := (Q.d.at_ 5 (by simp)).2
          obtain ⟨q5, hq5⟩ : ∃ q5 : Int, q5 = wrap64 (y5 + 1) := ⟨_, rfl⟩
          have Q5 := Q.set 5 (by omega) q5
          go_upto_region 9 with (fail)
          clear d5 g5
          rw [← hq5]
          clear hq5 Q
          generalize V12.setCell ⟨D, 5, none⟩ (.int .i64 q5) = V at Q5 ⊢
          have P : PD r w w1 V r (0 + 3 + 3 + 1 + 1 + 1) w.heap.size D [y0, y1, y2, y3, y4, q5, y6, y7] := Q5
          clear Q5
          go_wp2_with fail
          have PV := P.drew
          clear P
          refine wp_region_held_drew (S := (fun w' => w'.cell? ⟨D, 0, none⟩ = some (.int .i64 y0) ∧ w'.cell? ⟨D, 1, none⟩ = some (.int .i64 y1) ∧ w'.cell? ⟨D, 2, none⟩ = some (.int .i64 y2) ∧ w'.cell? ⟨D, 3, none⟩ = some (.int .i64 y3) ∧ w'.cell? ⟨D, 4, none⟩ = some (.int .i64 y4) ∧ w'.cell? ⟨D, 5, none⟩ = some (.int .i64 q5) ∧ w'.cell? ⟨D, 6, none⟩ = some (.int .i64 y6) ∧ w'.cell? ⟨D, 7, none⟩ = some (.int .i64 y7))) (by kernel_rfl) (PV.d.all8) (fun hHeld => ?_)
          generalize V.drew = X9 at *
          refine wpAnyH_take (i := 0) (v := ?_) rfl (by kernel_rfl) (by kernel_rfl) (by kernel_rfl) (fun _ _ _ h => h) (Or.inl ⟨by rfl, ?_⟩) (by assumption) ?_
          rotate_left
          · intro w hSw
            (try dsimp only at hSw)
            go_simp
            all_goals with_reducible rfl
          try simp only [Act.put, List.setIfInBounds_toArray, List.set_cons_zero, List.set_cons_succ, List.getElem_toArray, List.getElem_cons_zero]
          refine wpAnyH_take (i := 1) (v := ?_) rfl (by kernel_rfl) (by kernel_rfl) (by kernel_rfl) (fun _ _ _ h => h) (Or.inl ⟨by rfl, ?_⟩) (by assumption) ?_
          rotate_left
          · intro w hSw
            (try dsimp only at hSw)
            go_simp
            all_goals with_reducible rfl
          try simp only [Act.put, List.setIfInBounds_toArray, List.set_cons_zero, List.set_cons_succ, List.getElem_toArray, List.getElem_cons_zero, List.getElem_cons_succ]
          refine wpAnyH_take (i := 2) (v := ?_) rfl (by kernel_rfl) (by kernel_rfl) (by kernel_rfl) (fun _ _ _ h => h) (Or.inl ⟨by rfl, ?_⟩) (by assumption) ?_
          rotate_left
          · intro w hSw
            (try dsimp only at hSw)
            go_simp
            all_goals with_reducible rfl
          try simp only [Act.put, List.setIfInBounds_toArray, List.set_cons_zero, List.set_cons_succ, List.getElem_toArray, List.getElem_cons_zero, List.getElem_cons_succ]
          refine wpAnyH_ready (rs := [3]) (by kernel_rfl) (by simp) ?_
          refine AllReadyH.cons rfl (fun K hK => ?_) AllReadyH.nil
          go_simp
          (go_at_call 37; refine (someStamp_any _ r _ _ PV.R.rdr (by omega)).mono ?_)
          rintro e V11 ⟨z11, rfl, lo11, hi11, bl, rd, fr⟩
          have PX := PV.next rd bl fr
          refine hK.out _ _ PX.d.all8 (fun hHeld => ?_)
          clear hK K bl rd fr PV
          try simp only [Act.put, List.setIfInBounds_toArray, List.set_cons_zero, List.set_cons_succ, List.getElem_toArray, List.getElem_cons_zero, List.getElem_cons_succ]
          have u0 : V11.cell? ⟨w.heap.size, 0, none⟩ = some (.int .i64 0) := (PX.e.at_ 0 (by simp)).1
          have v0 := (PX.e.at_ 0 (by simp)).2
          have u1 : V11.cell? ⟨w.heap.size, 1, none⟩ = some (.int .i64 0) := (PX.e.at_ 1 (by simp)).1
          have v1 := (PX.e.at_ 1 (by simp)).2
          have u2 : V11.cell? ⟨w.heap.size, 2, none⟩ = some (.int .i64 0) := (PX.e.at_ 2 (by simp)).1
          have v2 := (PX.e.at_ 2 (by simp)).2
          have u3 : V11.cell? ⟨w.heap.size, 3, none⟩ = some (.int .i64 0) := (PX.e.at_ 3 (by simp)).1
          have v3 := (PX.e.at_ 3 (by simp)).2
          have u4 : V11.cell? ⟨w.heap.size, 4, none⟩ = some (.int .i64 0) := (PX.e.at_ 4 (by simp)).1
          have v4 := (PX.e.at_ 4 (by simp)).2
          have u5 : V11.cell? ⟨w.heap.size, 5, none⟩ = some (.int .i64 0) := (PX.e.at_ 5 (by simp)).1
          have v5 := (PX.e.at_ 5 (by simp)).2
          have u6 : V11.cell? ⟨w.heap.size, 6, none⟩ = some (.int .i64 0) := (PX.e.at_ 6 (by simp)).1
          have v6 := (PX.e.at_ 6 (by simp)).2
          have u7 : V11.cell? ⟨w.heap.size, 7, none⟩ = some (.int .i64 0) := (PX.e.at_ 7 (by simp)).1
          have v7 := (PX.e.at_ 7 (by simp)).2
          have hDE := PX.hDE
          have d9 := (((((((PX.d.other (i := 0) (v := .int .i64 y0) hDE.symm).other (i := 1) (v := .int .i64 y1) hDE.symm).other (i := 2) (v := .int .i64 y2) hDE.symm).other (i := 3) (v := .int .i64 y3) hDE.symm).other (i := 4) (v := .int .i64 y4) hDE.symm).other (i := 5) (v := .int .i64 q5) hDE.symm).other (i := 6) (v := .int .i64 y6) hDE.symm).other (i := 7) (v := .int .i64 y7) hDE.symm
          have HN := Lib.hid (PX.fin (.int .i64 y0) (.int .i64 y1) (.int .i64 y2) (.int .i64 y3) (.int .i64 y4) (.int .i64 q5) (.int .i64 y6) (.int .i64 y7))
          refine wpAnyH_take (i := 4) (v := ?_) rfl (by kernel_rfl) (by kernel_rfl) (by kernel_rfl) (fun _ _ _ h => h) (Or.inl ⟨by rfl, ?_⟩) (by assumption) ?_
          rotate_left
          · intro w hSw
            (try dsimp only at hSw)
            go_simp
            all_goals with_reducible rfl
          try simp only [Act.put, List.setIfInBounds_toArray, List.set_cons_zero, List.set_cons_succ, List.getElem_toArray, List.getElem_cons_zero, List.getElem_cons_succ]
          refine wpAnyH_ready (rs := [5]) (by kernel_rfl) (by simp) ?_
          refine AllReadyH.cons rfl (fun K hK => ?_) AllReadyH.nil
          go_simp
          skip
          refine hK.out _ _ (d9.all8) (fun hHeld => ?_)
          clear hK K
          try simp only [Act.put, List.setIfInBounds_toArray, List.set_cons_zero, List.set_cons_succ, List.getElem_toArray, List.getElem_cons_zero, List.getElem_cons_succ]
          refine wpAnyH_take (i := 6) (v := ?_) rfl (by kernel_rfl) (by kernel_rfl) (by kernel_rfl) (fun _ _ _ h => h) (Or.inl ⟨by rfl, ?_⟩) (by assumption) ?_
          rotate_left
          · intro w hSw
            (try dsimp only at hSw)
            go_simp
            all_goals with_reducible rfl
          try simp only [Act.put, List.setIfInBounds_toArray, List.set_cons_zero, List.set_cons_succ, List.getElem_toArray, List.getElem_cons_zero, List.getElem_cons_succ]
          refine wpAnyH_done (by kernel_rfl) ?_ _
          clear hHeld d9
          go_wp2
          exact bodyPost_ret (v := .tuple #[.int .i64 z6, .agg #[.int .i64 y0, .int .i64 y1, .int .i64 y2, .int .i64 y3, .int .i64 y4, .int .i64 q5, .int .i64 y6, .int .i64 y7], .int .i64 z11]) (by simp [results, Try.results21, go_sem, u0, u1, u2, u3, u4, u5, u6, u7]) rfl ⟨_, _, _, _, _, _, _, _, _, _, rfl, HN.out⟩
        · have hk' : (k12 == 0) = false := by rw [beq_eq_false_iff_ne]; exact hk
          clear hk
          go_upto_region 9 with (fail)
          generalize V12 = V at Q ⊢
          have P := Q
          clear Q
          go_wp2_with fail
          have PV := P.drew
          clear P
          refine wp_region_held_drew (S := (fun w' => w'.cell? ⟨D, 0, none⟩ = some (.int .i64 y0) ∧ w'.cell? ⟨D, 1, none⟩ = some (.int .i64 y1) ∧ w'.cell? ⟨D, 2, none⟩ = some (.int .i64 y2) ∧ w'.cell? ⟨D, 3, none⟩ = some (.int .i64 y3) ∧ w'.cell? ⟨D, 4, none⟩ = some (.int .i64 y4) ∧ w'.cell? ⟨D, 5, none⟩ = some (.int .i64 y5) ∧ w'.cell? ⟨D, 6, none⟩ = some (.int .i64 y6) ∧ w'.cell? ⟨D, 7, none⟩ = some (.int .i64 y7))) (by kernel_rfl) (PV.d.all8) (fun hHeld => ?_)
          generalize V.drew = X9 at *
          refine wpAnyH_take (i := 0) (v := ?_) rfl (by kernel_rfl) (by kernel_rfl) (by kernel_rfl) (fun _ _ _ h => h) (Or.inl ⟨by rfl, ?_⟩) (by assumption) ?_
          rotate_left
          · intro w hSw
            (try dsimp only at hSw)
            go_simp
            all_goals with_reducible rfl
          try simp only [Act.put, List.setIfInBounds_toArray, List.set_cons_zero, List.set_cons_succ, List.getElem_toArray, List.getElem_cons_zero]
          refine wpAnyH_take (i := 1) (v := ?_) rfl (by kernel_rfl) (by kernel_rfl) (by kernel_rfl) (fun _ _ _ h => h) (Or.inl ⟨by rfl, ?_⟩) (by assumption) ?_
          rotate_left
          · intro w hSw
            (try dsimp only at hSw)
            go_simp
            all_goals with_reducible rfl
          try simp only [Act.put, List.setIfInBounds_toArray, List.set_cons_zero, List.set_cons_succ, List.getElem_toArray, List.getElem_cons_zero, List.getElem_cons_succ]
          refine wpAnyH_take (i := 2) (v := ?_) rfl (by kernel_rfl) (by kernel_rfl) (by kernel_rfl) (fun _ _ _ h => h) (Or.inl ⟨by rfl, ?_⟩) (by assumption) ?_
          rotate_left
          · intro w hSw
            (try dsimp only at hSw)
            go_simp
            all_goals with_reducible rfl
          try simp only [Act.put, List.setIfInBounds_toArray, List.set_cons_zero, List.set_cons_succ, List.getElem_toArray, List.getElem_cons_zero, List.getElem_cons_succ]
          refine wpAnyH_ready (rs := [3]) (by kernel_rfl) (by simp) ?_
          refine AllReadyH.cons rfl (fun K hK => ?_) AllReadyH.nil
          go_simp
          (go_at_call 37; refine (someStamp_any _ r _ _ PV.R.rdr (by omega)).mono ?_)
          rintro e V11 ⟨z11, rfl, lo11, hi11, bl, rd, fr⟩
          have PX := PV.next rd bl fr
          refine hK.out _ _ PX.d.all8 (fun hHeld => ?_)
          clear hK K bl rd fr PV
          try simp only [Act.put, List.setIfInBounds_toArray, List.set_cons_zero, List.set_cons_succ, List.getElem_toArray, List.getElem_cons_zero, List.getElem_cons_succ]
          have u0 : V11.cell? ⟨w.heap.size, 0, none⟩ = some (.int .i64 0) := (PX.e.at_ 0 (by simp)).1
          have v0 := (PX.e.at_ 0 (by simp)).2
          have u1 : V11.cell? ⟨w.heap.size, 1, none⟩ = some (.int .i64 0) := (PX.e.at_ 1 (by simp)).1
          have v1 := (PX.e.at_ 1 (by simp)).2
          have u2 : V11.cell? ⟨w.heap.size, 2, none⟩ = some (.int .i64 0) := (PX.e.at_ 2 (by simp)).1
          have v2 := (PX.e.at_ 2 (by simp)).2
          have u3 : V11.cell? ⟨w.heap.size, 3, none⟩ = some (.int .i64 0) := (PX.e.at_ 3 (by simp)).1
          have v3 := (PX.e.at_ 3 (by simp)).2
          have u4 : V11.cell? ⟨w.heap.size, 4, none⟩ = some (.int .i64 0) := (PX.e.at_ 4 (by simp)).1
          have v4 := (PX.e.at_ 4 (by simp)).2
          have u5 : V11.cell? ⟨w.heap.size, 5, none⟩ = some (.int .i64 0) := (PX.e.at_ 5 (by simp)).1
          have v5 := (PX.e.at_ 5 (by simp)).2
          have u6 : V11.cell? ⟨w.heap.size, 6, none⟩ = some (.int .i64 0) := (PX.e.at_ 6 (by simp)).1
          have v6 := (PX.e.at_ 6 (by simp)).2
          have u7 : V11.cell? ⟨w.heap.size, 7, none⟩ = some (.int .i64 0) := (PX.e.at_ 7 (by simp)).1
          have v7 := (PX.e.at_ 7 (by simp)).2
          have hDE := PX.hDE
          have d9 := (((((((PX.d.other (i := 0) (v := .int .i64 y0) hDE.symm).other (i := 1) (v := .int .i64 y1) hDE.symm).other (i := 2) (v := .int .i64 y2) hDE.symm).other (i := 3) (v := .int .i64 y3) hDE.symm).other (i := 4) (v := .int .i64 y4) hDE.symm).other (i := 5) (v := .int .i64 y5) hDE.symm).other (i := 6) (v := .int .i64 y6) hDE.symm).other (i := 7) (v := .int .i64 y7) hDE.symm
          have HN := Lib.hid (PX.fin (.int .i64 y0) (.int .i64 y1) (.int .i64 y2) (.int .i64 y3) (.int .i64 y4) (.int .i64 y5) (.int .i64 y6) (.int .i64 y7))
          refine wpAnyH_take (i := 4) (v := ?_) rfl (by kernel_rfl) (by kernel_rfl) (by kernel_rfl) (fun _ _ _ h => h) (Or.inl ⟨by rfl, ?_⟩) (by assumption) ?_
          rotate_left
          · intro w hSw
            (try dsimp only at hSw)
            go_simp
            all_goals with_reducible rfl
          try simp only [Act.put, List.setIfInBounds_toArray, List.set_cons_zero, List.set_cons_succ, List.getElem_toArray, List.getElem_cons_zero, List.getElem_cons_succ]
          refine wpAnyH_ready (rs := [5]) (by kernel_rfl) (by simp) ?_
          refine AllReadyH.cons rfl (fun K hK => ?_) AllReadyH.nil
          go_simp
          skip
          refine hK.out _ _ (d9.all8) (fun hHeld => ?_)
          clear hK K
          try simp only [Act.put, List.setIfInBounds_toArray, List.set_cons_zero, List.set_cons_succ, List.getElem_toArray, List.getElem_cons_zero, List.getElem_cons_succ]
          refine wpAnyH_take (i := 6) (v := ?_) rfl (by kernel_rfl) (by kernel_rfl) (by kernel_rfl) (fun _ _ _ h => h) (Or.inl ⟨by rfl, ?_⟩) (by assumption) ?_
          rotate_left
          · intro w hSw
            (try dsimp only at hSw)
            go_simp
            all_goals with_reducible rfl
          try simp only [Act.put, List.setIfInBounds_toArray, List.set_cons_zero, List.set_cons_succ, List.getElem_toArray, List.getElem_cons_zero, List.getElem_cons_succ]
          refine wpAnyH_done (by kernel_rfl) ?_ _
          clear hHeld d9
          go_wp2
          exact bodyPost_ret (v := .tuple #[.int .i64 z6, .agg #[.int .i64 y0, .int .i64 y1, .int .i64 y2, .int .i64 y3, .int .i64 y4, .int .i64 y5, .int .i64 y6, .int .i64 y7], .int .i64 z11]) (by simp [results, Try.results21, go_sem, u0, u1, u2, u3, u4, u5, u6, u7]) rfl ⟨_, _, _, _, _, _, _, _, _, _, rfl, HN.out⟩
  · refine (one_any _ r _ _ _ _ 0 2 _ (R4.alloc _ _).rdr (by omega) (by omega) (by omega) (by have := R4.rdr.top; omega) ?_).mono ?_
    · exact made_cells _ _ _ _ _ _ rfl (by simp [Ints])
    rintro e w5 ⟨z5, rfl, lo5, hi5, bl, rd, fr⟩
    have R5 := (R4.alloc _ _).next rd bl fr
    have e5 := (e4.far ((Far.refl _ _).alloc _)).far fr
    clear bl rd fr R4 e4
    obtain ⟨y0, y1, y2, y3, y4, y5, y6, y7, ok, kb⟩ := AN_any x0 x1 x2 x3 x4 x5 x6 x7 z7 (z7 + 50) z5 10
    have KB := Lib.hid kb
    clear kb
    go_wp2_with fail
    refine (KB.out _).mono ?_
    rintro e w6 ⟨rfl, b6⟩
    have P0 : PD r w w1 (w6.alloc (.cells #[.int .i64 y0, .int .i64 y1, .int .i64 y2, .int .i64 y3, .int .i64 y4, .int .i64 y5, .int .i64 y6, .int .i64 y7] 25)) r (0 + 3 + 3 + 1) w.heap.size w6.heap.size [y0, y1, y2, y3, y4, y5, y6, y7] :=
      ⟨(R5.next (R5.rdr.later b6) (b6.mono R5.rdr.le) (Below.far b6)).alloc _ _, b1, (e5.far (Below.far b6)).far ((Far.refl _ _).alloc _), BoxN.new [y0, y1, y2, y3, y4, y5, y6, y7] _ (Nat.lt_of_lt_of_le R5.rdr.top b6.size), Nat.le_refl _, Nat.le_trans R5.far.size b6.size, by have := R5.rdr.top; have := b6.size; omega, hrB, rfl⟩
    clear R5 e5 b6 KB b1
    have hD6 : w1.heap.size ≤ w6.heap.size := P0.hD
    rcases ok with _ | _
    · go_upto_region 6 with (fail)
      generalize w6.alloc (.cells #[.int .i64 y0, .int .i64 y1, .int .i64 y2, .int .i64 y3, .int .i64 y4, .int .i64 y5, .int .i64 y6, .int .i64 y7] 25) = W at P0 ⊢
      generalize w6.heap.size = D at P0 hD6 ⊢
      go_wp2_with fail
      refine (anyPacket_any _ r _ _ P0.R.rdr (by omega)).mono ?_
      rintro e w7 ⟨n0, n1, n2, n3, n4, n5, n6, n7, rfl, RR⟩
      have P7 := P0.next RR.rdr RR.bel RR.far
      clear RR P0
      have d0 : w7.cell? ⟨D, 0, none⟩ = some (.int .i64 y0) := (P7.d.at_ 0 (by simp)).1
      have g0 := (P7.d.at_ 0 (by simp)).2
      have d1 : w7.cell? ⟨D, 1, none⟩ = some (.int .i64 y1) := (P7.d.at_ 1 (by simp)).1
      have g1 := (P7.d.at_ 1 (by simp)).2
      have d2 : w7.cell? ⟨D, 2, none⟩ = some (.int .i64 y2) := (P7.d.at_ 2 (by simp)).1
      have g2 := (P7.d.at_ 2 (by simp)).2
      have d3 : w7.cell? ⟨D, 3, none⟩ = some (.int .i64 y3) := (P7.d.at_ 3 (by simp)).1
      have g3 := (P7.d.at_ 3 (by simp)).2
      have d4 : w7.cell? ⟨D, 4, none⟩ = some (.int .i64 y4) := (P7.d.at_ 4 (by simp)).1
      have g4 := (P7.d.at_ 4 (by simp)).2
      have d5 : w7.cell? ⟨D, 5, none⟩ = some (.int .i64 y5) := (P7.d.at_ 5 (by simp)).1
      have g5 := (P7.d.at_ 5 (by simp)).2
      have d6 : w7.cell? ⟨D, 6, none⟩ = some (.int .i64 y6) := (P7.d.at_ 6 (by simp)).1
      have g6 := (P7.d.at_ 6 (by simp)).2
      have d7 : w7.cell? ⟨D, 7, none⟩ = some (.int .i64 y7) := (P7.d.at_ 7 (by simp)).1
      have g7 := (P7.d.at_ 7 (by simp)).2
      have P8 : PD r w w1 ((((((((w7.setCell ⟨D, 0, none⟩ (.int .i64 n0)).setCell ⟨D, 1, none⟩ (.int .i64 n1)).setCell ⟨D, 2, none⟩ (.int .i64 n2)).setCell ⟨D, 3, none⟩ (.int .i64 n3)).setCell ⟨D, 4, none⟩ (.int .i64 n4)).setCell ⟨D, 5, none⟩ (.int .i64 n5)).setCell ⟨D, 6, none⟩ (.int .i64 n6)).setCell ⟨D, 7, none⟩ (.int .i64 n7)) r (0 + 3 + 3 + 1 + 40) w.heap.size D [n0, n1, n2, n3, n4, n5, n6, n7] := (((((((P7.set 0 (by omega) n0).set 1 (by omega) n1).set 2 (by omega) n2).set 3 (by omega) n3).set 4 (by omega) n4).set 5 (by omega) n5).set 6 (by omega) n6).set 7 (by omega) n7
      clear P7
      go_upto_region 7 with (fail)
      clear d0 g0 d1 g1 d2 g2 d3 g3 d4 g4 d5 g5 d6 g6 d7 g7
      generalize (((((((w7.setCell ⟨D, 0, none⟩ (.int .i64 n0)).setCell ⟨D, 1, none⟩ (.int .i64 n1)).setCell ⟨D, 2, none⟩ (.int .i64 n2)).setCell ⟨D, 3, none⟩ (.int .i64 n3)).setCell ⟨D, 4, none⟩ (.int .i64 n4)).setCell ⟨D, 5, none⟩ (.int .i64 n5)).setCell ⟨D, 6, none⟩ (.int .i64 n6)).setCell ⟨D, 7, none⟩ (.int .i64 n7) = V at P8 ⊢
      have P := P8
      clear P8
      go_wp2_with fail
      refine (pick_any _ r _ _ _ P.R.rdr (by omega)).mono ?_
      rintro e V12 ⟨k12, rfl, a12, b12, st12⟩
      have Q := P.step st12
      clear b12 st12 P
      by_cases hk : k12 = 0
      · subst hk
        have d5 : V12.cell? ⟨D, 5, none⟩ = some (.int .i64 n5) := (Q.d.at_ 5 (by simp)).1
        have g5 := (Q.d.at_ 5 (by simp)).2
        obtain ⟨q5, hq5⟩ : ∃ q5 : Int, q5 = wrap64 (n5 + 1) := ⟨_, rfl⟩
        have Q5 := Q.set 5 (by omega) q5
        go_upto_region 9 with (fail)
        clear d5 g5
        rw [← hq5]
        clear hq5 Q
        generalize V12.setCell ⟨D, 5, none⟩ (.int .i64 q5) = V at Q5 ⊢
        have P : PD r w w1 V r (0 + 3 + 3 + 1 + 40 + 1) w.heap.size D [n0, n1, n2, n3, n4, q5, n6, n7] := Q5
        clear Q5
        go_wp2_with fail
        have PV := P.drew
        clear P
        refine wp_region_held_drew (S := (fun w' => w'.cell? ⟨D, 0, none⟩ = some (.int .i64 n0) ∧ w'.cell? ⟨D, 1, none⟩ = some (.int .i64 n1) ∧ w'.cell? ⟨D, 2, none⟩ = some (.int .i64 n2) ∧ w'.cell? ⟨D, 3, none⟩ = some (.int .i64 n3) ∧ w'.cell? ⟨D, 4, none⟩ = some (.int .i64 n4) ∧ w'.cell? ⟨D, 5, none⟩ = some (.int .i64 q5) ∧ w'.cell? ⟨D, 6, none⟩ = some (.int .i64 n6) ∧ w'.cell? ⟨D, 7, none⟩ = some (.int .i64 n7))) (by kernel_rfl) (PV.d.all8) (fun hHeld => ?_)
        generalize V.drew = X9 at *
        refine wpAnyH_take (i := 0) (v := ?_) rfl (by kernel_rfl) (by kernel_rfl) (by kernel_rfl) (fun _ _ _ h => h) (Or.inl ⟨by rfl, ?_⟩) (by assumption) ?_
        rotate_left
        · intro w hSw
          (try dsimp only at hSw)
          go_simp
          all_goals with_reducible rfl
        try simp only [Act.put, List.setIfInBounds_toArray, List.set_cons_zero, List.set_cons_succ, List.getElem_toArray, List.getElem_cons_zero]
        refine wpAnyH_take (i := 1) (v := ?_) rfl (by kernel_rfl) (by kernel_rfl) (by kernel_rfl) (fun _ _ _ h => h) (Or.inl ⟨by rfl, ?_⟩) (by assumption) ?_
        rotate_left
        · intro w hSw
          (try dsimp only at hSw)
          go_simp
          all_goals with_reducible rfl
        try simp only [Act.put, List.setIfInBounds_toArray, List.set_cons_zero, List.set_cons_succ, List.getElem_toArray, List.getElem_cons_zero, List.getElem_cons_succ]
        refine wpAnyH_take (i := 2) (v := ?_) rfl (by kernel_rfl) (by kernel_rfl) (by kernel_rfl) (fun _ _ _ h => h) (Or.inl ⟨by rfl, ?_⟩) (by assumption) ?_
        rotate_left
        · intro w hSw
          (try dsimp only at hSw)
          go_simp
          all_goals with_reducible rfl
        try simp only [Act.put, List.setIfInBounds_toArray, List.set_cons_zero, List.set_cons_succ, List.getElem_toArray, List.getElem_cons_zero, List.getElem_cons_succ]
        refine wpAnyH_ready (rs := [3]) (by kernel_rfl) (by simp) ?_
        refine AllReadyH.cons rfl (fun K hK => ?_) AllReadyH.nil
        go_simp
        (go_at_call 37; refine (someStamp_any _ r _ _ PV.R.rdr (by omega)).mono ?_)
        rintro e V11 ⟨z11, rfl, lo11, hi11, bl, rd, fr⟩
        have PX := PV.next rd bl fr
        refine hK.out _ _ PX.d.all8 (fun hHeld => ?_)
        clear hK K bl rd fr PV
        try simp only [Act.put, List.setIfInBounds_toArray, List.set_cons_zero, List.set_cons_succ, List.getElem_toArray, List.getElem_cons_zero, List.getElem_cons_succ]
        have u0 : V11.cell? ⟨w.heap.size, 0, none⟩ = some (.int .i64 0) := (PX.e.at_ 0 (by simp)).1
        have v0 := (PX.e.at_ 0 (by simp)).2
        have u1 : V11.cell? ⟨w.heap.size, 1, none⟩ = some (.int .i64 0) := (PX.e.at_ 1 (by simp)).1
        have v1 := (PX.e.at_ 1 (by simp)).2
        have u2 : V11.cell? ⟨w.heap.size, 2, none⟩ = some (.int .i64 0) := (PX.e.at_ 2 (by simp)).1
        have v2 := (PX.e.at_ 2 (by simp)).2
        have u3 : V11.cell? ⟨w.heap.size, 3, none⟩ = some (.int .i64 0) := (PX.e.at_ 3 (by simp)).1
        have v3 := (PX.e.at_ 3 (by simp)).2
        have u4 : V11.cell? ⟨w.heap.size, 4, none⟩ = some (.int .i64 0) := (PX.e.at_ 4 (by simp)).1
        have v4 := (PX.e.at_ 4 (by simp)).2
        have u5 : V11.cell? ⟨w.heap.size, 5, none⟩ = some (.int .i64 0) := (PX.e.at_ 5 (by simp)).1
        have v5 := (PX.e.at_ 5 (by simp)).2
        have u6 : V11.cell? ⟨w.heap.size, 6, none⟩ = some (.int .i64 0) := (PX.e.at_ 6 (by simp)).1
        have v6 := (PX.e.at_ 6 (by simp)).2
        have u7 : V11.cell? ⟨w.heap.size, 7, none⟩ = some (.int .i64 0) := (PX.e.at_ 7 (by simp)).1
        have v7 := (PX.e.at_ 7 (by simp)).2
        have hDE := PX.hDE
        have d9 := (((((((PX.d.other (i := 0) (v := .int .i64 n0) hDE.symm).other (i := 1) (v := .int .i64 n1) hDE.symm).other (i := 2) (v := .int .i64 n2) hDE.symm).other (i := 3) (v := .int .i64 n3) hDE.symm).other (i := 4) (v := .int .i64 n4) hDE.symm).other (i := 5) (v := .int .i64 q5) hDE.symm).other (i := 6) (v := .int .i64 n6) hDE.symm).other (i := 7) (v := .int .i64 n7) hDE.symm
        have HN := Lib.hid (PX.fin (.int .i64 n0) (.int .i64 n1) (.int .i64 n2) (.int .i64 n3) (.int .i64 n4) (.int .i64 q5) (.int .i64 n6) (.int .i64 n7))
        refine wpAnyH_take (i := 4) (v := ?_) rfl (by kernel_rfl) (by kernel_rfl) (by kernel_rfl) (fun _ _ _ h => h) (Or.inl ⟨by rfl, ?_⟩) (by assumption) ?_
        rotate_left
        · intro w hSw
          (try dsimp only at hSw)
          go_simp
          all_goals with_reducible rfl
        try simp only [Act.put, List.setIfInBounds_toArray, List.set_cons_zero, List.set_cons_succ, List.getElem_toArray, List.getElem_cons_zero, List.getElem_cons_succ]
        refine wpAnyH_ready (rs := [5]) (by kernel_rfl) (by simp) ?_
        refine AllReadyH.cons rfl (fun K hK => ?_) AllReadyH.nil
        go_simp
        skip
        refine hK.out _ _ (d9.all8) (fun hHeld => ?_)
        clear hK K
        try simp only [Act.put, List.setIfInBounds_toArray, List.set_cons_zero, List.set_cons_succ, List.getElem_toArray, List.getElem_cons_zero, List.getElem_cons_succ]
        refine wpAnyH_take (i := 6) (v := ?_) rfl (by kernel_rfl) (by kernel_rfl) (by kernel_rfl) (fun _ _ _ h => h) (Or.inl ⟨by rfl, ?_⟩) (by assumption) ?_
        rotate_left
        · intro w hSw
          (try dsimp only at hSw)
          go_simp
          all_goals with_reducible rfl
        try simp only [Act.put, List.setIfInBounds_toArray, List.set_cons_zero, List.set_cons_succ, List.getElem_toArray, List.getElem_cons_zero, List.getElem_cons_succ]
        refine wpAnyH_done (by kernel_rfl) ?_ _
        clear hHeld d9
        go_wp2
        exact bodyPost_ret (v := .tuple #[.int .i64 z6, .agg #[.int .i64 n0, .int .i64 n1, .int .i64 n2, .int .i64 n3, .int .i64 n4, .int .i64 q5, .int .i64 n6, .int .i64 n7], .int .i64 z11]) (by simp [results, Try.results21, go_sem, u0, u1, u2, u3, u4, u5, u6, u7]) rfl ⟨_, _, _, _, _, _, _, _, _, _, rfl, HN.out⟩
      · have hk' : (k12 == 0) = false := by rw [beq_eq_false_iff_ne]; exact hk
        clear hk
        go_upto_region 9 with (fail)
        generalize V12 = V at Q ⊢
        have P := Q
        clear Q
        go_wp2_with fail
        have PV := P.drew
        clear P
        refine wp_region_held_drew (S := (fun w' => w'.cell? ⟨D, 0, none⟩ = some (.int .i64 n0) ∧ w'.cell? ⟨D, 1, none⟩ = some (.int .i64 n1) ∧ w'.cell? ⟨D, 2, none⟩ = some (.int .i64 n2) ∧ w'.cell? ⟨D, 3, none⟩ = some (.int .i64 n3) ∧ w'.cell? ⟨D, 4, none⟩ = some (.int .i64 n4) ∧ w'.cell? ⟨D, 5, none⟩ = some (.int .i64 n5) ∧ w'.cell? ⟨D, 6, none⟩ = some (.int .i64 n6) ∧ w'.cell? ⟨D, 7, none⟩ = some (.int .i64 n7))) (by kernel_rfl) (PV.d.all8) (fun hHeld => ?_)
        generalize V.drew = X9 at *
        refine wpAnyH_take (i := 0) (v := ?_) rfl (by kernel_rfl) (by kernel_rfl) (by kernel_rfl) (fun _ _ _ h => h) (Or.inl ⟨by rfl, ?_⟩) (by assumption) ?_
        rotate_left
        · intro w hSw
          (try dsimp only at hSw)
          go_simp
          all_goals with_reducible rfl
        try simp only [Act.put, List.setIfInBounds_toArray, List.set_cons_zero, List.set_cons_succ, List.getElem_toArray, List.getElem_cons_zero]
        refine wpAnyH_take (i := 1) (v := ?_) rfl (by kernel_rfl) (by kernel_rfl) (by kernel_rfl) (fun _ _ _ h => h) (Or.inl ⟨by rfl, ?_⟩) (by assumption) ?_
        rotate_left
        · intro w hSw
          (try dsimp only at hSw)
          go_simp
          all_goals with_reducible rfl
        try simp only [Act.put, List.setIfInBounds_toArray, List.set_cons_zero, List.set_cons_succ, List.getElem_toArray, List.getElem_cons_zero, List.getElem_cons_succ]
        refine wpAnyH_take (i := 2) (v := ?_) rfl (by kernel_rfl) (by kernel_rfl) (by kernel_rfl) (fun _ _ _ h => h) (Or.inl ⟨by rfl, ?_⟩) (by assumption) ?_
        rotate_left
        · intro w hSw
          (try dsimp only at hSw)
          go_simp
          all_goals with_reducible rfl
        try simp only [Act.put, List.setIfInBounds_toArray, List.set_cons_zero, List.set_cons_succ, List.getElem_toArray, List.getElem_cons_zero, List.getElem_cons_succ]
        refine wpAnyH_ready (rs := [3]) (by kernel_rfl) (by simp) ?_
        refine AllReadyH.cons rfl (fun K hK => ?_) AllReadyH.nil
        go_simp
        (go_at_call 37; refine (someStamp_any _ r _ _ PV.R.rdr (by omega)).mono ?_)
        rintro e V11 ⟨z11, rfl, lo11, hi11, bl, rd, fr⟩
        have PX := PV.next rd bl fr
        refine hK.out _ _ PX.d.all8 (fun hHeld => ?_)
        clear hK K bl rd fr PV
        try simp only [Act.put, List.setIfInBounds_toArray, List.set_cons_zero, List.set_cons_succ, List.getElem_toArray, List.getElem_cons_zero, List.getElem_cons_succ]
        have u0 : V11.cell? ⟨w.heap.size, 0, none⟩ = some (.int .i64 0) := (PX.e.at_ 0 (by simp)).1
        have v0 := (PX.e.at_ 0 (by simp)).2
        have u1 : V11.cell? ⟨w.heap.size, 1, none⟩ = some (.int .i64 0) := (PX.e.at_ 1 (by simp)).1
        have v1 := (PX.e.at_ 1 (by simp)).2
        have u2 : V11.cell? ⟨w.heap.size, 2, none⟩ = some (.int .i64 0) := (PX.e.at_ 2 (by simp)).1
        have v2 := (PX.e.at_ 2 (by simp)).2
        have u3 : V11.cell? ⟨w.heap.size, 3, none⟩ = some (.int .i64 0) := (PX.e.at_ 3 (by simp)).1
        have v3 := (PX.e.at_ 3 (by simp)).2
        have u4 : V11.cell? ⟨w.heap.size, 4, none⟩ = some (.int .i64 0) := (PX.e.at_ 4 (by simp)).1
        have v4 := (PX.e.at_ 4 (by simp)).2
        have u5 : V11.cell? ⟨w.heap.size, 5, none⟩ = some (.int .i64 0) := (PX.e.at_ 5 (by simp)).1
        have v5 := (PX.e.at_ 5 (by simp)).2
        have u6 : V11.cell? ⟨w.heap.size, 6, none⟩ = some (.int .i64 0) := (PX.e.at_ 6 (by simp)).1
        have v6 := (PX.e.at_ 6 (by simp)).2
        have u7 : V11.cell? ⟨w.heap.size, 7, none⟩ = some (.int .i64 0) := (PX.e.at_ 7 (by simp)).1
        have v7 := (PX.e.at_ 7 (by simp)).2
        have hDE := PX.hDE
        have d9 := (((((((PX.d.other (i := 0) (v := .int .i64 n0) hDE.symm).other (i := 1) (v := .int .i64 n1) hDE.symm).other (i := 2) (v := .int .i64 n2) hDE.symm).other (i := 3) (v := .int .i64 n3) hDE.symm).other (i := 4) (v := .int .i64 n4) hDE.symm).other (i := 5) (v := .int .i64 n5) hDE.symm).other (i := 6) (v := .int .i64 n6) hDE.symm).other (i := 7) (v := .int .i64 n7) hDE.symm
        have HN := Lib.hid (PX.fin (.int .i64 n0) (.int .i64 n1) (.int .i64 n2) (.int .i64 n3) (.int .i64 n4) (.int .i64 n5) (.int .i64 n6) (.int .i64 n7))
        refine wpAnyH_take (i := 4) (v := ?_) rfl (by kernel_rfl) (by kernel_rfl) (by kernel_rfl) (fun _ _ _ h => h) (Or.inl ⟨by rfl, ?_⟩) (by assumption) ?_
        rotate_left
        · intro w hSw
          (try dsimp only at hSw)
          go_simp
          all_goals with_reducible rfl
        try simp only [Act.put, List.setIfInBounds_toArray, List.set_cons_zero, List.set_cons_succ, List.getElem_toArray, List.getElem_cons_zero, List.getElem_cons_succ]
        refine wpAnyH_ready (rs := [5]) (by kernel_rfl) (by simp) ?_
        refine AllReadyH.cons rfl (fun K hK => ?_) AllReadyH.nil
        go_simp
        skip
        refine hK.out _ _ (d9.all8) (fun hHeld => ?_)
        clear hK K
        try simp only [Act.put, List.setIfInBounds_toArray, List.set_cons_zero, List.set_cons_succ, List.getElem_toArray, List.getElem_cons_zero, List.getElem_cons_succ]
        refine wpAnyH_take (i := 6) (v := ?_) rfl (by kernel_rfl) (by kernel_rfl) (by kernel_rfl) (fun _ _ _ h => h) (Or.inl ⟨by rfl, ?_⟩) (by assumption) ?_
        rotate_left
        · intro w hSw
          (try dsimp only at hSw)
          go_simp
          all_goals with_reducible rfl
        try simp only [Act.put, List.setIfInBounds_toArray, List.set_cons_zero, List.set_cons_succ, List.getElem_toArray, List.getElem_cons_zero, List.getElem_cons_succ]
        refine wpAnyH_done (by kernel_rfl) ?_ _
        clear hHeld d9
        go_wp2
        exact bodyPost_ret (v := .tuple #[.int .i64 z6, .agg #[.int .i64 n0, .int .i64 n1, .int .i64 n2, .int .i64 n3, .int .i64 n4, .int .i64 n5, .int .i64 n6, .int .i64 n7], .int .i64 z11]) (by simp [results, Try.results21, go_sem, u0, u1, u2, u3, u4, u5, u6, u7]) rfl ⟨_, _, _, _, _, _, _, _, _, _, rfl, HN.out⟩
    · go_upto_region 5 with (fail)
      generalize w6.alloc (.cells #[.int .i64 y0, .int .i64 y1, .int .i64 y2, .int .i64 y3, .int .i64 y4, .int .i64 y5, .int .i64 y6, .int .i64 y7] 25) = W at P0 ⊢
      generalize w6.heap.size = D at P0 hD6 ⊢
      go_wp2_with fail
      refine (pick_any _ r _ _ _ P0.R.rdr (by omega)).mono ?_
      rintro e W8 ⟨k8, rfl, a8, b8, st8⟩
      have P8 := P0.step st8
      clear b8 st8 P0
      by_cases hk8 : k8 = 0
      · subst hk8
        go_wp2_with fail
        refine (anyPacket_any _ r _ _ P8.R.rdr (by omega)).mono ?_
        rintro e w7 ⟨n0, n1, n2, n3, n4, n5, n6, n7, rfl, RR⟩
        have P7 := P8.next RR.rdr RR.bel RR.far
        clear RR P8
        have d0 : w7.cell? ⟨D, 0, none⟩ = some (.int .i64 y0) := (P7.d.at_ 0 (by simp)).1
        have g0 := (P7.d.at_ 0 (by simp)).2
        have d1 : w7.cell? ⟨D, 1, none⟩ = some (.int .i64 y1) := (P7.d.at_ 1 (by simp)).1
        have g1 := (P7.d.at_ 1 (by simp)).2
        have d2 : w7.cell? ⟨D, 2, none⟩ = some (.int .i64 y2) := (P7.d.at_ 2 (by simp)).1
        have g2 := (P7.d.at_ 2 (by simp)).2
        have d3 : w7.cell? ⟨D, 3, none⟩ = some (.int .i64 y3) := (P7.d.at_ 3 (by simp)).1
        have g3 := (P7.d.at_ 3 (by simp)).2
        have d4 : w7.cell? ⟨D, 4, none⟩ = some (.int .i64 y4) := (P7.d.at_ 4 (by simp)).1
        have g4 := (P7.d.at_ 4 (by simp)).2
        have d5 : w7.cell? ⟨D, 5, none⟩ = some (.int .i64 y5) := (P7.d.at_ 5 (by simp)).1
        have g5 := (P7.d.at_ 5 (by simp)).2
        have d6 : w7.cell? ⟨D, 6, none⟩ = some (.int .i64 y6) := (P7.d.at_ 6 (by simp)).1
        have g6 := (P7.d.at_ 6 (by simp)).2
        have d7 : w7.cell? ⟨D, 7, none⟩ = some (.int .i64 y7) := (P7.d.at_ 7 (by simp)).1
        have g7 := (P7.d.at_ 7 (by simp)).2
        have P8 : PD r w w1 ((((((((w7.setCell ⟨D, 0, none⟩ (.int .i64 n0)).setCell ⟨D, 1, none⟩ (.int .i64 n1)).setCell ⟨D, 2, none⟩ (.int .i64 n2)).setCell ⟨D, 3, none⟩ (.int .i64 n3)).setCell ⟨D, 4, none⟩ (.int .i64 n4)).setCell ⟨D, 5, none⟩ (.int .i64 n5)).setCell ⟨D, 6, none⟩ (.int .i64 n6)).setCell ⟨D, 7, none⟩ (.int .i64 n7)) r (0 + 3 + 3 + 1 + 1 + 40) w.heap.size D [n0, n1, n2, n3, n4, n5, n6, n7] := (((((((P7.set 0 (by omega) n0).set 1 (by omega) n1).set 2 (by omega) n2).set 3 (by omega) n3).set 4 (by omega) n4).set 5 (by omega) n5).set 6 (by omega) n6).set 7 (by omega) n7
        clear P7
        go_upto_region 7 with (fail)
        clear d0 g0 d1 g1 d2 g2 d3 g3 d4 g4 d5 g5 d6 g6 d7 g7
        generalize (((((((w7.setCell ⟨D, 0, none⟩ (.int .i64 n0)).setCell ⟨D, 1, none⟩ (.int .i64 n1)).setCell ⟨D, 2, none⟩ (.int .i64 n2)).setCell ⟨D, 3, none⟩ (.int .i64 n3)).setCell ⟨D, 4, none⟩ (.int .i64 n4)).setCell ⟨D, 5, none⟩ (.int .i64 n5)).setCell ⟨D, 6, none⟩ (.int .i64 n6)).setCell ⟨D, 7, none⟩ (.int .i64 n7) = V at P8 ⊢
        have P := P8
        clear P8
        go_wp2_with fail
        refine (pick_any _ r _ _ _ P.R.rdr (by omega)).mono ?_
        rintro e V12 ⟨k12, rfl, a12, b12, st12⟩
        have Q := P.step st12
        clear b12 st12 P
        by_cases hk : k12 = 0
        · subst hk
          have d5 : V12.cell? ⟨D, 5, none⟩ = some (.int .i64 n5) := (Q.d.at_ 5 (by simp)).1
          have g5 := (Q.d.at_ 5 (by simp)).2
          obtain ⟨q5, hq5⟩ : ∃ q5 : Int, q5 = wrap64 (n5 + 1) := ⟨_, rfl⟩
          have Q5 := Q.set 5 (by omega) q5
          go_upto_region 9 with (fail)
          clear d5 g5
          rw [← hq5]
          clear hq5 Q
          generalize V12.setCell ⟨D, 5, none⟩ (.int .i64 q5) = V at Q5 ⊢
          have P : PD r w w1 V r (0 + 3 + 3 + 1 + 1 + 40 + 1) w.heap.size D [n0, n1, n2, n3, n4, q5, n6, n7] := Q5
          clear Q5
          go_wp2_with fail
          have PV := P.drew
          clear P
          refine wp_region_held_drew (S := (fun w' => w'.cell? ⟨D, 0, none⟩ = some (.int .i64 n0) ∧ w'.cell? ⟨D, 1, none⟩ = some (.int .i64 n1) ∧ w'.cell? ⟨D, 2, none⟩ = some (.int .i64 n2) ∧ w'.cell? ⟨D, 3, none⟩ = some (.int .i64 n3) ∧ w'.cell? ⟨D, 4, none⟩ = some (.int .i64 n4) ∧ w'.cell? ⟨D, 5, none⟩ = some (.int .i64 q5) ∧ w'.cell? ⟨D, 6, none⟩ = some (.int .i64 n6) ∧ w'.cell? ⟨D, 7, none⟩ = some (.int .i64 n7))) (by kernel_rfl) (PV.d.all8) (fun hHeld => ?_)
          generalize V.drew = X9 at *
          refine wpAnyH_take (i := 0) (v := ?_) rfl (by kernel_rfl) (by kernel_rfl) (by kernel_rfl) (fun _ _ _ h => h) (Or.inl ⟨by rfl, ?_⟩) (by assumption) ?_
          rotate_left
          · intro w hSw
            (try dsimp only at hSw)
            go_simp
            all_goals with_reducible rfl
          try simp only [Act.put, List.setIfInBounds_toArray, List.set_cons_zero, List.set_cons_succ, List.getElem_toArray, List.getElem_cons_zero]
          refine wpAnyH_take (i := 1) (v := ?_) rfl (by kernel_rfl) (by kernel_rfl) (by kernel_rfl) (fun _ _ _ h => h) (Or.inl ⟨by rfl, ?_⟩) (by assumption) ?_
          rotate_left
          · intro w hSw
            (try dsimp only at hSw)
            go_simp
            all_goals with_reducible rfl
          try simp only [Act.put, List.setIfInBounds_toArray, List.set_cons_zero, List.set_cons_succ, List.getElem_toArray, List.getElem_cons_zero, List.getElem_cons_succ]
          refine wpAnyH_take (i := 2) (v := ?_) rfl (by kernel_rfl) (by kernel_rfl) (by kernel_rfl) (fun _ _ _ h => h) (Or.inl ⟨by rfl, ?_⟩) (by assumption) ?_
          rotate_left
          · intro w hSw
            (try dsimp only at hSw)
            go_simp
            all_goals with_reducible rfl
          try simp only [Act.put, List.setIfInBounds_toArray, List.set_cons_zero, List.set_cons_succ, List.getElem_toArray, List.getElem_cons_zero, List.getElem_cons_succ]
          refine wpAnyH_ready (rs := [3]) (by kernel_rfl) (by simp) ?_
          refine AllReadyH.cons rfl (fun K hK => ?_) AllReadyH.nil
          go_simp
          (go_at_call 37; refine (someStamp_any _ r _ _ PV.R.rdr (by omega)).mono ?_)
          rintro e V11 ⟨z11, rfl, lo11, hi11, bl, rd, fr⟩
          have PX := PV.next rd bl fr
          refine hK.out _ _ PX.d.all8 (fun hHeld => ?_)
          clear hK K bl rd fr PV
          try simp only [Act.put, List.setIfInBounds_toArray, List.set_cons_zero, List.set_cons_succ, List.getElem_toArray, List.getElem_cons_zero, List.getElem_cons_succ]
          have u0 : V11.cell? ⟨w.heap.size, 0, none⟩ = some (.int .i64 0) := (PX.e.at_ 0 (by simp)).1
          have v0 := (PX.e.at_ 0 (by simp)).2
          have u1 : V11.cell? ⟨w.heap.size, 1, none⟩ = some (.int .i64 0) := (PX.e.at_ 1 (by simp)).1
          have v1 := (PX.e.at_ 1 (by simp)).2
          have u2 : V11.cell? ⟨w.heap.size, 2, none⟩ = some (.int .i64 0) := (PX.e.at_ 2 (by simp)).1
          have v2 := (PX.e.at_ 2 (by simp)).2
          have u3 : V11.cell? ⟨w.heap.size, 3, none⟩ = some (.int .i64 0) := (PX.e.at_ 3 (by simp)).1
          have v3 := (PX.e.at_ 3 (by simp)).2
          have u4 : V11.cell? ⟨w.heap.size, 4, none⟩ = some (.int .i64 0) := (PX.e.at_ 4 (by simp)).1
          have v4 := (PX.e.at_ 4 (by simp)).2
          have u5 : V11.cell? ⟨w.heap.size, 5, none⟩ = some (.int .i64 0) := (PX.e.at_ 5 (by simp)).1
          have v5 := (PX.e.at_ 5 (by simp)).2
          have u6 : V11.cell? ⟨w.heap.size, 6, none⟩ = some (.int .i64 0) := (PX.e.at_ 6 (by simp)).1
          have v6 := (PX.e.at_ 6 (by simp)).2
          have u7 : V11.cell? ⟨w.heap.size, 7, none⟩ = some (.int .i64 0) := (PX.e.at_ 7 (by simp)).1
          have v7 := (PX.e.at_ 7 (by simp)).2
          have hDE := PX.hDE
          have d9 := (((((((PX.d.other (i := 0) (v := .int .i64 n0) hDE.symm).other (i := 1) (v := .int .i64 n1) hDE.symm).other (i := 2) (v := .int .i64 n2) hDE.symm).other (i := 3) (v := .int .i64 n3) hDE.symm).other (i := 4) (v := .int .i64 n4) hDE.symm).other (i := 5) (v := .int .i64 q5) hDE.symm).other (i := 6) (v := .int .i64 n6) hDE.symm).other (i := 7) (v := .int .i64 n7) hDE.symm
          have HN := Lib.hid (PX.fin (.int .i64 n0) (.int .i64 n1) (.int .i64 n2) (.int .i64 n3) (.int .i64 n4) (.int .i64 q5) (.int .i64 n6) (.int .i64 n7))
          refine wpAnyH_take (i := 4) (v := ?_) rfl (by kernel_rfl) (by kernel_rfl) (by kernel_rfl) (fun _ _ _ h => h) (Or.inl ⟨by rfl, ?_⟩) (by assumption) ?_
          rotate_left
          · intro w hSw
            (try dsimp only at hSw)
            go_simp
            all_goals with_reducible rfl
          try simp only [Act.put, List.setIfInBounds_toArray, List.set_cons_zero, List.set_cons_succ, List.getElem_toArray, List.getElem_cons_zero, List.getElem_cons_succ]
          refine wpAnyH_ready (rs := [5]) (by kernel_rfl) (by simp) ?_
          refine AllReadyH.cons rfl (fun K hK => ?_) AllReadyH.nil
          go_simp
          skip
          refine hK.out _ _ (d9.all8) (fun hHeld => ?_)
          clear hK K
          try simp only [Act.put, List.setIfInBounds_toArray, List.set_cons_zero, List.set_cons_succ, List.getElem_toArray, List.getElem_cons_zero, List.getElem_cons_succ]
          refine wpAnyH_take (i := 6) (v := ?_) rfl (by kernel_rfl) (by kernel_rfl) (by kernel_rfl) (fun _ _ _ h => h) (Or.inl ⟨by rfl, ?_⟩) (by assumption) ?_
          rotate_left
          · intro w hSw
            (try dsimp only at hSw)
            go_simp
            all_goals with_reducible rfl
          try simp only [Act.put, List.setIfInBounds_toArray, List.set_cons_zero, List.set_cons_succ, List.getElem_toArray, List.getElem_cons_zero, List.getElem_cons_succ]
          refine wpAnyH_done (by kernel_rfl) ?_ _
          clear hHeld d9
          go_wp2
          exact bodyPost_ret (v := .tuple #[.int .i64 z6, .agg #[.int .i64 n0, .int .i64 n1, .int .i64 n2, .int .i64 n3, .int .i64 n4, .int .i64 q5, .int .i64 n6, .int .i64 n7], .int .i64 z11]) (by simp [results, Try.results21, go_sem, u0, u1, u2, u3, u4, u5, u6, u7]) rfl ⟨_, _, _, _, _, _, _, _, _, _, rfl, HN.out⟩
        · have hk' : (k12 == 0) = false := by rw [beq_eq_false_iff_ne]; exact hk
          clear hk
          go_upto_region 9 with (fail)
          generalize V12 = V at Q ⊢
          have P := Q
          clear Q
          go_wp2_with fail
          have PV := P.drew
          clear P
          refine wp_region_held_drew (S := (fun w' => w'.cell? ⟨D, 0, none⟩ = some (.int .i64 n0) ∧ w'.cell? ⟨D, 1, none⟩ = some (.int .i64 n1) ∧ w'.cell? ⟨D, 2, none⟩ = some (.int .i64 n2) ∧ w'.cell? ⟨D, 3, none⟩ = some (.int .i64 n3) ∧ w'.cell? ⟨D, 4, none⟩ = some (.int .i64 n4) ∧ w'.cell? ⟨D, 5, none⟩ = some (.int .i64 n5) ∧ w'.cell? ⟨D, 6, none⟩ = some (.int .i64 n6) ∧ w'.cell? ⟨D, 7, none⟩ = some (.int .i64 n7))) (by kernel_rfl) (PV.d.all8) (fun hHeld => ?_)
          generalize V.drew = X9 at *
          refine wpAnyH_take (i := 0) (v := ?_) rfl (by kernel_rfl) (by kernel_rfl) (by kernel_rfl) (fun _ _ _ h => h) (Or.inl ⟨by rfl, ?_⟩) (by assumption) ?_
          rotate_left
          · intro w hSw
            (try dsimp only at hSw)
            go_simp
            all_goals with_reducible rfl
          try simp only [Act.put, List.setIfInBounds_toArray, List.set_cons_zero, List.set_cons_succ, List.getElem_toArray, List.getElem_cons_zero]
          refine wpAnyH_take (i := 1) (v := ?_) rfl (by kernel_rfl) (by kernel_rfl) (by kernel_rfl) (fun _ _ _ h => h) (Or.inl ⟨by rfl, ?_⟩) (by assumption) ?_
          rotate_left
          · intro w hSw
            (try dsimp only at hSw)
            go_simp
            all_goals with_reducible rfl
          try simp only [Act.put, List.setIfInBounds_toArray, List.set_cons_zero, List.set_cons_succ, List.getElem_toArray, List.getElem_cons_zero, List.getElem_cons_succ]
          refine wpAnyH_take (i := 2) (v := ?_) rfl (by kernel_rfl) (by kernel_rfl) (by kernel_rfl) (fun _ _ _ h => h) (Or.inl ⟨by rfl, ?_⟩) (by assumption) ?_
          rotate_left
          · intro w hSw
            (try dsimp only at hSw)
            go_simp
            all_goals with_reducible rfl
          try simp only [Act.put, List.setIfInBounds_toArray, List.set_cons_zero, List.set_cons_succ, List.getElem_toArray, List.getElem_cons_zero, List.getElem_cons_succ]
          refine wpAnyH_ready (rs := [3]) (by kernel_rfl) (by simp) ?_
          refine AllReadyH.cons rfl (fun K hK => ?_) AllReadyH.nil
          go_simp
          (go_at_call 37; refine (someStamp_any _ r _ _ PV.R.rdr (by omega)).mono ?_)
          rintro e V11 ⟨z11, rfl, lo11, hi11, bl, rd, fr⟩
          have PX := PV.next rd bl fr
          refine hK.out _ _ PX.d.all8 (fun hHeld => ?_)
          clear hK K bl rd fr PV
          try simp only [Act.put, List.setIfInBounds_toArray, List.set_cons_zero, List.set_cons_succ, List.getElem_toArray, List.getElem_cons_zero, List.getElem_cons_succ]
          have u0 : V11.cell? ⟨w.heap.size, 0, none⟩ = some (.int .i64 0) := (PX.e.at_ 0 (by simp)).1
          have v0 := (PX.e.at_ 0 (by simp)).2
          have u1 : V11.cell? ⟨w.heap.size, 1, none⟩ = some (.int .i64 0) := (PX.e.at_ 1 (by simp)).1
          have v1 := (PX.e.at_ 1 (by simp)).2
          have u2 : V11.cell? ⟨w.heap.size, 2, none⟩ = some (.int .i64 0) := (PX.e.at_ 2 (by simp)).1
          have v2 := (PX.e.at_ 2 (by simp)).2
          have u3 : V11.cell? ⟨w.heap.size, 3, none⟩ = some (.int .i64 0) := (PX.e.at_ 3 (by simp)).1
          have v3 := (PX.e.at_ 3 (by simp)).2
          have u4 : V11.cell? ⟨w.heap.size, 4, none⟩ = some (.int .i64 0) := (PX.e.at_ 4 (by simp)).1
          have v4 := (PX.e.at_ 4 (by simp)).2
          have u5 : V11.cell? ⟨w.heap.size, 5, none⟩ = some (.int .i64 0) := (PX.e.at_ 5 (by simp)).1
          have v5 := (PX.e.at_ 5 (by simp)).2
          have u6 : V11.cell? ⟨w.heap.size, 6, none⟩ = some (.int .i64 0) := (PX.e.at_ 6 (by simp)).1
          have v6 := (PX.e.at_ 6 (by simp)).2
          have u7 : V11.cell? ⟨w.heap.size, 7, none⟩ = some (.int .i64 0) := (PX.e.at_ 7 (by simp)).1
          have v7 := (PX.e.at_ 7 (by simp)).2
          have hDE := PX.hDE
          have d9 := (((((((PX.d.other (i := 0) (v := .int .i64 n0) hDE.symm).other (i := 1) (v := .int .i64 n1) hDE.symm).other (i := 2) (v := .int .i64 n2) hDE.symm).other (i := 3) (v := .int .i64 n3) hDE.symm).other (i := 4) (v := .int .i64 n4) hDE.symm).other (i := 5) (v := .int .i64 n5) hDE.symm).other (i := 6) (v := .int .i64 n6) hDE.symm).other (i := 7) (v := .int .i64 n7) hDE.symm
          have HN := Lib.hid (PX.fin (.int .i64 n0) (.int .i64 n1) (.int .i64 n2) (.int .i64 n3) (.int .i64 n4) (.int .i64 n5) (.int .i64 n6) (.int .i64 n7))
          refine wpAnyH_take (i := 4) (v := ?_) rfl (by kernel_rfl) (by kernel_rfl) (by kernel_rfl) (fun _ _ _ h => h) (Or.inl ⟨by rfl, ?_⟩) (by assumption) ?_
          rotate_left
          · intro w hSw
            (try dsimp only at hSw)
            go_simp
            all_goals with_reducible rfl
          try simp only [Act.put, List.setIfInBounds_toArray, List.set_cons_zero, List.set_cons_succ, List.getElem_toArray, List.getElem_cons_zero, List.getElem_cons_succ]
          refine wpAnyH_ready (rs := [5]) (by kernel_rfl) (by simp) ?_
          refine AllReadyH.cons rfl (fun K hK => ?_) AllReadyH.nil
          go_simp
          skip
          refine hK.out _ _ (d9.all8) (fun hHeld => ?_)
          clear hK K
          try simp only [Act.put, List.setIfInBounds_toArray, List.set_cons_zero, List.set_cons_succ, List.getElem_toArray, List.getElem_cons_zero, List.getElem_cons_succ]
          refine wpAnyH_take (i := 6) (v := ?_) rfl (by kernel_rfl) (by kernel_rfl) (by kernel_rfl) (fun _ _ _ h => h) (Or.inl ⟨by rfl, ?_⟩) (by assumption) ?_
          rotate_left
          · intro w hSw
            (try dsimp only at hSw)
            go_simp
            all_goals with_reducible rfl
          try simp only [Act.put, List.setIfInBounds_toArray, List.set_cons_zero, List.set_cons_succ, List.getElem_toArray, List.getElem_cons_zero, List.getElem_cons_succ]
          refine wpAnyH_done (by kernel_rfl) ?_ _
          clear hHeld d9
          go_wp2
          exact bodyPost_ret (v := .tuple #[.int .i64 z6, .agg #[.int .i64 n0, .int .i64 n1, .int .i64 n2, .int .i64 n3, .int .i64 n4, .int .i64 n5, .int .i64 n6, .int .i64 n7], .int .i64 z11]) (by simp [results, Try.results21, go_sem, u0, u1, u2, u3, u4, u5, u6, u7]) rfl ⟨_, _, _, _, _, _, _, _, _, _, rfl, HN.out⟩
      · have hk8' : (k8 == 0) = false := by rw [beq_eq_false_iff_ne]; exact hk8
        clear hk8
        go_upto_region 7 with (fail)
        generalize W8 = V at P8 ⊢
        have P := P8
        clear P8
        go_wp2_with fail
        refine (pick_any _ r _ _ _ P.R.rdr (by omega)).mono ?_
        rintro e V12 ⟨k12, rfl, a12, b12, st12⟩
        have Q := P.step st12
        clear b12 st12 P
        by_cases hk : k12 = 0
        · subst hk
          have d5 : V12.cell? ⟨D, 5, none⟩ = some (.int .i64 y5) := (Q.d.at_ 5 (by simp)).1
          have g5 := (Q.d.at_ 5 (by simp)).2
          obtain ⟨q5, hq5⟩ : ∃ q5 : Int, q5 = wrap64 (y5 + 1) := ⟨_, rfl⟩
          have Q5 := Q.set 5 (by omega) q5
          go_upto_region 9 with (fail)
          clear d5 g5
          rw [← hq5]
          clear hq5 Q
          generalize V12.setCell ⟨D, 5, none⟩ (.int .i64 q5) = V at Q5 ⊢
          have P : PD r w w1 V r (0 + 3 + 3 + 1 + 1 + 1) w.heap.size D [y0, y1, y2, y3, y4, q5, y6, y7] := Q5
          clear Q5
          go_wp2_with fail
          have PV := P.drew
          clear P
          refine wp_region_held_drew (S := (fun w' => w'.cell? ⟨D, 0, none⟩ = some (.int .i64 y0) ∧ w'.cell? ⟨D, 1, none⟩ = some (.int .i64 y1) ∧ w'.cell? ⟨D, 2, none⟩ = some (.int .i64 y2) ∧ w'.cell? ⟨D, 3, none⟩ = some (.int .i64 y3) ∧ w'.cell? ⟨D, 4, none⟩ = some (.int .i64 y4) ∧ w'.cell? ⟨D, 5, none⟩ = some (.int .i64 q5) ∧ w'.cell? ⟨D, 6, none⟩ = some (.int .i64 y6) ∧ w'.cell? ⟨D, 7, none⟩ = some (.int .i64 y7))) (by kernel_rfl) (PV.d.all8) (fun hHeld => ?_)
          generalize V.drew = X9 at *
          refine wpAnyH_take (i := 0) (v := ?_) rfl (by kernel_rfl) (by kernel_rfl) (by kernel_rfl) (fun _ _ _ h => h) (Or.inl ⟨by rfl, ?_⟩) (by assumption) ?_
          rotate_left
          · intro w hSw
            (try dsimp only at hSw)
            go_simp
            all_goals with_reducible rfl
          try simp only [Act.put, List.setIfInBounds_toArray, List.set_cons_zero, List.set_cons_succ, List.getElem_toArray, List.getElem_cons_zero]
          refine wpAnyH_take (i := 1) (v := ?_) rfl (by kernel_rfl) (by kernel_rfl) (by kernel_rfl) (fun _ _ _ h => h) (Or.inl ⟨by rfl, ?_⟩) (by assumption) ?_
          rotate_left
          · intro w hSw
            (try dsimp only at hSw)
            go_simp
            all_goals with_reducible rfl
          try simp only [Act.put, List.setIfInBounds_toArray, List.set_cons_zero, List.set_cons_succ, List.getElem_toArray, List.getElem_cons_zero, List.getElem_cons_succ]
          refine wpAnyH_take (i := 2) (v := ?_) rfl (by kernel_rfl) (by kernel_rfl) (by kernel_rfl) (fun _ _ _ h => h) (Or.inl ⟨by rfl, ?_⟩) (by assumption) ?_
          rotate_left
          · intro w hSw
            (try dsimp only at hSw)
            go_simp
            all_goals with_reducible rfl
          try simp only [Act.put, List.setIfInBounds_toArray, List.set_cons_zero, List.set_cons_succ, List.getElem_toArray, List.getElem_cons_zero, List.getElem_cons_succ]
          refine wpAnyH_ready (rs := [3]) (by kernel_rfl) (by simp) ?_
          refine AllReadyH.cons rfl (fun K hK => ?_) AllReadyH.nil
          go_simp
          (go_at_call 37; refine (someStamp_any _ r _ _ PV.R.rdr (by omega)).mono ?_)
          rintro e V11 ⟨z11, rfl, lo11, hi11, bl, rd, fr⟩
          have PX := PV.next rd bl fr
          refine hK.out _ _ PX.d.all8 (fun hHeld => ?_)
          clear hK K bl rd fr PV
          try simp only [Act.put, List.setIfInBounds_toArray, List.set_cons_zero, List.set_cons_succ, List.getElem_toArray, List.getElem_cons_zero, List.getElem_cons_succ]
          have u0 : V11.cell? ⟨w.heap.size, 0, none⟩ = some (.int .i64 0) := (PX.e.at_ 0 (by simp)).1
          have v0 := (PX.e.at_ 0 (by simp)).2
          have u1 : V11.cell? ⟨w.heap.size, 1, none⟩ = some (.int .i64 0) := (PX.e.at_ 1 (by simp)).1
          have v1 := (PX.e.at_ 1 (by simp)).2
          have u2 : V11.cell? ⟨w.heap.size, 2, none⟩ = some (.int .i64 0) := (PX.e.at_ 2 (by simp)).1
          have v2 := (PX.e.at_ 2 (by simp)).2
          have u3 : V11.cell? ⟨w.heap.size, 3, none⟩ = some (.int .i64 0) := (PX.e.at_ 3 (by simp)).1
          have v3 := (PX.e.at_ 3 (by simp)).2
          have u4 : V11.cell? ⟨w.heap.size, 4, none⟩ = some (.int .i64 0) := (PX.e.at_ 4 (by simp)).1
          have v4 := (PX.e.at_ 4 (by simp)).2
          have u5 : V11.cell? ⟨w.heap.size, 5, none⟩ = some (.int .i64 0) := (PX.e.at_ 5 (by simp)).1
          have v5 := (PX.e.at_ 5 (by simp)).2
          have u6 : V11.cell? ⟨w.heap.size, 6, none⟩ = some (.int .i64 0) := (PX.e.at_ 6 (by simp)).1
          have v6 := (PX.e.at_ 6 (by simp)).2
          have u7 : V11.cell? ⟨w.heap.size, 7, none⟩ = some (.int .i64 0) := (PX.e.at_ 7 (by simp)).1
          have v7 := (PX.e.at_ 7 (by simp)).2
          have hDE := PX.hDE
          have d9 := (((((((PX.d.other (i := 0) (v := .int .i64 y0) hDE.symm).other (i := 1) (v := .int .i64 y1) hDE.symm).other (i := 2) (v := .int .i64 y2) hDE.symm).other (i := 3) (v := .int .i64 y3) hDE.symm).other (i := 4) (v := .int .i64 y4) hDE.symm).other (i := 5) (v := .int .i64 q5) hDE.symm).other (i := 6) (v := .int .i64 y6) hDE.symm).other (i := 7) (v := .int .i64 y7) hDE.symm
          have HN := Lib.hid (PX.fin (.int .i64 y0) (.int .i64 y1) (.int .i64 y2) (.int .i64 y3) (.int .i64 y4) (.int .i64 q5) (.int .i64 y6) (.int .i64 y7))
          refine wpAnyH_take (i := 4) (v := ?_) rfl (by kernel_rfl) (by kernel_rfl) (by kernel_rfl) (fun _ _ _ h => h) (Or.inl ⟨by rfl, ?_⟩) (by assumption) ?_
          rotate_left
          · intro w hSw
            (try dsimp only at hSw)
            go_simp
            all_goals with_reducible rfl
          try simp only [Act.put, List.setIfInBounds_toArray, List.set_cons_zero, List.set_cons_succ, List.getElem_toArray, List.getElem_cons_zero, List.getElem_cons_succ]
          refine wpAnyH_ready (rs := [5]) (by kernel_rfl) (by simp) ?_
          refine AllReadyH.cons rfl (fun K hK => ?_) AllReadyH.nil
          go_simp
          skip
          refine hK.out _ _ (d9.all8) (fun hHeld => ?_)
          clear hK K
          try simp only [Act.put, List.setIfInBounds_toArray, List.set_cons_zero, List.set_cons_succ, List.getElem_toArray, List.getElem_cons_zero, List.getElem_cons_succ]
          refine wpAnyH_take (i := 6) (v := ?_) rfl (by kernel_rfl) (by kernel_rfl) (by kernel_rfl) (fun _ _ _ h => h) (Or.inl ⟨by rfl, ?_⟩) (by assumption) ?_
          rotate_left
          · intro w hSw
            (try dsimp only at hSw)
            go_simp
            all_goals with_reducible rfl
          try simp only [Act.put, List.setIfInBounds_toArray, List.set_cons_zero, List.set_cons_succ, List.getElem_toArray, List.getElem_cons_zero, List.getElem_cons_succ]
          refine wpAnyH_done (by kernel_rfl) ?_ _
          clear hHeld d9
          go_wp2
          exact bodyPost_ret (v := .tuple #[.int .i64 z6, .agg #[.int .i64 y0, .int .i64 y1, .int .i64 y2, .int .i64 y3, .int .i64 y4, .int .i64 q5, .int .i64 y6, .int .i64 y7], .int .i64 z11]) (by simp [results, Try.results21, go_sem, u0, u1, u2, u3, u4, u5, u6, u7]) rfl ⟨_, _, _, _, _, _, _, _, _, _, rfl, HN.out⟩
        · have hk' : (k12 == 0) = false := by rw [beq_eq_false_iff_ne]; exact hk
          clear hk
          go_upto_region 9 with (fail)
          generalize V12 = V at Q ⊢
          have P := Q
          clear Q
          go_wp2_with fail
          have PV := P.drew
          clear P
          refine wp_region_held_drew (S := (fun w' => w'.cell? ⟨D, 0, none⟩ = some (.int .i64 y0) ∧ w'.cell? ⟨D, 1, none⟩ = some (.int .i64 y1) ∧ w'.cell? ⟨D, 2, none⟩ = some (.int .i64 y2) ∧ w'.cell? ⟨D, 3, none⟩ = some (.int .i64 y3) ∧ w'.cell? ⟨D, 4, none⟩ = some (.int .i64 y4) ∧ w'.cell? ⟨D, 5, none⟩ = some (.int .i64 y5) ∧ w'.cell? ⟨D, 6, none⟩ = some (.int .i64 y6) ∧ w'.cell? ⟨D, 7, none⟩ = some (.int .i64 y7))) (by kernel_rfl) (PV.d.all8) (fun hHeld => ?_)
          generalize V.drew = X9 at *
          refine wpAnyH_take (i := 0) (v := ?_) rfl (by kernel_rfl) (by kernel_rfl) (by kernel_rfl) (fun _ _ _ h => h) (Or.inl ⟨by rfl, ?_⟩) (by assumption) ?_
          rotate_left
          · intro w hSw
            (try dsimp only at hSw)
            go_simp
            all_goals with_reducible rfl
          try simp only [Act.put, List.setIfInBounds_toArray, List.set_cons_zero, List.set_cons_succ, List.getElem_toArray, List.getElem_cons_zero]
          refine wpAnyH_take (i := 1) (v := ?_) rfl (by kernel_rfl) (by kernel_rfl) (by kernel_rfl) (fun _ _ _ h => h) (Or.inl ⟨by rfl, ?_⟩) (by assumption) ?_
          rotate_left
          · intro w hSw
            (try dsimp only at hSw)
            go_simp
            all_goals with_reducible rfl
          try simp only [Act.put, List.setIfInBounds_toArray, List.set_cons_zero, List.set_cons_succ, List.getElem_toArray, List.getElem_cons_zero, List.getElem_cons_succ]
          refine wpAnyH_take (i := 2) (v := ?_) rfl (by kernel_rfl) (by kernel_rfl) (by kernel_rfl) (fun _ _ _ h => h) (Or.inl ⟨by rfl, ?_⟩) (by assumption) ?_
          rotate_left
          · intro w hSw
            (try dsimp only at hSw)
            go_simp
            all_goals with_reducible rfl
          try simp only [Act.put, List.setIfInBounds_toArray, List.set_cons_zero, List.set_cons_succ, List.getElem_toArray, List.getElem_cons_zero, List.getElem_cons_succ]
          refine wpAnyH_ready (rs := [3]) (by kernel_rfl) (by simp) ?_
          refine AllReadyH.cons rfl (fun K hK => ?_) AllReadyH.nil
          go_simp
          (go_at_call 37; refine (someStamp_any _ r _ _ PV.R.rdr (by omega)).mono ?_)
          rintro e V11 ⟨z11, rfl, lo11, hi11, bl, rd, fr⟩
          have PX := PV.next rd bl fr
          refine hK.out _ _ PX.d.all8 (fun hHeld => ?_)
          clear hK K bl rd fr PV
          try simp only [Act.put, List.setIfInBounds_toArray, List.set_cons_zero, List.set_cons_succ, List.getElem_toArray, List.getElem_cons_zero, List.getElem_cons_succ]
          have u0 : V11.cell? ⟨w.heap.size, 0, none⟩ = some (.int .i64 0) := (PX.e.at_ 0 (by simp)).1
          have v0 := (PX.e.at_ 0 (by simp)).2
          have u1 : V11.cell? ⟨w.heap.size, 1, none⟩ = some (.int .i64 0) := (PX.e.at_ 1 (by simp)).1
          have v1 := (PX.e.at_ 1 (by simp)).2
          have u2 : V11.cell? ⟨w.heap.size, 2, none⟩ = some (.int .i64 0) := (PX.e.at_ 2 (by simp)).1
          have v2 := (PX.e.at_ 2 (by simp)).2
          have u3 : V11.cell? ⟨w.heap.size, 3, none⟩ = some (.int .i64 0) := (PX.e.at_ 3 (by simp)).1
          have v3 := (PX.e.at_ 3 (by simp)).2
          have u4 : V11.cell? ⟨w.heap.size, 4, none⟩ = some (.int .i64 0) := (PX.e.at_ 4 (by simp)).1
          have v4 := (PX.e.at_ 4 (by simp)).2
          have u5 : V11.cell? ⟨w.heap.size, 5, none⟩ = some (.int .i64 0) := (PX.e.at_ 5 (by simp)).1
          have v5 := (PX.e.at_ 5 (by simp)).2
          have u6 : V11.cell? ⟨w.heap.size, 6, none⟩ = some (.int .i64 0) := (PX.e.at_ 6 (by simp)).1
          have v6 := (PX.e.at_ 6 (by simp)).2
          have u7 : V11.cell? ⟨w.heap.size, 7, none⟩ = some (.int .i64 0) := (PX.e.at_ 7 (by simp)).1
          have v7 := (PX.e.at_ 7 (by simp)).2
          have hDE := PX.hDE
          have d9 := (((((((PX.d.other (i := 0) (v := .int .i64 y0) hDE.symm).other (i := 1) (v := .int .i64 y1) hDE.symm).other (i := 2) (v := .int .i64 y2) hDE.symm).other (i := 3) (v := .int .i64 y3) hDE.symm).other (i := 4) (v := .int .i64 y4) hDE.symm).other (i := 5) (v := .int .i64 y5) hDE.symm).other (i := 6) (v := .int .i64 y6) hDE.symm).other (i := 7) (v := .int .i64 y7) hDE.symm
          have HN := Lib.hid (PX.fin (.int .i64 y0) (.int .i64 y1) (.int .i64 y2) (.int .i64 y3) (.int .i64 y4) (.int .i64 y5) (.int .i64 y6) (.int .i64 y7))
          refine wpAnyH_take (i := 4) (v := ?_) rfl (by kernel_rfl) (by kernel_rfl) (by kernel_rfl) (fun _ _ _ h => h) (Or.inl ⟨by rfl, ?_⟩) (by assumption) ?_
          rotate_left
          · intro w hSw
            (try dsimp only at hSw)
            go_simp
            all_goals with_reducible rfl
          try simp only [Act.put, List.setIfInBounds_toArray, List.set_cons_zero, List.set_cons_succ, List.getElem_toArray, List.getElem_cons_zero, List.getElem_cons_succ]
          refine wpAnyH_ready (rs := [5]) (by kernel_rfl) (by simp) ?_
          refine AllReadyH.cons rfl (fun K hK => ?_) AllReadyH.nil
          go_simp
          skip
          refine hK.out _ _ (d9.all8) (fun hHeld => ?_)
          clear hK K
          try simp only [Act.put, List.setIfInBounds_toArray, List.set_cons_zero, List.set_cons_succ, List.getElem_toArray, List.getElem_cons_zero, List.getElem_cons_succ]
          refine wpAnyH_take (i := 6) (v := ?_) rfl (by kernel_rfl) (by kernel_rfl) (by kernel_rfl) (fun _ _ _ h => h) (Or.inl ⟨by rfl, ?_⟩) (by assumption) ?_
          rotate_left
          · intro w hSw
            (try dsimp only at hSw)
            go_simp
            all_goals with_reducible rfl
          try simp only [Act.put, List.setIfInBounds_toArray, List.set_cons_zero, List.set_cons_succ, List.getElem_toArray, List.getElem_cons_zero, List.getElem_cons_succ]
          refine wpAnyH_done (by kernel_rfl) ?_ _
          clear hHeld d9
          go_wp2
          exact bodyPost_ret (v := .tuple #[.int .i64 z6, .agg #[.int .i64 y0, .int .i64 y1, .int .i64 y2, .int .i64 y3, .int .i64 y4, .int .i64 y5, .int .i64 y6, .int .i64 y7], .int .i64 z11]) (by simp [results, Try.results21, go_sem, u0, u1, u2, u3, u4, u5, u6, u7]) rfl ⟨_, _, _, _, _, _, _, _, _, _, rfl, HN.out⟩
end Go.Proofs.Ytigaifnoicnafaa
