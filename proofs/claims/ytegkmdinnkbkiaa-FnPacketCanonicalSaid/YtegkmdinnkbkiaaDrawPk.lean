/-
  The generators of packets (chapter 10): some packet, and nothing that was there has changed. Condition: the code has at most 1048576 bytes.
-/
import Derived.Test.YtegkmdinnkbkiaaDrawK
import Derived.Test.YtegkmdinnkbkiaaDrawN
import Derived.Deep.Cut
namespace Go.Proofs.Ytegkmdinnkbkiaa
open Go.RowKit
set_option linter.unusedVariables false
set_option maxRecDepth 100000
/-- A block of numbers that is not the reader's. -/
structure BoxN (w : World) (r b : Nat) (l : List Int) : Prop where
  ne : b ≠ r
  top : b < w.heap.size
  at_ : ∀ i, i < l.length → w.cell? ⟨b, i, none⟩ = some (.int .i64 (l.getD i 0)) ∧ w.frozen? ⟨b, i, none⟩ = false
theorem BoxN.far {w w' : World} {r b : Nat} {l : List Int} (h : BoxN w r b l) (f : Far w r w') : BoxN w' r b l :=
  ⟨h.ne, Nat.lt_of_lt_of_le h.top f.size, fun i hi => ⟨(f.cell b i h.top h.ne).trans (h.at_ i hi).1, (f.frozen b i h.top h.ne).trans (h.at_ i hi).2⟩⟩
theorem BoxN.new {w : World} {r : Nat} (l : List Int) (t : TypeId) (h : r < w.heap.size) : BoxN (w.alloc (.cells (l.map (Value.int .i64)).toArray t)) r w.heap.size l :=
  ⟨by omega, by simp, fun i hi => ⟨by rw [World.cell?_alloc_new]; simp [List.getElem?_map, List.getElem?_eq_getElem hi, List.getD_eq_getElem?_getD], by simp⟩⟩
theorem BoxN.other {w : World} {r b b' i : Nat} {l : List Int} {v : Value} (h : BoxN w r b l) (hb : b' ≠ b) : BoxN (w.setCell ⟨b', i, none⟩ v) r b l := by
  have hoth : ∀ o, (w.setCell ⟨b', i, none⟩ v).cell? ⟨b, o, none⟩ = w.cell? ⟨b, o, none⟩ := fun o => World.cell?_setCell_other _ _ _ _ (fun e => hb (by injection e))
  exact ⟨h.ne, by simpa using h.top, fun j hj => ⟨(hoth j).trans (h.at_ j hj).1, by simpa using (h.at_ j hj).2⟩⟩
theorem BoxN.set {w : World} {r b : Nat} {l : List Int} (h : BoxN w r b l) (j : Nat) (hj : j < l.length) (x : Int) : BoxN (w.setCell ⟨b, j, none⟩ (.int .i64 x)) r b (l.set j x) := by
  refine ⟨h.ne, by simpa using h.top, fun i hi => ⟨?_, by simpa using (h.at_ i (by simpa using hi)).2⟩⟩
  rw [List.length_set] at hi
  by_cases e : i = j
  · subst e
    rw [World.cell?_setCell_same _ _ _ (h.at_ i hi).1, List.getD_eq_getElem?_getD, List.getElem?_set_self hi]; rfl
  · rw [World.cell?_setCell_other _ _ _ _ (fun k => e (by injection k with _ k _; exact k.symm)), (h.at_ i hi).1, List.getD_eq_getElem?_getD, List.getD_eq_getElem?_getD, List.getElem?_set_ne (fun k => e k.symm)]
/-- Some packet. -/
def AnyPk (B : Nat) (w : World) (r m : Nat) (e : Ending) (w' : World) : Prop := ∃ a b c d e' f g h : Int, e = .returned (.agg #[.int .i64 a, .int .i64 b, .int .i64 c, .int .i64 d, .int .i64 e', .int .i64 f, .int .i64 g, .int .i64 h]) ∧ RK B w w' r m
set_option maxHeartbeats 4000000 in
theorem anyPacket_any (B r m : Nat) (w : World) (h : Rdr B w r m) (hm : m ≤ 500) : Calls Try.prog 17 #[.pointer (some ⟨r, 0, none⟩)] w (AnyPk B w r (m + 40)) := by
  have rb1 : BoxN (w.alloc (.cells #[.int .i64 0, .int .i64 0, .int .i64 0, .int .i64 0, .int .i64 0, .int .i64 0, .int .i64 0, .int .i64 0] 24)) r w.heap.size [0, 0, 0, 0, 0, 0, 0, 0] := BoxN.new [0, 0, 0, 0, 0, 0, 0, 0] _ h.top
  have R1 := (RK.mk0 h).alloc #[.int .i64 0, .int .i64 0, .int .i64 0, .int .i64 0, .int .i64 0, .int .i64 0, .int .i64 0, .int .i64 0] 24
  go_enter Try.func17, Try.ntmps17
  go_wp2_with fail
  refine (one_any B r _ _ _ _ 0 3 _ (R1.alloc _ _).rdr (by omega) (by omega) (by omega) (by have := h.top; omega) ?_).mono ?_
  · have hmk := made_cells (w.alloc (.cells #[.int .i64 0, .int .i64 0, .int .i64 0, .int .i64 0, .int .i64 0, .int .i64 0, .int .i64 0, .int .i64 0] 24)) #[.int .i64 0, .int .i64 0, .int .i64 1, .int .i64 3] 3 4 0 3 rfl (by simp [Ints])
    rw [World.size_alloc] at hmk
    exact hmk
  rintro e w2 ⟨z2, rfl, x2, y2, bl2, rd2, fr2⟩
  have R2 := (R1.alloc _ _).next rd2 bl2 fr2
  have rb2 := (rb1.far ((Far.refl _ _).alloc _)).far fr2
  clear bl2 rd2 fr2 x2 y2 R1 rb1
  go_wp2_with fail
  refine (one_any B r _ _ _ _ 0 7 _ (R2.alloc _ _).rdr (by omega) (by omega) (by omega) (by have := R2.rdr.top; omega) ?_).mono ?_
  · exact made_cells _ _ _ _ _ _ rfl (by simp [Ints])
  rintro e w3 ⟨z3, rfl, x3, y3, bl3, rd3, fr3⟩
  have R3 := (R2.alloc _ _).next rd3 bl3 fr3
  have rb3 := (rb2.far ((Far.refl _ _).alloc _)).far fr3
  clear bl3 rd3 fr3 x3 y3 R2 rb2
  go_wp2_with fail
  refine (one_any B r _ _ _ _ 0 15 _ (R3.alloc _ _).rdr (by omega) (by omega) (by omega) (by have := R3.rdr.top; omega) ?_).mono ?_
  · exact made_cells _ _ _ _ _ _ rfl (by simp [Ints])
  rintro e w4 ⟨z4, rfl, x4, y4, bl4, rd4, fr4⟩
  have R4 := (R3.alloc _ _).next rd4 bl4 fr4
  have rb4 := (rb3.far ((Far.refl _ _).alloc _)).far fr4
  clear bl4 rd4 fr4 x4 y4 R3 rb3
  go_wp2_with fail
  refine (one_any B r _ _ _ _ 0 17 _ (R4.alloc _ _).rdr (by omega) (by omega) (by omega) (by have := R4.rdr.top; omega) ?_).mono ?_
  · exact made_cells _ _ _ _ _ _ rfl (by simp [Ints])
  rintro e w5 ⟨z5, rfl, x5, y5, bl5, rd5, fr5⟩
  have R5 := (R4.alloc _ _).next rd5 bl5 fr5
  have rb5 := (rb4.far ((Far.refl _ _).alloc _)).far fr5
  clear bl5 rd5 fr5 x5 y5 R4 rb4
  go_wp2_with fail
  refine (one_any B r _ _ _ _ 0 65535 _ (R5.alloc _ _).rdr (by omega) (by omega) (by omega) (by have := R5.rdr.top; omega) ?_).mono ?_
  · exact made_cells _ _ _ _ _ _ rfl (by simp [Ints])
  rintro e w6 ⟨z6, rfl, x6, y6, bl6, rd6, fr6⟩
  have R6 := (R5.alloc _ _).next rd6 bl6 fr6
  have rb6 := (rb5.far ((Far.refl _ _).alloc _)).far fr6
  clear bl6 rd6 fr6 x6 y6 R5 rb5
  go_wp2_with fail
  refine (someStamp_any B r _ _ R6.rdr (by omega)).mono ?_
  rintro e w7 ⟨z7, rfl, x7, y7, bl7, rd7, fr7⟩
  have R7 := R6.next rd7 bl7 fr7
  have rb7 := rb6.far fr7
  clear bl7 rd7 fr7 x7 y7 R6 rb6
  go_wp2_with fail
  refine (someStamp_any B r _ _ R7.rdr (by omega)).mono ?_
  rintro e w8 ⟨z8, rfl, x8, y8, bl8, rd8, fr8⟩
  have R8 := R7.next rd8 bl8 fr8
  have rb8 := rb7.far fr8
  clear bl8 rd8 fr8 x8 y8 R7 rb7
  go_wp2_with fail
  refine (someStamp_any B r _ _ R8.rdr (by omega)).mono ?_
  rintro e w9 ⟨z9, rfl, x9, y9, bl9, rd9, fr9⟩
  have R9 := R8.next rd9 bl9 fr9
  have rb9 := rb8.far fr9
  clear bl9 rd9 fr9 x9 y9 R8 rb8
  have db : BoxN (w9.alloc (.cells #[.int .i64 z2, .int .i64 z3, .int .i64 z4, .int .i64 z5, .int .i64 z6, .int .i64 z7, .int .i64 z8, .int .i64 z9] 24)) r w9.heap.size [z2, z3, z4, z5, z6, z7, z8, z9] := BoxN.new [z2, z3, z4, z5, z6, z7, z8, z9] _ R9.rdr.top
  have rb10 := rb9.far ((Far.refl _ _).alloc (.cells #[.int .i64 z2, .int .i64 z3, .int .i64 z4, .int .i64 z5, .int .i64 z6, .int .i64 z7, .int .i64 z8, .int .i64 z9] 24))
  have R10 := R9.alloc #[.int .i64 z2, .int .i64 z3, .int .i64 z4, .int .i64 z5, .int .i64 z6, .int .i64 z7, .int .i64 z8, .int .i64 z9] 24
  have hDR : w9.heap.size ≠ w.heap.size := by have := rb9.top; omega
  have hDB : w.heap.size ≤ w9.heap.size := R9.far.size
  clear R9 rb9
  go_wp2_with fail
  generalize w9.alloc (.cells #[.int .i64 z2, .int .i64 z3, .int .i64 z4, .int .i64 z5, .int .i64 z6, .int .i64 z7, .int .i64 z8, .int .i64 z9] 24) = W at db rb10 R10 ⊢
  generalize w9.heap.size = D at db hDR hDB ⊢
  refine (pick_any B r _ _ _ R10.rdr (by omega)).mono ?_
  rintro e w11 ⟨k11, rfl, a11, b11, st11⟩
  have R11 := R10.step st11
  have db11 := db.far st11.far
  have rb11 := rb10.far st11.far
  clear b11 st11 R10 db rb10
  by_cases h0 : k11 = 0
  · subst h0
    go_wp2_with fail
    refine (one_any B r _ _ _ _ (-1) 4 _ (R11.alloc _ _).rdr (by omega) (by omega) (by omega) (by have := R11.rdr.top; omega) ?_).mono ?_
    · exact made_cells _ _ _ _ _ _ rfl (by simp [Ints])
    rintro e w12 ⟨z12, rfl, x12, y12, bl12, rd12, fr12⟩
    have R12 := (R11.alloc _ _).next rd12 bl12 fr12
    have db12 := (db11.far ((Far.refl _ _).alloc _)).far fr12
    have rb12 := (rb11.far ((Far.refl _ _).alloc _)).far fr12
    clear bl12 rd12 fr12 R11 db11 rb11 x12 y12
    have db13 := db12.set 0 (by simp) z12
    have rb13 := rb12.other (i := 0) (v := .int .i64 z12) hDR
    have R13 := Lib.hid (R12.set (i := 0) (v := .int .i64 z12) hDB)
    have q0 : w12.cell? ⟨D, 0, none⟩ = some (.int .i64 z2) := (db12.at_ 0 (by simp)).1
    have q1 := (db12.at_ 0 (by simp)).2
    clear R12 rb12 db12
    go_upto_region 13 with (fail)
    clear q0 q1
    generalize w12.setCell ⟨D, 0, none⟩ (.int .i64 z12) = V at db13 rb13 R13 ⊢
    have hfin := Lib.hid ((((((((R13.out.set (i := 0) (v := .int .i64 z12) (Nat.le_refl _)).set (i := 1) (v := .int .i64 z3) (Nat.le_refl _)).set (i := 2) (v := .int .i64 z4) (Nat.le_refl _)).set (i := 3) (v := .int .i64 z5) (Nat.le_refl _)).set (i := 4) (v := .int .i64 z6) (Nat.le_refl _)).set (i := 5) (v := .int .i64 z7) (Nat.le_refl _)).set (i := 6) (v := .int .i64 z8) (Nat.le_refl _)).set (i := 7) (v := .int .i64 z9) (Nat.le_refl _))
    have u0 : V.cell? ⟨w.heap.size, 0, none⟩ = some (.int .i64 0) := (rb13.at_ 0 (by simp)).1
    have v0 := (rb13.at_ 0 (by simp)).2
    have p0 : V.cell? ⟨D, 0, none⟩ = some (.int .i64 z12) := (db13.at_ 0 (by simp)).1
    have u1 : V.cell? ⟨w.heap.size, 1, none⟩ = some (.int .i64 0) := (rb13.at_ 1 (by simp)).1
    have v1 := (rb13.at_ 1 (by simp)).2
    have p1 : V.cell? ⟨D, 1, none⟩ = some (.int .i64 z3) := (db13.at_ 1 (by simp)).1
    have u2 : V.cell? ⟨w.heap.size, 2, none⟩ = some (.int .i64 0) := (rb13.at_ 2 (by simp)).1
    have v2 := (rb13.at_ 2 (by simp)).2
    have p2 : V.cell? ⟨D, 2, none⟩ = some (.int .i64 z4) := (db13.at_ 2 (by simp)).1
    have u3 : V.cell? ⟨w.heap.size, 3, none⟩ = some (.int .i64 0) := (rb13.at_ 3 (by simp)).1
    have v3 := (rb13.at_ 3 (by simp)).2
    have p3 : V.cell? ⟨D, 3, none⟩ = some (.int .i64 z5) := (db13.at_ 3 (by simp)).1
    have u4 : V.cell? ⟨w.heap.size, 4, none⟩ = some (.int .i64 0) := (rb13.at_ 4 (by simp)).1
    have v4 := (rb13.at_ 4 (by simp)).2
    have p4 : V.cell? ⟨D, 4, none⟩ = some (.int .i64 z6) := (db13.at_ 4 (by simp)).1
    have u5 : V.cell? ⟨w.heap.size, 5, none⟩ = some (.int .i64 0) := (rb13.at_ 5 (by simp)).1
    have v5 := (rb13.at_ 5 (by simp)).2
    have p5 : V.cell? ⟨D, 5, none⟩ = some (.int .i64 z7) := (db13.at_ 5 (by simp)).1
    have u6 : V.cell? ⟨w.heap.size, 6, none⟩ = some (.int .i64 0) := (rb13.at_ 6 (by simp)).1
    have v6 := (rb13.at_ 6 (by simp)).2
    have p6 : V.cell? ⟨D, 6, none⟩ = some (.int .i64 z8) := (db13.at_ 6 (by simp)).1
    have u7 : V.cell? ⟨w.heap.size, 7, none⟩ = some (.int .i64 0) := (rb13.at_ 7 (by simp)).1
    have v7 := (rb13.at_ 7 (by simp)).2
    have p7 : V.cell? ⟨D, 7, none⟩ = some (.int .i64 z9) := (db13.at_ 7 (by simp)).1
    clear R13 db13 rb13
    go_wp2
    exact bodyPost_ret (v := .agg #[.int .i64 z12, .int .i64 z3, .int .i64 z4, .int .i64 z5, .int .i64 z6, .int .i64 z7, .int .i64 z8, .int .i64 z9]) (by simp [results, Try.results17, go_sem, u0, u1, u2, u3, u4, u5, u6, u7]) rfl ⟨_, _, _, _, _, _, _, _, rfl, hfin.out.mono (by omega)⟩
  have h0' : (k11 == 0) = false := by simpa using h0
  by_cases h1 : k11 = 1
  · subst h1
    go_wp2_with fail
    refine (one_any B r _ _ _ _ (-1) 16 _ (R11.alloc _ _).rdr (by omega) (by omega) (by omega) (by have := R11.rdr.top; omega) ?_).mono ?_
    · exact made_cells _ _ _ _ _ _ rfl (by simp [Ints])
    rintro e w12 ⟨z12, rfl, x12, y12, bl12, rd12, fr12⟩
    have R12 := (R11.alloc _ _).next rd12 bl12 fr12
    have db12 := (db11.far ((Far.refl _ _).alloc _)).far fr12
    have rb12 := (rb11.far ((Far.refl _ _).alloc _)).far fr12
    clear bl12 rd12 fr12 R11 db11 rb11 x12 y12
    have db13 := db12.set 2 (by simp) z12
    have rb13 := rb12.other (i := 2) (v := .int .i64 z12) hDR
    have R13 := Lib.hid (R12.set (i := 2) (v := .int .i64 z12) hDB)
    have q0 : w12.cell? ⟨D, 2, none⟩ = some (.int .i64 z4) := (db12.at_ 2 (by simp)).1
    have q1 := (db12.at_ 2 (by simp)).2
    clear R12 rb12 db12
    go_upto_region 13 with (fail)
    clear q0 q1
    generalize w12.setCell ⟨D, 2, none⟩ (.int .i64 z12) = V at db13 rb13 R13 ⊢
    have hfin := Lib.hid ((((((((R13.out.set (i := 0) (v := .int .i64 z2) (Nat.le_refl _)).set (i := 1) (v := .int .i64 z3) (Nat.le_refl _)).set (i := 2) (v := .int .i64 z12) (Nat.le_refl _)).set (i := 3) (v := .int .i64 z5) (Nat.le_refl _)).set (i := 4) (v := .int .i64 z6) (Nat.le_refl _)).set (i := 5) (v := .int .i64 z7) (Nat.le_refl _)).set (i := 6) (v := .int .i64 z8) (Nat.le_refl _)).set (i := 7) (v := .int .i64 z9) (Nat.le_refl _))
    have u0 : V.cell? ⟨w.heap.size, 0, none⟩ = some (.int .i64 0) := (rb13.at_ 0 (by simp)).1
    have v0 := (rb13.at_ 0 (by simp)).2
    have p0 : V.cell? ⟨D, 0, none⟩ = some (.int .i64 z2) := (db13.at_ 0 (by simp)).1
    have u1 : V.cell? ⟨w.heap.size, 1, none⟩ = some (.int .i64 0) := (rb13.at_ 1 (by simp)).1
    have v1 := (rb13.at_ 1 (by simp)).2
    have p1 : V.cell? ⟨D, 1, none⟩ = some (.int .i64 z3) := (db13.at_ 1 (by simp)).1
    have u2 : V.cell? ⟨w.heap.size, 2, none⟩ = some (.int .i64 0) := (rb13.at_ 2 (by simp)).1
    have v2 := (rb13.at_ 2 (by simp)).2
    have p2 : V.cell? ⟨D, 2, none⟩ = some (.int .i64 z12) := (db13.at_ 2 (by simp)).1
    have u3 : V.cell? ⟨w.heap.size, 3, none⟩ = some (.int .i64 0) := (rb13.at_ 3 (by simp)).1
    have v3 := (rb13.at_ 3 (by simp)).2
    have p3 : V.cell? ⟨D, 3, none⟩ = some (.int .i64 z5) := (db13.at_ 3 (by simp)).1
    have u4 : V.cell? ⟨w.heap.size, 4, none⟩ = some (.int .i64 0) := (rb13.at_ 4 (by simp)).1
    have v4 := (rb13.at_ 4 (by simp)).2
    have p4 : V.cell? ⟨D, 4, none⟩ = some (.int .i64 z6) := (db13.at_ 4 (by simp)).1
    have u5 : V.cell? ⟨w.heap.size, 5, none⟩ = some (.int .i64 0) := (rb13.at_ 5 (by simp)).1
    have v5 := (rb13.at_ 5 (by simp)).2
    have p5 : V.cell? ⟨D, 5, none⟩ = some (.int .i64 z7) := (db13.at_ 5 (by simp)).1
    have u6 : V.cell? ⟨w.heap.size, 6, none⟩ = some (.int .i64 0) := (rb13.at_ 6 (by simp)).1
    have v6 := (rb13.at_ 6 (by simp)).2
    have p6 : V.cell? ⟨D, 6, none⟩ = some (.int .i64 z8) := (db13.at_ 6 (by simp)).1
    have u7 : V.cell? ⟨w.heap.size, 7, none⟩ = some (.int .i64 0) := (rb13.at_ 7 (by simp)).1
    have v7 := (rb13.at_ 7 (by simp)).2
    have p7 : V.cell? ⟨D, 7, none⟩ = some (.int .i64 z9) := (db13.at_ 7 (by simp)).1
    clear R13 db13 rb13
    go_wp2
    exact bodyPost_ret (v := .agg #[.int .i64 z2, .int .i64 z3, .int .i64 z12, .int .i64 z5, .int .i64 z6, .int .i64 z7, .int .i64 z8, .int .i64 z9]) (by simp [results, Try.results17, go_sem, u0, u1, u2, u3, u4, u5, u6, u7]) rfl ⟨_, _, _, _, _, _, _, _, rfl, hfin.out.mono (by omega)⟩
  have h1' : (k11 == 1) = false := by simpa using h1
  by_cases h2 : k11 = 2
  · subst h2
    go_wp2_with fail
    refine (one_any B r _ _ _ _ (-1) 65536 _ (R11.alloc _ _).rdr (by omega) (by omega) (by omega) (by have := R11.rdr.top; omega) ?_).mono ?_
    · exact made_cells _ _ _ _ _ _ rfl (by simp [Ints])
    rintro e w12 ⟨z12, rfl, x12, y12, bl12, rd12, fr12⟩
    have R12 := (R11.alloc _ _).next rd12 bl12 fr12
    have db12 := (db11.far ((Far.refl _ _).alloc _)).far fr12
    have rb12 := (rb11.far ((Far.refl _ _).alloc _)).far fr12
    clear bl12 rd12 fr12 R11 db11 rb11 x12 y12
    have db13 := db12.set 4 (by simp) z12
    have rb13 := rb12.other (i := 4) (v := .int .i64 z12) hDR
    have R13 := Lib.hid (R12.set (i := 4) (v := .int .i64 z12) hDB)
    have q0 : w12.cell? ⟨D, 4, none⟩ = some (.int .i64 z6) := (db12.at_ 4 (by simp)).1
    have q1 := (db12.at_ 4 (by simp)).2
    clear R12 rb12 db12
    go_upto_region 13 with (fail)
    clear q0 q1
    generalize w12.setCell ⟨D, 4, none⟩ (.int .i64 z12) = V at db13 rb13 R13 ⊢
    have hfin := Lib.hid ((((((((R13.out.set (i := 0) (v := .int .i64 z2) (Nat.le_refl _)).set (i := 1) (v := .int .i64 z3) (Nat.le_refl _)).set (i := 2) (v := .int .i64 z4) (Nat.le_refl _)).set (i := 3) (v := .int .i64 z5) (Nat.le_refl _)).set (i := 4) (v := .int .i64 z12) (Nat.le_refl _)).set (i := 5) (v := .int .i64 z7) (Nat.le_refl _)).set (i := 6) (v := .int .i64 z8) (Nat.le_refl _)).set (i := 7) (v := .int .i64 z9) (Nat.le_refl _))
    have u0 : V.cell? ⟨w.heap.size, 0, none⟩ = some (.int .i64 0) := (rb13.at_ 0 (by simp)).1
    have v0 := (rb13.at_ 0 (by simp)).2
    have p0 : V.cell? ⟨D, 0, none⟩ = some (.int .i64 z2) := (db13.at_ 0 (by simp)).1
    have u1 : V.cell? ⟨w.heap.size, 1, none⟩ = some (.int .i64 0) := (rb13.at_ 1 (by simp)).1
    have v1 := (rb13.at_ 1 (by simp)).2
    have p1 : V.cell? ⟨D, 1, none⟩ = some (.int .i64 z3) := (db13.at_ 1 (by simp)).1
    have u2 : V.cell? ⟨w.heap.size, 2, none⟩ = some (.int .i64 0) := (rb13.at_ 2 (by simp)).1
    have v2 := (rb13.at_ 2 (by simp)).2
    have p2 : V.cell? ⟨D, 2, none⟩ = some (.int .i64 z4) := (db13.at_ 2 (by simp)).1
    have u3 : V.cell? ⟨w.heap.size, 3, none⟩ = some (.int .i64 0) := (rb13.at_ 3 (by simp)).1
    have v3 := (rb13.at_ 3 (by simp)).2
    have p3 : V.cell? ⟨D, 3, none⟩ = some (.int .i64 z5) := (db13.at_ 3 (by simp)).1
    have u4 : V.cell? ⟨w.heap.size, 4, none⟩ = some (.int .i64 0) := (rb13.at_ 4 (by simp)).1
    have v4 := (rb13.at_ 4 (by simp)).2
    have p4 : V.cell? ⟨D, 4, none⟩ = some (.int .i64 z12) := (db13.at_ 4 (by simp)).1
    have u5 : V.cell? ⟨w.heap.size, 5, none⟩ = some (.int .i64 0) := (rb13.at_ 5 (by simp)).1
    have v5 := (rb13.at_ 5 (by simp)).2
    have p5 : V.cell? ⟨D, 5, none⟩ = some (.int .i64 z7) := (db13.at_ 5 (by simp)).1
    have u6 : V.cell? ⟨w.heap.size, 6, none⟩ = some (.int .i64 0) := (rb13.at_ 6 (by simp)).1
    have v6 := (rb13.at_ 6 (by simp)).2
    have p6 : V.cell? ⟨D, 6, none⟩ = some (.int .i64 z8) := (db13.at_ 6 (by simp)).1
    have u7 : V.cell? ⟨w.heap.size, 7, none⟩ = some (.int .i64 0) := (rb13.at_ 7 (by simp)).1
    have v7 := (rb13.at_ 7 (by simp)).2
    have p7 : V.cell? ⟨D, 7, none⟩ = some (.int .i64 z9) := (db13.at_ 7 (by simp)).1
    clear R13 db13 rb13
    go_wp2
    exact bodyPost_ret (v := .agg #[.int .i64 z2, .int .i64 z3, .int .i64 z4, .int .i64 z5, .int .i64 z12, .int .i64 z7, .int .i64 z8, .int .i64 z9]) (by simp [results, Try.results17, go_sem, u0, u1, u2, u3, u4, u5, u6, u7]) rfl ⟨_, _, _, _, _, _, _, _, rfl, hfin.out.mono (by omega)⟩
  have h2' : (k11 == 2) = false := by simpa using h2
  by_cases h3 : k11 = 3
  · subst h3
    go_wp2_with fail
    refine (one_any B r _ _ _ _ (-1) 200000001000000 _ (R11.alloc _ _).rdr (by omega) (by omega) (by omega) (by have := R11.rdr.top; omega) ?_).mono ?_
    · exact made_cells _ _ _ _ _ _ rfl (by simp [Ints])
    rintro e w12 ⟨z12, rfl, x12, y12, bl12, rd12, fr12⟩
    have R12 := (R11.alloc _ _).next rd12 bl12 fr12
    have db12 := (db11.far ((Far.refl _ _).alloc _)).far fr12
    have rb12 := (rb11.far ((Far.refl _ _).alloc _)).far fr12
    clear bl12 rd12 fr12 R11 db11 rb11 x12 y12
    have db13 := db12.set 7 (by simp) z12
    have rb13 := rb12.other (i := 7) (v := .int .i64 z12) hDR
    have R13 := Lib.hid (R12.set (i := 7) (v := .int .i64 z12) hDB)
    have q0 : w12.cell? ⟨D, 7, none⟩ = some (.int .i64 z9) := (db12.at_ 7 (by simp)).1
    have q1 := (db12.at_ 7 (by simp)).2
    clear R12 rb12 db12
    go_upto_region 13 with (fail)
    clear q0 q1
    generalize w12.setCell ⟨D, 7, none⟩ (.int .i64 z12) = V at db13 rb13 R13 ⊢
    have hfin := Lib.hid ((((((((R13.out.set (i := 0) (v := .int .i64 z2) (Nat.le_refl _)).set (i := 1) (v := .int .i64 z3) (Nat.le_refl _)).set (i := 2) (v := .int .i64 z4) (Nat.le_refl _)).set (i := 3) (v := .int .i64 z5) (Nat.le_refl _)).set (i := 4) (v := .int .i64 z6) (Nat.le_refl _)).set (i := 5) (v := .int .i64 z7) (Nat.le_refl _)).set (i := 6) (v := .int .i64 z8) (Nat.le_refl _)).set (i := 7) (v := .int .i64 z12) (Nat.le_refl _))
    have u0 : V.cell? ⟨w.heap.size, 0, none⟩ = some (.int .i64 0) := (rb13.at_ 0 (by simp)).1
    have v0 := (rb13.at_ 0 (by simp)).2
    have p0 : V.cell? ⟨D, 0, none⟩ = some (.int .i64 z2) := (db13.at_ 0 (by simp)).1
    have u1 : V.cell? ⟨w.heap.size, 1, none⟩ = some (.int .i64 0) := (rb13.at_ 1 (by simp)).1
    have v1 := (rb13.at_ 1 (by simp)).2
    have p1 : V.cell? ⟨D, 1, none⟩ = some (.int .i64 z3) := (db13.at_ 1 (by simp)).1
    have u2 : V.cell? ⟨w.heap.size, 2, none⟩ = some (.int .i64 0) := (rb13.at_ 2 (by simp)).1
    have v2 := (rb13.at_ 2 (by simp)).2
    have p2 : V.cell? ⟨D, 2, none⟩ = some (.int .i64 z4) := (db13.at_ 2 (by simp)).1
    have u3 : V.cell? ⟨w.heap.size, 3, none⟩ = some (.int .i64 0) := (rb13.at_ 3 (by simp)).1
    have v3 := (rb13.at_ 3 (by simp)).2
    have p3 : V.cell? ⟨D, 3, none⟩ = some (.int .i64 z5) := (db13.at_ 3 (by simp)).1
    have u4 : V.cell? ⟨w.heap.size, 4, none⟩ = some (.int .i64 0) := (rb13.at_ 4 (by simp)).1
    have v4 := (rb13.at_ 4 (by simp)).2
    have p4 : V.cell? ⟨D, 4, none⟩ = some (.int .i64 z6) := (db13.at_ 4 (by simp)).1
    have u5 : V.cell? ⟨w.heap.size, 5, none⟩ = some (.int .i64 0) := (rb13.at_ 5 (by simp)).1
    have v5 := (rb13.at_ 5 (by simp)).2
    have p5 : V.cell? ⟨D, 5, none⟩ = some (.int .i64 z7) := (db13.at_ 5 (by simp)).1
    have u6 : V.cell? ⟨w.heap.size, 6, none⟩ = some (.int .i64 0) := (rb13.at_ 6 (by simp)).1
    have v6 := (rb13.at_ 6 (by simp)).2
    have p6 : V.cell? ⟨D, 6, none⟩ = some (.int .i64 z8) := (db13.at_ 6 (by simp)).1
    have u7 : V.cell? ⟨w.heap.size, 7, none⟩ = some (.int .i64 0) := (rb13.at_ 7 (by simp)).1
    have v7 := (rb13.at_ 7 (by simp)).2
    have p7 : V.cell? ⟨D, 7, none⟩ = some (.int .i64 z12) := (db13.at_ 7 (by simp)).1
    clear R13 db13 rb13
    go_wp2
    exact bodyPost_ret (v := .agg #[.int .i64 z2, .int .i64 z3, .int .i64 z4, .int .i64 z5, .int .i64 z6, .int .i64 z7, .int .i64 z8, .int .i64 z12]) (by simp [results, Try.results17, go_sem, u0, u1, u2, u3, u4, u5, u6, u7]) rfl ⟨_, _, _, _, _, _, _, _, rfl, hfin.out.mono (by omega)⟩
  have h3' : (k11 == 3) = false := by simpa using h3
  by_cases h4 : k11 = 4
  · subst h4
    go_wp2_with fail
    refine (one_any B r _ _ _ _ (-1) 18 _ (R11.alloc _ _).rdr (by omega) (by omega) (by omega) (by have := R11.rdr.top; omega) ?_).mono ?_
    · exact made_cells _ _ _ _ _ _ rfl (by simp [Ints])
    rintro e w12 ⟨z12, rfl, x12, y12, bl12, rd12, fr12⟩
    have R12 := (R11.alloc _ _).next rd12 bl12 fr12
    have db12 := (db11.far ((Far.refl _ _).alloc _)).far fr12
    have rb12 := (rb11.far ((Far.refl _ _).alloc _)).far fr12
    clear bl12 rd12 fr12 R11 db11 rb11 x12 y12
    have db13 := db12.set 3 (by simp) z12
    have rb13 := rb12.other (i := 3) (v := .int .i64 z12) hDR
    have R13 := Lib.hid (R12.set (i := 3) (v := .int .i64 z12) hDB)
    have q0 : w12.cell? ⟨D, 3, none⟩ = some (.int .i64 z5) := (db12.at_ 3 (by simp)).1
    have q1 := (db12.at_ 3 (by simp)).2
    clear R12 rb12 db12
    go_upto_region 13 with (fail)
    clear q0 q1
    generalize w12.setCell ⟨D, 3, none⟩ (.int .i64 z12) = V at db13 rb13 R13 ⊢
    have hfin := Lib.hid ((((((((R13.out.set (i := 0) (v := .int .i64 z2) (Nat.le_refl _)).set (i := 1) (v := .int .i64 z3) (Nat.le_refl _)).set (i := 2) (v := .int .i64 z4) (Nat.le_refl _)).set (i := 3) (v := .int .i64 z12) (Nat.le_refl _)).set (i := 4) (v := .int .i64 z6) (Nat.le_refl _)).set (i := 5) (v := .int .i64 z7) (Nat.le_refl _)).set (i := 6) (v := .int .i64 z8) (Nat.le_refl _)).set (i := 7) (v := .int .i64 z9) (Nat.le_refl _))
    have u0 : V.cell? ⟨w.heap.size, 0, none⟩ = some (.int .i64 0) := (rb13.at_ 0 (by simp)).1
    have v0 := (rb13.at_ 0 (by simp)).2
    have p0 : V.cell? ⟨D, 0, none⟩ = some (.int .i64 z2) := (db13.at_ 0 (by simp)).1
    have u1 : V.cell? ⟨w.heap.size, 1, none⟩ = some (.int .i64 0) := (rb13.at_ 1 (by simp)).1
    have v1 := (rb13.at_ 1 (by simp)).2
    have p1 : V.cell? ⟨D, 1, none⟩ = some (.int .i64 z3) := (db13.at_ 1 (by simp)).1
    have u2 : V.cell? ⟨w.heap.size, 2, none⟩ = some (.int .i64 0) := (rb13.at_ 2 (by simp)).1
    have v2 := (rb13.at_ 2 (by simp)).2
    have p2 : V.cell? ⟨D, 2, none⟩ = some (.int .i64 z4) := (db13.at_ 2 (by simp)).1
    have u3 : V.cell? ⟨w.heap.size, 3, none⟩ = some (.int .i64 0) := (rb13.at_ 3 (by simp)).1
    have v3 := (rb13.at_ 3 (by simp)).2
    have p3 : V.cell? ⟨D, 3, none⟩ = some (.int .i64 z12) := (db13.at_ 3 (by simp)).1
    have u4 : V.cell? ⟨w.heap.size, 4, none⟩ = some (.int .i64 0) := (rb13.at_ 4 (by simp)).1
    have v4 := (rb13.at_ 4 (by simp)).2
    have p4 : V.cell? ⟨D, 4, none⟩ = some (.int .i64 z6) := (db13.at_ 4 (by simp)).1
    have u5 : V.cell? ⟨w.heap.size, 5, none⟩ = some (.int .i64 0) := (rb13.at_ 5 (by simp)).1
    have v5 := (rb13.at_ 5 (by simp)).2
    have p5 : V.cell? ⟨D, 5, none⟩ = some (.int .i64 z7) := (db13.at_ 5 (by simp)).1
    have u6 : V.cell? ⟨w.heap.size, 6, none⟩ = some (.int .i64 0) := (rb13.at_ 6 (by simp)).1
    have v6 := (rb13.at_ 6 (by simp)).2
    have p6 : V.cell? ⟨D, 6, none⟩ = some (.int .i64 z8) := (db13.at_ 6 (by simp)).1
    have u7 : V.cell? ⟨w.heap.size, 7, none⟩ = some (.int .i64 0) := (rb13.at_ 7 (by simp)).1
    have v7 := (rb13.at_ 7 (by simp)).2
    have p7 : V.cell? ⟨D, 7, none⟩ = some (.int .i64 z9) := (db13.at_ 7 (by simp)).1
    clear R13 db13 rb13
    go_wp2
    exact bodyPost_ret (v := .agg #[.int .i64 z2, .int .i64 z3, .int .i64 z4, .int .i64 z12, .int .i64 z6, .int .i64 z7, .int .i64 z8, .int .i64 z9]) (by simp [results, Try.results17, go_sem, u0, u1, u2, u3, u4, u5, u6, u7]) rfl ⟨_, _, _, _, _, _, _, _, rfl, hfin.out.mono (by omega)⟩
  have h4' : (k11 == 4) = false := by simpa using h4
  have R13 := Lib.hid R11
  have db13 := db11
  have rb13 := rb11
  clear R11 db11 rb11 h0 h1 h2 h3 h4
  have hfin := Lib.hid ((((((((R13.out.set (i := 0) (v := .int .i64 z2) (Nat.le_refl _)).set (i := 1) (v := .int .i64 z3) (Nat.le_refl _)).set (i := 2) (v := .int .i64 z4) (Nat.le_refl _)).set (i := 3) (v := .int .i64 z5) (Nat.le_refl _)).set (i := 4) (v := .int .i64 z6) (Nat.le_refl _)).set (i := 5) (v := .int .i64 z7) (Nat.le_refl _)).set (i := 6) (v := .int .i64 z8) (Nat.le_refl _)).set (i := 7) (v := .int .i64 z9) (Nat.le_refl _))
  have u0 : w11.cell? ⟨w.heap.size, 0, none⟩ = some (.int .i64 0) := (rb13.at_ 0 (by simp)).1
  have v0 := (rb13.at_ 0 (by simp)).2
  have p0 : w11.cell? ⟨D, 0, none⟩ = some (.int .i64 z2) := (db13.at_ 0 (by simp)).1
  have u1 : w11.cell? ⟨w.heap.size, 1, none⟩ = some (.int .i64 0) := (rb13.at_ 1 (by simp)).1
  have v1 := (rb13.at_ 1 (by simp)).2
  have p1 : w11.cell? ⟨D, 1, none⟩ = some (.int .i64 z3) := (db13.at_ 1 (by simp)).1
  have u2 : w11.cell? ⟨w.heap.size, 2, none⟩ = some (.int .i64 0) := (rb13.at_ 2 (by simp)).1
  have v2 := (rb13.at_ 2 (by simp)).2
  have p2 : w11.cell? ⟨D, 2, none⟩ = some (.int .i64 z4) := (db13.at_ 2 (by simp)).1
  have u3 : w11.cell? ⟨w.heap.size, 3, none⟩ = some (.int .i64 0) := (rb13.at_ 3 (by simp)).1
  have v3 := (rb13.at_ 3 (by simp)).2
  have p3 : w11.cell? ⟨D, 3, none⟩ = some (.int .i64 z5) := (db13.at_ 3 (by simp)).1
  have u4 : w11.cell? ⟨w.heap.size, 4, none⟩ = some (.int .i64 0) := (rb13.at_ 4 (by simp)).1
  have v4 := (rb13.at_ 4 (by simp)).2
  have p4 : w11.cell? ⟨D, 4, none⟩ = some (.int .i64 z6) := (db13.at_ 4 (by simp)).1
  have u5 : w11.cell? ⟨w.heap.size, 5, none⟩ = some (.int .i64 0) := (rb13.at_ 5 (by simp)).1
  have v5 := (rb13.at_ 5 (by simp)).2
  have p5 : w11.cell? ⟨D, 5, none⟩ = some (.int .i64 z7) := (db13.at_ 5 (by simp)).1
  have u6 : w11.cell? ⟨w.heap.size, 6, none⟩ = some (.int .i64 0) := (rb13.at_ 6 (by simp)).1
  have v6 := (rb13.at_ 6 (by simp)).2
  have p6 : w11.cell? ⟨D, 6, none⟩ = some (.int .i64 z8) := (db13.at_ 6 (by simp)).1
  have u7 : w11.cell? ⟨w.heap.size, 7, none⟩ = some (.int .i64 0) := (rb13.at_ 7 (by simp)).1
  have v7 := (rb13.at_ 7 (by simp)).2
  have p7 : w11.cell? ⟨D, 7, none⟩ = some (.int .i64 z9) := (db13.at_ 7 (by simp)).1
  clear R13 db13 rb13
  go_wp2
  exact bodyPost_ret (v := .agg #[.int .i64 z2, .int .i64 z3, .int .i64 z4, .int .i64 z5, .int .i64 z6, .int .i64 z7, .int .i64 z8, .int .i64 z9]) (by simp [results, Try.results17, go_sem, u0, u1, u2, u3, u4, u5, u6, u7]) rfl ⟨_, _, _, _, _, _, _, _, rfl, hfin.out.mono (by omega)⟩
/-- Some packet out of a code. -/
def FromPk (w : World) (e : Ending) (w' : World) : Prop := ∃ a b c d e' f g h : Int, e = .returned (.agg #[.int .i64 a, .int .i64 b, .int .i64 c, .int .i64 d, .int .i64 e', .int .i64 f, .int .i64 g, .int .i64 h]) ∧ Below w.heap.size w w'
theorem Code.laterP {w w' : World} {a : Option Addr} {len : Nat} (h : Code w a len) (hb : Below w.heap.size w w') : Code w' a len := by
  refine ⟨h.1, h.2.1, fun n hn => ?_⟩
  rcases h.2.2 n hn with h0 | ⟨b, off, e, hlt, hall⟩
  · exact .inl h0
  · refine .inr ⟨b, off, e, Nat.lt_of_lt_of_le hlt hb.size, fun i hi => ?_⟩
    obtain ⟨k, k0, k1, kc⟩ := hall i hi
    exact ⟨k, k0, k1, (hb.cell (p := ⟨b, off + i, none⟩) hlt).trans kc⟩
set_option maxHeartbeats 2000000 in
theorem DrawFormatPacket_any (w : World) (a : Option Addr) (len cap : Nat) (h : Code w a len) (hcap : len ≤ cap) : Calls Try.prog 6 #[.slice a len cap] w (FromPk w) := by
  have Z := (Below.refl w.heap.size w).alloc (Nat.le_refl _) (.cells #[.int .i64 0, .int .i64 0, .int .i64 0, .int .i64 0, .int .i64 0, .int .i64 0, .int .i64 0, .int .i64 0] 24)
  have zc : ∀ i, i < 8 → (w.alloc (.cells #[.int .i64 0, .int .i64 0, .int .i64 0, .int .i64 0, .int .i64 0, .int .i64 0, .int .i64 0, .int .i64 0] 24)).cell? ⟨w.heap.size, i, none⟩ = some (.int .i64 0) ∧ (w.alloc (.cells #[.int .i64 0, .int .i64 0, .int .i64 0, .int .i64 0, .int .i64 0, .int .i64 0, .int .i64 0, .int .i64 0] 24)).frozen? ⟨w.heap.size, i, none⟩ = false := fun i hi => by
    have B := BoxN.new (w := w) (r := w.heap.size + 1) [0, 0, 0, 0, 0, 0, 0, 0] 24
    rcases (by omega : i = 0 ∨ i = 1 ∨ i = 2 ∨ i = 3 ∨ i = 4 ∨ i = 5 ∨ i = 6 ∨ i = 7) with rfl | rfl | rfl | rfl | rfl | rfl | rfl | rfl <;> exact ⟨by simp, by simp⟩
  have h1 := h.laterP Z
  have hz : w.heap.size < (w.alloc (.cells #[.int .i64 0, .int .i64 0, .int .i64 0, .int .i64 0, .int .i64 0, .int .i64 0, .int .i64 0, .int .i64 0] 24)).heap.size := by simp
  go_enter Try.func6, Try.ntmps6
  go_wp2_with fail
  refine (newReader_any _ a len cap h1 hcap).mono ?_
  rintro e w1 ⟨rfl, bl1, rd1⟩
  have zc1 : ∀ i, i < 8 → w1.cell? ⟨w.heap.size, i, none⟩ = some (.int .i64 0) ∧ w1.frozen? ⟨w.heap.size, i, none⟩ = false := fun i hi => ⟨(bl1.cell (p := ⟨w.heap.size, i, none⟩) hz).trans (zc i hi).1, (bl1.frozen (p := ⟨w.heap.size, i, none⟩) hz).trans (zc i hi).2⟩
  have b1 := Z.trans (bl1.mono Z.size)
  clear zc bl1 h1 Z
  have hRB : w.heap.size < (w.alloc (Obj.cells #[.int .i64 0, .int .i64 0, .int .i64 0, .int .i64 0, .int .i64 0, .int .i64 0, .int .i64 0, .int .i64 0] 24)).heap.size := hz
  generalize (w.alloc (Obj.cells #[.int .i64 0, .int .i64 0, .int .i64 0, .int .i64 0, .int .i64 0, .int .i64 0, .int .i64 0, .int .i64 0] 24)).heap.size = r at rd1 hRB ⊢
  clear hz
  go_wp2_with fail
  refine (anyPacket_any _ _ _ _ rd1 (by omega)).mono ?_
  rintro e w2 ⟨za, zb, zd, ze, zf, zg, zh, zi, rfl, R⟩
  have zc2 : ∀ i, i < 8 → w2.cell? ⟨w.heap.size, i, none⟩ = some (.int .i64 0) ∧ w2.frozen? ⟨w.heap.size, i, none⟩ = false := fun i hi => ⟨(R.bel.cell (p := ⟨w.heap.size, i, none⟩) hRB).trans (zc1 i hi).1, (R.bel.frozen (p := ⟨w.heap.size, i, none⟩) hRB).trans (zc1 i hi).2⟩
  have b2 := b1.trans (R.bel.mono (by omega))
  have u0 := (zc2 0 (by omega)).1
  have v0 := (zc2 0 (by omega)).2
  have u1 := (zc2 1 (by omega)).1
  have v1 := (zc2 1 (by omega)).2
  have u2 := (zc2 2 (by omega)).1
  have v2 := (zc2 2 (by omega)).2
  have u3 := (zc2 3 (by omega)).1
  have v3 := (zc2 3 (by omega)).2
  have u4 := (zc2 4 (by omega)).1
  have v4 := (zc2 4 (by omega)).2
  have u5 := (zc2 5 (by omega)).1
  have v5 := (zc2 5 (by omega)).2
  have u6 := (zc2 6 (by omega)).1
  have v6 := (zc2 6 (by omega)).2
  have u7 := (zc2 7 (by omega)).1
  have v7 := (zc2 7 (by omega)).2
  have HZ := Lib.hid ((((((((b2.setCell (p := ⟨w.heap.size, 0, none⟩) (Nat.le_refl _) (.int .i64 za)).setCell (p := ⟨w.heap.size, 1, none⟩) (Nat.le_refl _) (.int .i64 zb)).setCell (p := ⟨w.heap.size, 2, none⟩) (Nat.le_refl _) (.int .i64 zd)).setCell (p := ⟨w.heap.size, 3, none⟩) (Nat.le_refl _) (.int .i64 ze)).setCell (p := ⟨w.heap.size, 4, none⟩) (Nat.le_refl _) (.int .i64 zf)).setCell (p := ⟨w.heap.size, 5, none⟩) (Nat.le_refl _) (.int .i64 zg)).setCell (p := ⟨w.heap.size, 6, none⟩) (Nat.le_refl _) (.int .i64 zh)).setCell (p := ⟨w.heap.size, 7, none⟩) (Nat.le_refl _) (.int .i64 zi))
  clear zc1 R rd1 zc2 b1 b2
  go_wp2
  exact bodyPost_ret (v := .agg #[.int .i64 za, .int .i64 zb, .int .i64 zd, .int .i64 ze, .int .i64 zf, .int .i64 zg, .int .i64 zh, .int .i64 zi]) (by simp [results, Try.results6, go_sem, u0, u1, u2, u3, u4, u5, u6, u7]) rfl ⟨za, zb, zd, ze, zf, zg, zh, zi, rfl, HZ.out⟩
end Go.Proofs.Ytegkmdinnkbkiaa
