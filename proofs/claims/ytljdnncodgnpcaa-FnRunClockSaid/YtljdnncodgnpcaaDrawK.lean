/-
  The generators of clocks: some clock of moderate numbers, and nothing that was there has changed. Condition: the code has at most 1048576 bytes.
-/
import Derived.Test.YtljdnncodgnpcaaDraw
import Derived.Test.YtljdnncodgnpcaaClock
import Derived.Deep.Cut
namespace Go.Proofs.Ytljdnncodgnpcaa
open Go.RowKit
set_option linter.unusedVariables false
set_option maxRecDepth 100000
/-- A block of three numbers that is not the reader's. -/
structure BoxK (w : World) (r b : Nat) (x y z : Int) : Prop where
  ne : b ≠ r
  top : b < w.heap.size
  c0 : w.cell? ⟨b, 0, none⟩ = some (.int .i64 x)
  c1 : w.cell? ⟨b, 1, none⟩ = some (.int .i64 y)
  c2 : w.cell? ⟨b, 2, none⟩ = some (.int .i64 z)
  f0 : w.frozen? ⟨b, 0, none⟩ = false
  f1 : w.frozen? ⟨b, 1, none⟩ = false
  f2 : w.frozen? ⟨b, 2, none⟩ = false
theorem BoxK.far {w w' : World} {r b : Nat} {x y z : Int} (h : BoxK w r b x y z) (f : Far w r w') : BoxK w' r b x y z :=
  ⟨h.ne, Nat.lt_of_lt_of_le h.top f.size, (f.cell b 0 h.top h.ne).trans h.c0, (f.cell b 1 h.top h.ne).trans h.c1, (f.cell b 2 h.top h.ne).trans h.c2,
    (f.frozen b 0 h.top h.ne).trans h.f0, (f.frozen b 1 h.top h.ne).trans h.f1, (f.frozen b 2 h.top h.ne).trans h.f2⟩
theorem BoxK.new {w : World} {r : Nat} (x y z : Int) (t : TypeId) (h : r < w.heap.size) : BoxK (w.alloc (.cells #[.int .i64 x, .int .i64 y, .int .i64 z] t)) r w.heap.size x y z :=
  ⟨by omega, by simp, by simp, by simp, by simp, by simp, by simp, by simp⟩
theorem BoxK.other {w : World} {r b b' i : Nat} {x y z : Int} {v : Value} (h : BoxK w r b x y z) (hb : b' ≠ b) : BoxK (w.setCell ⟨b', i, none⟩ v) r b x y z := by
  have hoth : ∀ o, (w.setCell ⟨b', i, none⟩ v).cell? ⟨b, o, none⟩ = w.cell? ⟨b, o, none⟩ := fun o => World.cell?_setCell_other _ _ _ _ (fun e => hb (by injection e))
  exact ⟨h.ne, by simpa using h.top, (hoth 0).trans h.c0, (hoth 1).trans h.c1, (hoth 2).trans h.c2, by simpa using h.f0, by simpa using h.f1, by simpa using h.f2⟩
theorem BoxK.set {w : World} {r b : Nat} {x y z : Int} (h : BoxK w r b x y z) (x' y' z' : Int) : BoxK (((w.setCell ⟨b, 0, none⟩ (.int .i64 x')).setCell ⟨b, 1, none⟩ (.int .i64 y')).setCell ⟨b, 2, none⟩ (.int .i64 z')) r b x' y' z' := by
  have a0 := World.cell?_setCell_same w ⟨b, 0, none⟩ (.int .i64 x') h.c0
  have a1 : (w.setCell ⟨b, 0, none⟩ (.int .i64 x')).cell? ⟨b, 1, none⟩ = _ := (World.cell?_setCell_other _ _ _ _ (by simp)).trans h.c1
  have a2 : (w.setCell ⟨b, 0, none⟩ (.int .i64 x')).cell? ⟨b, 2, none⟩ = _ := (World.cell?_setCell_other _ _ _ _ (by simp)).trans h.c2
  refine ⟨h.ne, by simpa using h.top, ?_, ?_, ?_, by simpa using h.f0, by simpa using h.f1, by simpa using h.f2⟩
  · exact (World.cell?_setCell_other _ _ _ _ (by simp)).trans ((World.cell?_setCell_other _ _ _ _ (by simp)).trans a0)
  · exact (World.cell?_setCell_other _ _ _ _ (by simp)).trans (World.cell?_setCell_same _ _ _ a1)
  · exact World.cell?_setCell_same _ _ _ ((World.cell?_setCell_other _ _ _ _ (by simp)).trans a2)
/-- A reader, and what it has done so far. -/
structure RK (B : Nat) (w0 w : World) (r m : Nat) : Prop where
  rdr : Rdr B w r m
  bel : Below B w0 w
  far : Far w0 r w
  lo : B ≤ w0.heap.size
  lr : r < w0.heap.size
section
variable {B r m m' : Nat} {w0 w w' : World}
theorem RK.mk0 (h : Rdr B w r m) : RK B w w r m := ⟨h, Below.refl _ _, Far.refl _ _, h.le, h.top⟩
theorem RK.next (h : RK B w0 w r m) (rd : Rdr B w' r m') (bl : Below B w w') (fr : Far w r w') : RK B w0 w' r m' := ⟨rd, h.bel.trans bl, h.far.trans fr, h.lo, h.lr⟩
theorem RK.alloc (h : RK B w0 w r m) (c : Array Value) (t : TypeId) : RK B w0 (w.alloc (.cells c t)) r m := h.next (h.rdr.alloc c t) ((Below.refl _ _).alloc h.rdr.le _) ((Far.refl _ _).alloc _)
theorem RK.step (h : RK B w0 w r m) (st : Step B w r m' w') : RK B w0 w' r m' := h.next st.rdr st.bel st.far
theorem RK.mono (h : RK B w0 w r m) (hm : m ≤ m') : RK B w0 w r m' := { h with rdr := h.rdr.mono hm }
theorem RK.drew (h : RK B w0 w r m) : RK B w0 w.drew r m := h.next h.rdr.drew ((Below.refl _ _).drew) ⟨Nat.le_refl _, fun _ _ _ => rfl⟩
theorem Far.setK {a w : World} {b i : Nat} {v : Value} (h : Far a r w) (hb : a.heap.size ≤ b) : Far a r (w.setCell ⟨b, i, none⟩ v) :=
  have k : Below a.heap.size w (w.setCell ⟨b, i, none⟩ v) := (Below.refl a.heap.size w).setCell (p := ⟨b, i, none⟩) hb v
  ⟨Nat.le_trans h.size k.size, fun i hi hr => (k.block i hi).trans (h.block i hi hr)⟩
theorem RK.set {b i : Nat} {v : Value} (h : RK B w0 w r m) (hb : w0.heap.size ≤ b) : RK B w0 (w.setCell ⟨b, i, none⟩ v) r m := by
  have hl := h.lo
  have hr := h.lr
  refine ⟨?_, h.bel.setCell (p := ⟨b, i, none⟩) (show B ≤ b by omega) v, h.far.setK hb, h.lo, h.lr⟩
  obtain ⟨a, t, c, ⟨p, hp, hp2⟩, x, len, cap, hx, hl', hcode⟩ := h.rdr
  have hoth : ∀ k o, k ≠ b → (w.setCell ⟨b, i, none⟩ v).cell? ⟨k, o, none⟩ = w.cell? ⟨k, o, none⟩ := fun k o hk => World.cell?_setCell_other _ _ _ _ (fun e => hk (by injection e with e1; exact e1.symm))
  refine ⟨a, by simpa using t, by simpa using c, ⟨p, hp, (hoth _ _ (by omega)).trans hp2⟩, x, len, cap, (hoth _ _ (by omega)).trans hx, hl', ?_⟩
  rcases hcode with h0 | ⟨cb, off, rfl, hlt, hall⟩
  · exact .inl h0
  · refine .inr ⟨cb, off, rfl, hlt, fun j hj => ?_⟩
    obtain ⟨n, h0, h1, h2⟩ := hall j hj
    exact ⟨n, h0, h1, (hoth _ _ (by omega)).trans h2⟩
end
theorem offK_any (B r m : Nat) (w : World) (h : Rdr B w r m) (hm : m ≤ 1000) : Calls Try.prog 68 #[.pointer (some ⟨r, 0, none⟩)] w (Num B w r (m + 2) (-1000000) 1000000) := by
  go_enter Try.func68, Try.ntmps68
  go_wp2_with fail
  refine (pick_any B r _ _ _ h (by omega)).mono ?_
  rintro e w1 ⟨k1, rfl, a1, b1, st1⟩
  have c1 : k1 ≤ 250 := by omega
  clear b1
  go_wp2_with fail
  refine (one_any B r _ _ _ _ (-1000000) 1000000 _ (st1.rdr.alloc _ _) (by omega) (by omega) (by omega) (by have := st1.rdr.top; omega) ?_).mono ?_
  · exact made_cells _ _ _ _ _ _ rfl (by simp [Ints] <;> omega)
  rintro e w2 ⟨z2, rfl, x2, y2, bl2, rd2, fr2⟩
  have T := Lib.hid (And.intro ((st1.bel.alloc st1.rdr.le _).trans bl2) (And.intro rd2 ((st1.far.alloc _).trans fr2)))
  clear bl2 rd2 fr2 st1
  go_wp2
  go_ret
  exact ⟨z2, rfl, x2, y2, T.out⟩
theorem anyOffK_any (B r m : Nat) (w : World) (h : Rdr B w r m) (hm : m ≤ 900) : Calls Try.prog 63 #[.pointer (some ⟨r, 0, none⟩)] w (Num B w r (m + 3) (-1000001) 1000001) := by
  go_enter Try.func63, Try.ntmps63
  go_wp2_with fail
  refine (pick_any B r _ _ _ h (by omega)).mono ?_
  rintro e w1 ⟨k1, rfl, a1, b1, st1⟩
  clear b1
  by_cases h0 : k1 = 0
  · subst h0
    go_wp2_with fail
    refine (one_any B r _ _ _ _ (-1000001) 1000001 _ (st1.rdr.alloc _ _) (by omega) (by omega) (by omega) (by have := st1.rdr.top; omega) ?_).mono ?_
    · exact made_cells _ _ _ _ _ _ rfl (by simp [Ints])
    rintro e w2 ⟨z2, rfl, x2, y2, bl2, rd2, fr2⟩
    have T := Lib.hid (And.intro ((st1.bel.alloc st1.rdr.le _).trans bl2) (And.intro (rd2.mono (show _ ≤ m + 3 by omega)) ((st1.far.alloc _).trans fr2)))
    clear bl2 rd2 fr2 st1
    go_wp2
    go_ret
    exact ⟨z2, rfl, x2, y2, T.out⟩
  · have h0' : (k1 == 0) = false := by simpa using h0
    clear h0
    go_wp2_with fail
    refine (offK_any B r _ _ st1.rdr (by omega)).mono ?_
    rintro e w2 ⟨z2, rfl, x2, y2, bl2, rd2, fr2⟩
    have T := Lib.hid (And.intro (st1.bel.trans bl2) (And.intro (rd2.mono (show _ ≤ m + 3 by omega)) (st1.far.trans fr2)))
    clear bl2 rd2 fr2 st1
    go_wp2
    go_ret
    exact ⟨z2, rfl, by omega, by omega, T.out⟩
/-- Some clock of moderate numbers. -/
def AnyC (B : Nat) (w : World) (r m : Nat) (e : Ending) (w' : World) : Prop := ∃ o p a : Int, e = .returned (.agg #[.int .i64 o, .int .i64 p, .int .i64 a]) ∧ (-1000001 ≤ o ∧ o ≤ 1000001) ∧ (-500001 ≤ p ∧ p ≤ 500001) ∧ (-1 ≤ a ∧ a ≤ 3786479999) ∧ RK B w w' r m
set_option maxHeartbeats 4000000 in
theorem anyClock_any (B r m : Nat) (w : World) (h : Rdr B w r m) (hm : m ≤ 500) : Calls Try.prog 46 #[.pointer (some ⟨r, 0, none⟩)] w (AnyC B w r (m + 20)) := by
  have rb : BoxK (w.alloc (.cells #[.int .i64 0, .int .i64 0, .int .i64 0] 24)) r w.heap.size 0 0 0 := BoxK.new 0 0 0 _ h.top
  have R1 := (RK.mk0 h).alloc #[.int .i64 0, .int .i64 0, .int .i64 0] 24
  go_enter Try.func46, Try.ntmps46
  go_wp2_with fail
  refine (offK_any B r _ _ R1.rdr (by omega)).mono ?_
  rintro e w2 ⟨z2, rfl, x2, y2, bl2, rd2, fr2⟩
  have R2 := R1.next rd2 bl2 fr2
  have rb2 := rb.far fr2
  clear bl2 rd2 fr2 R1 rb
  go_wp2_with fail
  refine (one_any B r _ _ _ _ (-500000) 500000 _ (R2.rdr.alloc _ _) (by omega) (by omega) (by omega) (by have := R2.rdr.top; omega) ?_).mono ?_
  · exact made_cells _ _ _ _ _ _ rfl (by simp [Ints])
  rintro e w3 ⟨z3, rfl, x3, y3, bl3, rd3, fr3⟩
  have R3 := (R2.alloc _ _).next rd3 bl3 fr3
  have rb3 := (rb2.far ((Far.refl _ _).alloc _)).far fr3
  clear bl3 rd3 fr3 R2 rb2
  go_wp2_with fail
  refine (pick_any B r _ _ _ R3.rdr (by omega)).mono ?_
  rintro e w4 ⟨k4, rfl, a4, b4, st4⟩
  have c4 : k4 ≤ 100 := by omega
  have R4 := R3.step st4
  have rb4 := rb3.far st4.far
  clear b4 st4 R3 rb3
  have db : BoxK (w4.alloc (.cells #[.int .i64 z2, .int .i64 z3, .int .i64 (1000 * k4)] 24)) r w4.heap.size z2 z3 (1000 * k4) := BoxK.new _ _ _ _ R4.rdr.top
  have rb5 := rb4.far ((Far.refl _ _).alloc (.cells #[.int .i64 z2, .int .i64 z3, .int .i64 (1000 * k4)] 24))
  have R5 := R4.alloc #[.int .i64 z2, .int .i64 z3, .int .i64 (1000 * k4)] 24
  have hDR : w4.heap.size ≠ w.heap.size := by have := rb4.top; omega
  have hDB : w.heap.size ≤ w4.heap.size := R4.far.size
  clear R4 rb4
  go_wp2_with fail
  generalize w4.alloc (.cells #[.int .i64 z2, .int .i64 z3, .int .i64 (1000 * k4)] 24) = W at db rb5 R5 ⊢
  generalize w4.heap.size = D at db hDR hDB ⊢
  refine (pick_any B r _ _ _ R5.rdr (by omega)).mono ?_
  rintro e w6 ⟨k6, rfl, a6, b6, st6⟩
  have R6 := R5.step st6
  have db6 := db.far st6.far
  have rb6 := rb5.far st6.far
  clear b6 st6 R5 db rb5
  by_cases h0 : k6 = 0
  · subst h0
    go_wp2_with fail
    refine (anyOffK_any B r _ _ R6.rdr (by omega)).mono ?_
    rintro e w7 ⟨z7, rfl, x7, y7, bl7, rd7, fr7⟩
    have R7 := R6.next rd7 bl7 fr7
    have db7 := db6.far fr7
    have rb7 := rb6.far fr7
    clear bl7 rd7 fr7 R6 db6 rb6
    go_wp2_with fail
    refine (one_any B r _ _ _ _ 0 500001 _ (R7.rdr.alloc _ _) (by omega) (by omega) (by omega) (by have := R7.rdr.top; omega) ?_).mono ?_
    · exact made_cells _ _ _ _ _ _ rfl (by simp [Ints])
    rintro e w8 ⟨z8, rfl, x8, y8, bl8, rd8, fr8⟩
    have R8 := (R7.alloc _ _).next rd8 bl8 fr8
    have db8 := (db7.far ((Far.refl _ _).alloc _)).far fr8
    have rb8 := (rb7.far ((Far.refl _ _).alloc _)).far fr8
    clear bl8 rd8 fr8 R7 db7 rb7
    go_wp2_with fail
    refine (one_any B r _ _ _ _ (-1) 3786479999 _ (R8.rdr.alloc _ _) (by omega) (by omega) (by omega) (by have := R8.rdr.top; omega) ?_).mono ?_
    · exact made_cells _ _ _ _ _ _ rfl (by simp [Ints])
    rintro e w9 ⟨z9, rfl, x9, y9, bl9, rd9, fr9⟩
    have R9 := (R8.alloc _ _).next rd9 bl9 fr9
    have db9 := (db8.far ((Far.refl _ _).alloc _)).far fr9
    have rb9 := (rb8.far ((Far.refl _ _).alloc _)).far fr9
    clear bl9 rd9 fr9 R8 db8 rb8
    have db10 := db9.set z7 z8 z9
    have rb10 := ((rb9.other (i := 0) (v := .int .i64 z7) hDR).other (i := 1) (v := .int .i64 z8) hDR).other (i := 2) (v := .int .i64 z9) hDR
    have R10 := Lib.hid (((R9.set (i := 0) (v := .int .i64 z7) hDB).set (i := 1) (v := .int .i64 z8) hDB).set (i := 2) (v := .int .i64 z9) hDB)
    have p0 := db9.c0
    have p1 := db9.c1
    have p2 := db9.c2
    have q0 := db9.f0
    have q1 := db9.f1
    have q2 := db9.f2
    clear R9 rb9
    go_upto_region 4 with (fail)
    clear p0 p1 p2 q0 q1 q2 db9
    generalize ((w9.setCell ⟨D, 0, none⟩ (.int .i64 z7)).setCell ⟨D, 1, none⟩ (.int .i64 z8)).setCell ⟨D, 2, none⟩ (.int .i64 z9) = V at db10 rb10 R10 ⊢
    have hfin := Lib.hid ((R10.out.set (i := 0) (v := .int .i64 (z7)) (Nat.le_refl _)).set (i := 1) (v := .int .i64 (z8)) (Nat.le_refl _) |>.set (i := 2) (v := .int .i64 (z9)) (Nat.le_refl _))
    have u0 := rb10.c0
    have u1 := rb10.c1
    have u2 := rb10.c2
    have v0 := rb10.f0
    have v1 := rb10.f1
    have v2 := rb10.f2
    have p0 := db10.c0
    have p1 := db10.c1
    have p2 := db10.c2
    clear R10
    go_wp2
    exact bodyPost_ret (v := .agg #[.int .i64 (z7), .int .i64 (z8), .int .i64 (z9)]) (by simp [results, Try.results46, go_sem, u0, u1, u2]) rfl ⟨_, _, _, rfl, by omega, by omega, by omega, hfin.out.mono (by omega)⟩
  · have h0' : (k6 == 0) = false := by simpa using h0
    clear h0
    have R10 := Lib.hid R6
    have db10 := db6
    have rb10 := rb6
    clear R6 db6 rb6
    have hfin := Lib.hid ((R10.out.set (i := 0) (v := .int .i64 (z2)) (Nat.le_refl _)).set (i := 1) (v := .int .i64 (z3)) (Nat.le_refl _) |>.set (i := 2) (v := .int .i64 (1000 * k4)) (Nat.le_refl _))
    have u0 := rb10.c0
    have u1 := rb10.c1
    have u2 := rb10.c2
    have v0 := rb10.f0
    have v1 := rb10.f1
    have v2 := rb10.f2
    have p0 := db10.c0
    have p1 := db10.c1
    have p2 := db10.c2
    clear R10
    go_wp2
    exact bodyPost_ret (v := .agg #[.int .i64 (z2), .int .i64 (z3), .int .i64 (1000 * k4)]) (by simp [results, Try.results46, go_sem, u0, u1, u2]) rfl ⟨_, _, _, rfl, by omega, by omega, by omega, hfin.out.mono (by omega)⟩
end Go.Proofs.Ytljdnncodgnpcaa
