/-
  What the generator of dates returns: a date of moderate numbers, and nothing that was there has changed. Condition: the code has at most 1048576 bytes.
-/
import Derived.Test.YtopaglepkpblaaaDoorDraw
namespace Go.Proofs.YtopaglepkpblaaaDoor
open Go.RowKit
set_option linter.unusedVariables false
/-- A block of three numbers that is not the reader's. -/
structure Box (w : World) (r b : Nat) (x y z : Int) : Prop where
  ne : b ≠ r
  top : b < w.heap.size
  c0 : w.cell? ⟨b, 0, none⟩ = some (.int .i64 x)
  c1 : w.cell? ⟨b, 1, none⟩ = some (.int .i64 y)
  c2 : w.cell? ⟨b, 2, none⟩ = some (.int .i64 z)
  f0 : w.frozen? ⟨b, 0, none⟩ = false
  f1 : w.frozen? ⟨b, 1, none⟩ = false
  f2 : w.frozen? ⟨b, 2, none⟩ = false
theorem Box.far {w w' : World} {r b : Nat} {x y z : Int} (h : Box w r b x y z) (f : Far w r w') : Box w' r b x y z :=
  ⟨h.ne, Nat.lt_of_lt_of_le h.top f.size, (f.cell b 0 h.top h.ne).trans h.c0, (f.cell b 1 h.top h.ne).trans h.c1, (f.cell b 2 h.top h.ne).trans h.c2,
    (f.frozen b 0 h.top h.ne).trans h.f0, (f.frozen b 1 h.top h.ne).trans h.f1, (f.frozen b 2 h.top h.ne).trans h.f2⟩
theorem Box.new {w : World} {r : Nat} (x y z : Int) (t : TypeId) (h : r < w.heap.size) : Box (w.alloc (.cells #[.int .i64 x, .int .i64 y, .int .i64 z] t)) r w.heap.size x y z :=
  ⟨by omega, by simp, by simp, by simp, by simp, by simp, by simp, by simp⟩
theorem Rdr.set {B : Nat} {w : World} {r m b i : Nat} {v : Value} (h : Rdr B w r m) (hb : b ≠ r) (hB : B ≤ b) : Rdr B (w.setCell ⟨b, i, none⟩ v) r m := by
  obtain ⟨a, t, c, ⟨p, hp, hp2⟩, x, len, cap, hx, hl, hcode⟩ := h
  have hoth : ∀ k o, k ≠ b → (w.setCell ⟨b, i, none⟩ v).cell? ⟨k, o, none⟩ = w.cell? ⟨k, o, none⟩ := fun k o hk => World.cell?_setCell_other _ _ _ _ (fun e => hk (by injection e with e1; exact e1.symm))
  refine ⟨a, by simpa using t, by simpa using c, ⟨p, hp, (hoth _ _ (Ne.symm hb)).trans hp2⟩, x, len, cap, (hoth _ _ (Ne.symm hb)).trans hx, hl, ?_⟩
  rcases hcode with h0 | ⟨cb, off, rfl, hlt, hall⟩
  · exact .inl h0
  · refine .inr ⟨cb, off, rfl, hlt, fun j hj => ?_⟩
    obtain ⟨n, h0, h1, h2⟩ := hall j hj
    exact ⟨n, h0, h1, (hoth _ _ (by omega)).trans h2⟩
theorem Box.other {w : World} {r b b' i : Nat} {x y z : Int} {v : Value} (h : Box w r b x y z) (hb : b' ≠ b) : Box (w.setCell ⟨b', i, none⟩ v) r b x y z := by
  have hoth : ∀ o, (w.setCell ⟨b', i, none⟩ v).cell? ⟨b, o, none⟩ = w.cell? ⟨b, o, none⟩ := fun o => World.cell?_setCell_other _ _ _ _ (fun e => hb (by injection e))
  exact ⟨h.ne, by simpa using h.top, (hoth 0).trans h.c0, (hoth 1).trans h.c1, (hoth 2).trans h.c2, by simpa using h.f0, by simpa using h.f1, by simpa using h.f2⟩
theorem Box.set1 {w : World} {r b : Nat} {x y z : Int} (h : Box w r b x y z) (v : Int) : Box (w.setCell ⟨b, 1, none⟩ (.int .i64 v)) r b x v z :=
  ⟨h.ne, by simpa using h.top, (World.cell?_setCell_other _ _ _ _ (by simp)).trans h.c0, World.cell?_setCell_same _ _ _ h.c1, (World.cell?_setCell_other _ _ _ _ (by simp)).trans h.c2, by simpa using h.f0, by simpa using h.f1, by simpa using h.f2⟩
theorem Box.set2 {w : World} {r b : Nat} {x y z : Int} (h : Box w r b x y z) (v : Int) : Box (w.setCell ⟨b, 2, none⟩ (.int .i64 v)) r b x y v :=
  ⟨h.ne, by simpa using h.top, (World.cell?_setCell_other _ _ _ _ (by simp)).trans h.c0, (World.cell?_setCell_other _ _ _ _ (by simp)).trans h.c1, World.cell?_setCell_same _ _ _ h.c2, by simpa using h.f0, by simpa using h.f1, by simpa using h.f2⟩
def Date3 (B : Nat) (w : World) (e : Ending) (w' : World) : Prop := ∃ x y z : Int, e = .returned (.agg #[.int .i64 x, .int .i64 y, .int .i64 z]) ∧ (-10000000000 ≤ x ∧ x ≤ 10000000000) ∧ (-10000000000 ≤ y ∧ y ≤ 10000000000) ∧ (-10000000000 ≤ z ∧ z ≤ 10000000000) ∧ Below B w w'
set_option maxHeartbeats 4000000 in
theorem someDate_any (B r m : Nat) (w : World) (h : Rdr B w r m) (hm : m ≤ 1000) : Calls Tryd.prog 43 #[.pointer (some ⟨r, 0, none⟩)] w (Date3 B w) := by
  have rb : Box (w.alloc (.cells #[.int .i64 0, .int .i64 0, .int .i64 0] 24)) r w.heap.size 0 0 0 := Box.new 0 0 0 _ h.top
  have bb : Below B w (w.alloc (.cells #[.int .i64 0, .int .i64 0, .int .i64 0] 24)) := (Below.refl _ _).alloc h.le _
  go_enter Tryd.func43, Tryd.ntmps43
  go_wp2_with fail
  refine (pick_any B r _ _ _ (h.alloc _ _) (by omega)).mono ?_
  rintro e w1 ⟨k1, rfl, a1, b1, st1⟩
  have c1 : k1 ≤ 250 := by omega
  clear b1
  go_wp2_with fail
  refine (pick_any B r _ _ _ st1.rdr (by omega)).mono ?_
  rintro e w2 ⟨k2, rfl, a2, b2, st2⟩
  have c2 : k2 ≤ 250 := by omega
  clear b2
  go_wp2_with fail
  refine (pick_any B r _ _ _ st2.rdr (by omega)).mono ?_
  rintro e w3 ⟨k3, rfl, a3, b3, st3⟩
  have c3 : k3 ≤ 250 := by omega
  clear b3
  have f3 := (st1.far.trans st2.far).trans st3.far
  have rb3 := rb.far f3
  have bb3 : Below B w w3 := bb.trans ((st1.bel.trans st2.bel).trans st3.bel)
  have rd3 := st3.rdr
  clear st1 st2 st3 f3 rb bb
  go_wp2_with fail
  have db : Box (w3.alloc (.cells #[.int .i64 (1980 + k1), .int .i64 (1 + k2), .int .i64 (1 + k3)] 24)) r w3.heap.size (1980 + k1) (1 + k2) (1 + k3) := Box.new _ _ _ _ rd3.top
  have rb4 := rb3.far ((Far.refl _ _).alloc (.cells #[.int .i64 (1980 + k1), .int .i64 (1 + k2), .int .i64 (1 + k3)] 24))
  have bb4 := bb3.alloc rd3.le (.cells #[.int .i64 (1980 + k1), .int .i64 (1 + k2), .int .i64 (1 + k3)] 24)
  have rd4 := rd3.alloc #[.int .i64 (1980 + k1), .int .i64 (1 + k2), .int .i64 (1 + k3)] 24
  have hD : w3.heap.size ≠ w.heap.size := by have := rb3.top; omega
  have hDB : B ≤ w3.heap.size := rd3.le
  have hRB : B ≤ w.heap.size := h.le
  generalize w3.alloc (.cells #[.int .i64 (1980 + k1), .int .i64 (1 + k2), .int .i64 (1 + k3)] 24) = W at db rb4 bb4 rd4 ⊢
  generalize w3.heap.size = D at db hD hDB ⊢
  generalize w.heap.size = R at rb4 hD hRB ⊢
  refine (pick_any B r _ _ _ rd4 (by omega)).mono ?_
  rintro e w5 ⟨k5, rfl, a5, b5, st5⟩
  have db5 := db.far st5.far
  have rb5 := rb4.far st5.far
  have bb5 := bb4.trans st5.bel
  have rd5 := st5.rdr
  clear b5 st5 db rb4 bb4 rd4
  by_cases h0 : k5 = 0
  · subst h0
    go_wp2_with fail
    refine (one_any B r _ _ _ _ (-10000000000) 10000000000 _ (rd5.alloc _ _) (by omega) (by omega) (by omega) (by have := rd5.top; omega) ?_).mono ?_
    · exact made_cells _ _ _ _ _ _ rfl (by simp [Ints] <;> omega)
    rintro e w6 ⟨z6, rfl, x6, y6, bl6, rd6, fr6⟩
    have ff := (((Far.refl _ _).alloc _).trans fr6)
    have dbS := (db5.far ff).set2 z6
    have rbS := (rb5.far ff).other (i := 2) (v := .int .i64 z6) hD
    have bbS := ((bb5.alloc rd5.le _).trans bl6).setCell (p := ⟨D, 2, none⟩) hDB (.int .i64 z6)
    have rdS := rd6.set (i := 2) (v := .int .i64 z6) dbS.ne hDB
    have q0 := (db5.far ff).c2
    have q1 := (db5.far ff).f2
    clear ff fr6 bl6 rd6 rd5 db5 rb5 bb5
    go_wp2_with fail
    refine (pick_any B r _ _ _ rdS (by omega)).mono ?_
    rintro e w7 ⟨k7, rfl, a7, b7, st7⟩
    have db7 := dbS.far st7.far
    have rb7 := rbS.far st7.far
    have bb7 := bbS.trans st7.bel
    have rd7 := st7.rdr
    clear b7 st7
    by_cases h7 : k7 = 0
    · subst h7
      go_wp2_with fail
      refine (someYear_any B r _ _ rd7 (by omega)).mono ?_
      rintro e w8 ⟨z8, rfl, x8, y8, bl8, rd8, fr8⟩
      go_wp2_with fail
      refine (one_any B r _ _ _ _ (-10000000000) 10000000000 _ (rd8.alloc _ _) (by omega) (by omega) (by omega) (by have := rd8.top; omega) ?_).mono ?_
      · exact made_cells _ _ _ _ _ _ rfl (by simp [Ints] <;> omega)
      rintro e w9 ⟨z9, rfl, x9, y9, bl9, rd9, fr9⟩
      go_wp2_with fail
      refine (one_any B r _ _ _ _ (-10000000000) 10000000000 _ (rd9.alloc _ _) (by omega) (by omega) (by omega) (by have := rd9.top; omega) ?_).mono ?_
      · exact made_cells _ _ _ _ _ _ rfl (by simp [Ints] <;> omega)
      rintro e w10 ⟨z10, rfl, x10, y10, bl10, rd10, fr10⟩
      have ff := ((fr8.trans (((Far.refl _ _).alloc _).trans fr9)).trans (((Far.refl _ _).alloc _).trans fr10))
      have dbZ := db7.far ff
      have rbZ := rb7.far ff
      have bbZ := ((((bb7.trans bl8).alloc rd8.le _).trans bl9).alloc rd9.le _).trans bl10
      clear ff fr8 fr9 fr10 bl8 bl9 bl10 db7 rb7 bb7 rd7 rd8 rd9 rd10
      obtain ⟨n0, t0, e0, e1, e2, g0, g1, g2⟩ := rbZ
      obtain ⟨n3, t3, e3, e4, e5, g3, g4, g5⟩ := dbZ
      have hRD : R ≠ D := Ne.symm hD
      clear t0 t3 n0 n3
      go_wp2
      exact bodyPost_ret (v := .agg #[.int .i64 z8, .int .i64 z9, .int .i64 z10]) (by simp [results, Tryd.results43, go_sem, *]) rfl ⟨_, _, _, rfl, ⟨by omega, by omega⟩, ⟨by omega, by omega⟩, ⟨by omega, by omega⟩, (((((bbZ.setCell hDB _).setCell hDB _).setCell hDB _).setCell hRB _).setCell hRB _).setCell hRB _⟩
    · have h7' : (k7 == 0) = false := by simpa using h7
      clear h7
      have dbZ := db7
      have rbZ := rb7
      have bbZ := bb7
      clear db7 rb7 bb7 rd7
      obtain ⟨n0, t0, e0, e1, e2, g0, g1, g2⟩ := rbZ
      obtain ⟨n3, t3, e3, e4, e5, g3, g4, g5⟩ := dbZ
      have hRD : R ≠ D := Ne.symm hD
      clear t0 t3 n0 n3
      go_wp2
      exact bodyPost_ret (v := .agg #[.int .i64 (1980 + k1), .int .i64 (1 + k2), .int .i64 z6]) (by simp [results, Tryd.results43, go_sem, *]) rfl ⟨_, _, _, rfl, ⟨by omega, by omega⟩, ⟨by omega, by omega⟩, ⟨by omega, by omega⟩, ((bbZ.setCell hRB _).setCell hRB _).setCell hRB _⟩
  have h0' : (k5 == 0) = false := by simpa using h0
  by_cases h1 : k5 = 1
  · subst h1
    go_wp2_with fail
    refine (one_any B r _ _ _ _ (-10000000000) 10000000000 _ (rd5.alloc _ _) (by omega) (by omega) (by omega) (by have := rd5.top; omega) ?_).mono ?_
    · exact made_cells _ _ _ _ _ _ rfl (by simp [Ints] <;> omega)
    rintro e w6 ⟨z6, rfl, x6, y6, bl6, rd6, fr6⟩
    have ff := (((Far.refl _ _).alloc _).trans fr6)
    have dbS := (db5.far ff).set1 z6
    have rbS := (rb5.far ff).other (i := 1) (v := .int .i64 z6) hD
    have bbS := ((bb5.alloc rd5.le _).trans bl6).setCell (p := ⟨D, 1, none⟩) hDB (.int .i64 z6)
    have rdS := rd6.set (i := 1) (v := .int .i64 z6) dbS.ne hDB
    have q0 := (db5.far ff).c1
    have q1 := (db5.far ff).f1
    clear ff fr6 bl6 rd6 rd5 db5 rb5 bb5
    go_wp2_with fail
    have hsz : w6.heap.size = (w6.setCell ⟨D, 1, none⟩ (.int .i64 z6)).heap.size := by simp
    rw [hsz]
    clear hsz
    generalize w6.setCell ⟨D, 1, none⟩ (.int .i64 z6) = V6 at dbS rbS bbS rdS ⊢
    refine (one_any B r _ _ _ _ (-10000000000) 10000000000 _ (rdS.alloc _ _) (by omega) (by omega) (by omega) (by have := rdS.top; omega) ?_).mono ?_
    · exact made_cells _ _ _ _ _ _ rfl (by simp [Ints] <;> omega)
    rintro e w11 ⟨z11, rfl, x11, y11, bl11, rd11, fr11⟩
    have ff := (((Far.refl _ _).alloc _).trans fr11)
    have dbT := (dbS.far ff).set2 z11
    have rbT := (rbS.far ff).other (i := 2) (v := .int .i64 z11) hD
    have bbT := ((bbS.alloc rdS.le _).trans bl11).setCell (p := ⟨D, 2, none⟩) hDB (.int .i64 z11)
    have rdT := rd11.set (i := 2) (v := .int .i64 z11) dbT.ne hDB
    have p0 := (dbS.far ff).c2
    have p1 := (dbS.far ff).f2
    clear ff fr11 bl11 rd11 rdS dbS rbS bbS q0 q1
    go_wp2_with fail
    refine (pick_any B r _ _ _ rdT (by omega)).mono ?_
    rintro e w7 ⟨k7, rfl, a7, b7, st7⟩
    have db7 := dbT.far st7.far
    have rb7 := rbT.far st7.far
    have bb7 := bbT.trans st7.bel
    have rd7 := st7.rdr
    clear b7 st7
    by_cases h7 : k7 = 0
    · subst h7
      go_wp2_with fail
      refine (someYear_any B r _ _ rd7 (by omega)).mono ?_
      rintro e w8 ⟨z8, rfl, x8, y8, bl8, rd8, fr8⟩
      go_wp2_with fail
      refine (one_any B r _ _ _ _ (-10000000000) 10000000000 _ (rd8.alloc _ _) (by omega) (by omega) (by omega) (by have := rd8.top; omega) ?_).mono ?_
      · exact made_cells _ _ _ _ _ _ rfl (by simp [Ints] <;> omega)
      rintro e w9 ⟨z9, rfl, x9, y9, bl9, rd9, fr9⟩
      go_wp2_with fail
      refine (one_any B r _ _ _ _ (-10000000000) 10000000000 _ (rd9.alloc _ _) (by omega) (by omega) (by omega) (by have := rd9.top; omega) ?_).mono ?_
      · exact made_cells _ _ _ _ _ _ rfl (by simp [Ints] <;> omega)
      rintro e w10 ⟨z10, rfl, x10, y10, bl10, rd10, fr10⟩
      have ff := ((fr8.trans (((Far.refl _ _).alloc _).trans fr9)).trans (((Far.refl _ _).alloc _).trans fr10))
      have dbZ := db7.far ff
      have rbZ := rb7.far ff
      have bbZ := ((((bb7.trans bl8).alloc rd8.le _).trans bl9).alloc rd9.le _).trans bl10
      clear ff fr8 fr9 fr10 bl8 bl9 bl10 db7 rb7 bb7 rd7 rd8 rd9 rd10
      obtain ⟨n0, t0, e0, e1, e2, g0, g1, g2⟩ := rbZ
      obtain ⟨n3, t3, e3, e4, e5, g3, g4, g5⟩ := dbZ
      have hRD : R ≠ D := Ne.symm hD
      clear t0 t3 n0 n3
      go_wp2
      exact bodyPost_ret (v := .agg #[.int .i64 z8, .int .i64 z9, .int .i64 z10]) (by simp [results, Tryd.results43, go_sem, *]) rfl ⟨_, _, _, rfl, ⟨by omega, by omega⟩, ⟨by omega, by omega⟩, ⟨by omega, by omega⟩, (((((bbZ.setCell hDB _).setCell hDB _).setCell hDB _).setCell hRB _).setCell hRB _).setCell hRB _⟩
    · have h7' : (k7 == 0) = false := by simpa using h7
      clear h7
      have dbZ := db7
      have rbZ := rb7
      have bbZ := bb7
      clear db7 rb7 bb7 rd7
      obtain ⟨n0, t0, e0, e1, e2, g0, g1, g2⟩ := rbZ
      obtain ⟨n3, t3, e3, e4, e5, g3, g4, g5⟩ := dbZ
      have hRD : R ≠ D := Ne.symm hD
      clear t0 t3 n0 n3
      go_wp2
      exact bodyPost_ret (v := .agg #[.int .i64 (1980 + k1), .int .i64 z6, .int .i64 z11]) (by simp [results, Tryd.results43, go_sem, *]) rfl ⟨_, _, _, rfl, ⟨by omega, by omega⟩, ⟨by omega, by omega⟩, ⟨by omega, by omega⟩, ((bbZ.setCell hRB _).setCell hRB _).setCell hRB _⟩
  have h1' : (k5 == 1) = false := by simpa using h1
  clear h0 h1
  go_wp2_with fail
  refine (pick_any B r _ _ _ rd5 (by omega)).mono ?_
  rintro e w7 ⟨k7, rfl, a7, b7, st7⟩
  have db7 := db5.far st7.far
  have rb7 := rb5.far st7.far
  have bb7 := bb5.trans st7.bel
  have rd7 := st7.rdr
  clear b7 st7
  by_cases h7 : k7 = 0
  · subst h7
    go_wp2_with fail
    refine (someYear_any B r _ _ rd7 (by omega)).mono ?_
    rintro e w8 ⟨z8, rfl, x8, y8, bl8, rd8, fr8⟩
    go_wp2_with fail
    refine (one_any B r _ _ _ _ (-10000000000) 10000000000 _ (rd8.alloc _ _) (by omega) (by omega) (by omega) (by have := rd8.top; omega) ?_).mono ?_
    · exact made_cells _ _ _ _ _ _ rfl (by simp [Ints] <;> omega)
    rintro e w9 ⟨z9, rfl, x9, y9, bl9, rd9, fr9⟩
    go_wp2_with fail
    refine (one_any B r _ _ _ _ (-10000000000) 10000000000 _ (rd9.alloc _ _) (by omega) (by omega) (by omega) (by have := rd9.top; omega) ?_).mono ?_
    · exact made_cells _ _ _ _ _ _ rfl (by simp [Ints] <;> omega)
    rintro e w10 ⟨z10, rfl, x10, y10, bl10, rd10, fr10⟩
    have ff := ((fr8.trans (((Far.refl _ _).alloc _).trans fr9)).trans (((Far.refl _ _).alloc _).trans fr10))
    have dbZ := db7.far ff
    have rbZ := rb7.far ff
    have bbZ := ((((bb7.trans bl8).alloc rd8.le _).trans bl9).alloc rd9.le _).trans bl10
    clear ff fr8 fr9 fr10 bl8 bl9 bl10 db7 rb7 bb7 rd7 rd8 rd9 rd10
    obtain ⟨n0, t0, e0, e1, e2, g0, g1, g2⟩ := rbZ
    obtain ⟨n3, t3, e3, e4, e5, g3, g4, g5⟩ := dbZ
    have hRD : R ≠ D := Ne.symm hD
    clear t0 t3 n0 n3
    go_wp2
    exact bodyPost_ret (v := .agg #[.int .i64 z8, .int .i64 z9, .int .i64 z10]) (by simp [results, Tryd.results43, go_sem, *]) rfl ⟨_, _, _, rfl, ⟨by omega, by omega⟩, ⟨by omega, by omega⟩, ⟨by omega, by omega⟩, (((((bbZ.setCell hDB _).setCell hDB _).setCell hDB _).setCell hRB _).setCell hRB _).setCell hRB _⟩
  · have h7' : (k7 == 0) = false := by simpa using h7
    clear h7
    have dbZ := db7
    have rbZ := rb7
    have bbZ := bb7
    clear db7 rb7 bb7 rd7
    obtain ⟨n0, t0, e0, e1, e2, g0, g1, g2⟩ := rbZ
    obtain ⟨n3, t3, e3, e4, e5, g3, g4, g5⟩ := dbZ
    have hRD : R ≠ D := Ne.symm hD
    clear t0 t3 n0 n3
    go_wp2
    exact bodyPost_ret (v := .agg #[.int .i64 (1980 + k1), .int .i64 (1 + k2), .int .i64 (1 + k3)]) (by simp [results, Tryd.results43, go_sem, *]) rfl ⟨_, _, _, rfl, ⟨by omega, by omega⟩, ⟨by omega, by omega⟩, ⟨by omega, by omega⟩, ((bbZ.setCell hRB _).setCell hRB _).setCell hRB _⟩
end Go.Proofs.YtopaglepkpblaaaDoor
