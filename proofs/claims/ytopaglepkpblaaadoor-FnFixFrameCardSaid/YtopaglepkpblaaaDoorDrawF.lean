/-
  What the generators of fixes return: moderate numbers, and nothing that was there has changed. Condition: the code has at most 1048576 bytes.
-/
import Derived.Test.YtopaglepkpblaaaDoorDrawD
namespace Go.Proofs.YtopaglepkpblaaaDoor
open Go.RowKit
set_option linter.unusedVariables false
theorem Far.set {a w : World} {r b i : Nat} {v : Value} (h : Far a r w) (hb : a.heap.size ≤ b) : Far a r (w.setCell ⟨b, i, none⟩ v) := ⟨by simpa using h.size, fun k hk hr => (Below.heap_setCell _ _ _ _ (by simp only; omega)).trans (h.block k hk hr)⟩
def DateR (B r m : Nat) (w : World) (e : Ending) (w' : World) : Prop := ∃ x y z : Int, e = .returned (.agg #[.int .i64 x, .int .i64 y, .int .i64 z]) ∧ (-10000000000 ≤ x ∧ x ≤ 10000000000) ∧ (-10000000000 ≤ y ∧ y ≤ 10000000000) ∧ (-10000000000 ≤ z ∧ z ≤ 10000000000) ∧ Below B w w' ∧ Rdr B w' r m ∧ Far w r w'
set_option maxHeartbeats 4000000 in
theorem someDate_rd (B r m : Nat) (w : World) (h : Rdr B w r m) (hm : m ≤ 1000) : Calls Tryd.prog 43 #[.pointer (some ⟨r, 0, none⟩)] w (DateR B r (m + 30) w) := by
  have rb : Box (w.alloc (.cells #[.int .i64 0, .int .i64 0, .int .i64 0] 24)) r w.heap.size 0 0 0 := Box.new 0 0 0 _ h.top
  have bb : Below B w (w.alloc (.cells #[.int .i64 0, .int .i64 0, .int .i64 0] 24)) := (Below.refl _ _).alloc h.le _
  have fw : Far w r (w.alloc (.cells #[.int .i64 0, .int .i64 0, .int .i64 0] 24)) := (Far.refl _ _).alloc _
  go_enter Tryd.func43, Tryd.ntmps43
  go_wp2_with fail
  refine (pick_any B r _ _ _ (h.alloc _ _) (by omega)).mono ?_
  rintro e w1 ⟨k1, rfl, a1, b1, st1⟩
  have c1 : k1 ≤ 250 := by omega
  clear b1
  go_wp2_with fail
  refine (pick_any B r _ _ _ st1.rdr (by omega)).mono ?_
  rintro e w2 ⟨k2, rfl, a2, b2, st2⟩
  have c2 : k2 ≤ 250 := by omega
  clear b2
  go_wp2_with fail
  refine (pick_any B r _ _ _ st2.rdr (by omega)).mono ?_
  rintro e w3 ⟨k3, rfl, a3, b3, st3⟩
  have c3 : k3 ≤ 250 := by omega
  clear b3
  have f3 := (st1.far.trans st2.far).trans st3.far
  have rb3 := rb.far f3
  have bb3 : Below B w w3 := bb.trans ((st1.bel.trans st2.bel).trans st3.bel)
  have fw3 := fw.trans f3
  have rd3 := st3.rdr
  clear st1 st2 st3 f3 rb bb
  go_wp2_with fail
  have db : Box (w3.alloc (.cells #[.int .i64 (1980 + k1), .int .i64 (1 + k2), .int .i64 (1 + k3)] 24)) r w3.heap.size (1980 + k1) (1 + k2) (1 + k3) := Box.new _ _ _ _ rd3.top
  have rb4 := rb3.far ((Far.refl _ _).alloc (.cells #[.int .i64 (1980 + k1), .int .i64 (1 + k2), .int .i64 (1 + k3)] 24))
  have bb4 := bb3.alloc rd3.le (.cells #[.int .i64 (1980 + k1), .int .i64 (1 + k2), .int .i64 (1 + k3)] 24)
  have fw4 := fw3.alloc (.cells #[.int .i64 (1980 + k1), .int .i64 (1 + k2), .int .i64 (1 + k3)] 24)
  have rd4 := rd3.alloc #[.int .i64 (1980 + k1), .int .i64 (1 + k2), .int .i64 (1 + k3)] 24
  have hD : w3.heap.size ≠ w.heap.size := by have := rb3.top; omega
  have hDB : B ≤ w3.heap.size := rd3.le
  have hRB : B ≤ w.heap.size := h.le
  generalize w3.alloc (.cells #[.int .i64 (1980 + k1), .int .i64 (1 + k2), .int .i64 (1 + k3)] 24) = W at db rb4 bb4 rd4 fw4 ⊢
  have hDW : w.heap.size ≤ w3.heap.size := by have := rb3.top; omega
  generalize w3.heap.size = D at db hD hDB hDW ⊢
  have hRW : ∃ R, R = w.heap.size := ⟨_, rfl⟩
  obtain ⟨R, hR⟩ := hRW
  rw [← hR] at rb4 hD hRB ⊢
  have HF := Lib.hid (And.intro hDW (show w.heap.size ≤ R by omega))
  clear hDW hR
  refine (pick_any B r _ _ _ rd4 (by omega)).mono ?_
  rintro e w5 ⟨k5, rfl, a5, b5, st5⟩
  have db5 := db.far st5.far
  have rb5 := rb4.far st5.far
  have bb5 := bb4.trans st5.bel
  have fw5 := fw4.trans st5.far
  have rd5 := st5.rdr
  clear b5 st5 db rb4 bb4 rd4
  by_cases h0 : k5 = 0
  · subst h0
    go_wp2_with fail
    refine (one_any B r _ _ _ _ (-10000000000) 10000000000 _ (rd5.alloc _ _) (by omega) (by omega) (by omega) (by have := rd5.top; omega) ?_).mono ?_
    · exact made_cells _ _ _ _ _ _ rfl (by simp [Ints] <;> omega)
    rintro e w6 ⟨z6, rfl, x6, y6, bl6, rd6, fr6⟩
    have ff := (((Far.refl _ _).alloc _).trans fr6)
    have dbS := (db5.far ff).set2 z6
    have rbS := (rb5.far ff).other (i := 2) (v := .int .i64 z6) hD
    have bbS := ((bb5.alloc rd5.le _).trans bl6).setCell (p := ⟨D, 2, none⟩) hDB (.int .i64 z6)
    have fwS := (fw5.trans ff).set (i := 2) (v := .int .i64 z6) HF.out.1
    have rdS := rd6.set (i := 2) (v := .int .i64 z6) dbS.ne hDB
    have q0 := (db5.far ff).c2
    have q1 := (db5.far ff).f2
    clear ff fr6 bl6 rd6 rd5 db5 rb5 bb5
    go_wp2_with fail
    refine (pick_any B r _ _ _ rdS (by omega)).mono ?_
    rintro e w7 ⟨k7, rfl, a7, b7, st7⟩
    have db7 := dbS.far st7.far
    have rb7 := rbS.far st7.far
    have bb7 := bbS.trans st7.bel
    have fw7 := fwS.trans st7.far
    have rd7 := st7.rdr
    clear b7 st7
    by_cases h7 : k7 = 0
    · subst h7
      go_wp2_with fail
      refine (someYear_any B r _ _ rd7 (by omega)).mono ?_
      rintro e w8 ⟨z8, rfl, x8, y8, bl8, rd8, fr8⟩
      go_wp2_with fail
      refine (one_any B r _ _ _ _ (-10000000000) 10000000000 _ (rd8.alloc _ _) (by omega) (by omega) (by omega) (by have := rd8.top; omega) ?_).mono ?_
      · exact made_cells _ _ _ _ _ _ rfl (by simp [Ints] <;> omega)
      rintro e w9 ⟨z9, rfl, x9, y9, bl9, rd9, fr9⟩
      go_wp2_with fail
      refine (one_any B r _ _ _ _ (-10000000000) 10000000000 _ (rd9.alloc _ _) (by omega) (by omega) (by omega) (by have := rd9.top; omega) ?_).mono ?_
      · exact made_cells _ _ _ _ _ _ rfl (by simp [Ints] <;> omega)
      rintro e w10 ⟨z10, rfl, x10, y10, bl10, rd10, fr10⟩
      have ff := ((fr8.trans (((Far.refl _ _).alloc _).trans fr9)).trans (((Far.refl _ _).alloc _).trans fr10))
      have dbZ := db7.far ff
      have rbZ := rb7.far ff
      have bbZ := ((((bb7.trans bl8).alloc rd8.le _).trans bl9).alloc rd9.le _).trans bl10
      have fwZ := fw7.trans ff
      have RZ := Lib.hid rd10
      clear ff fr8 fr9 fr10 bl8 bl9 bl10 db7 rb7 bb7 rd7 rd8 rd9 rd10
      obtain ⟨n0, t0, e0, e1, e2, g0, g1, g2⟩ := rbZ
      obtain ⟨n3, t3, e3, e4, e5, g3, g4, g5⟩ := dbZ
      have hRD : R ≠ D := Ne.symm hD
      clear t0 t3
      go_wp2
      exact bodyPost_ret (v := .agg #[.int .i64 z8, .int .i64 z9, .int .i64 z10]) (by simp [results, Tryd.results43, go_sem, *]) rfl ⟨_, _, _, rfl, ⟨by omega, by omega⟩, ⟨by omega, by omega⟩, ⟨by omega, by omega⟩, (((((bbZ.setCell hDB _).setCell hDB _).setCell hDB _).setCell hRB _).setCell hRB _).setCell hRB _, (((((((RZ.out.set n3 hDB).set n3 hDB).set n3 hDB).set n0 hRB).set n0 hRB).set n0 hRB)).mono (by omega), (((((fwZ.set HF.out.1).set HF.out.1).set HF.out.1).set HF.out.2).set HF.out.2).set HF.out.2⟩
    · have h7' : (k7 == 0) = false := by simpa using h7
      clear h7
      have dbZ := db7
      have rbZ := rb7
      have bbZ := bb7
      have fwZ := fw7
      have RZ := Lib.hid rd7
      clear db7 rb7 bb7 rd7
      obtain ⟨n0, t0, e0, e1, e2, g0, g1, g2⟩ := rbZ
      obtain ⟨n3, t3, e3, e4, e5, g3, g4, g5⟩ := dbZ
      have hRD : R ≠ D := Ne.symm hD
      clear t0 t3
      go_wp2
      exact bodyPost_ret (v := .agg #[.int .i64 (1980 + k1), .int .i64 (1 + k2), .int .i64 z6]) (by simp [results, Tryd.results43, go_sem, *]) rfl ⟨_, _, _, rfl, ⟨by omega, by omega⟩, ⟨by omega, by omega⟩, ⟨by omega, by omega⟩, ((bbZ.setCell hRB _).setCell hRB _).setCell hRB _, (((RZ.out.set n0 hRB).set n0 hRB).set n0 hRB).mono (by omega), ((fwZ.set HF.out.2).set HF.out.2).set HF.out.2⟩
  have h0' : (k5 == 0) = false := by simpa using h0
  by_cases h1 : k5 = 1
  · subst h1
    go_wp2_with fail
    refine (one_any B r _ _ _ _ (-10000000000) 10000000000 _ (rd5.alloc _ _) (by omega) (by omega) (by omega) (by have := rd5.top; omega) ?_).mono ?_
    · exact made_cells _ _ _ _ _ _ rfl (by simp [Ints] <;> omega)
    rintro e w6 ⟨z6, rfl, x6, y6, bl6, rd6, fr6⟩
    have ff := (((Far.refl _ _).alloc _).trans fr6)
    have dbS := (db5.far ff).set1 z6
    have rbS := (rb5.far ff).other (i := 1) (v := .int .i64 z6) hD
    have bbS := ((bb5.alloc rd5.le _).trans bl6).setCell (p := ⟨D, 1, none⟩) hDB (.int .i64 z6)
    have fwS := (fw5.trans ff).set (i := 1) (v := .int .i64 z6) HF.out.1
    have rdS := rd6.set (i := 1) (v := .int .i64 z6) dbS.ne hDB
    have q0 := (db5.far ff).c1
    have q1 := (db5.far ff).f1
    clear ff fr6 bl6 rd6 rd5 db5 rb5 bb5
    go_wp2_with fail
    have hsz : w6.heap.size = (w6.setCell ⟨D, 1, none⟩ (.int .i64 z6)).heap.size := by simp
    rw [hsz]
    clear hsz
    generalize w6.setCell ⟨D, 1, none⟩ (.int .i64 z6) = V6 at dbS rbS bbS rdS fwS ⊢
    refine (one_any B r _ _ _ _ (-10000000000) 10000000000 _ (rdS.alloc _ _) (by omega) (by omega) (by omega) (by have := rdS.top; omega) ?_).mono ?_
    · exact made_cells _ _ _ _ _ _ rfl (by simp [Ints] <;> omega)
    rintro e w11 ⟨z11, rfl, x11, y11, bl11, rd11, fr11⟩
    have ff := (((Far.refl _ _).alloc _).trans fr11)
    have dbT := (dbS.far ff).set2 z11
    have rbT := (rbS.far ff).other (i := 2) (v := .int .i64 z11) hD
    have bbT := ((bbS.alloc rdS.le _).trans bl11).setCell (p := ⟨D, 2, none⟩) hDB (.int .i64 z11)
    have fwT := (fwS.trans ff).set (i := 2) (v := .int .i64 z11) HF.out.1
    have rdT := rd11.set (i := 2) (v := .int .i64 z11) dbT.ne hDB
    have p0 := (dbS.far ff).c2
    have p1 := (dbS.far ff).f2
    clear ff fr11 bl11 rd11 rdS dbS rbS bbS q0 q1
    go_wp2_with fail
    refine (pick_any B r _ _ _ rdT (by omega)).mono ?_
    rintro e w7 ⟨k7, rfl, a7, b7, st7⟩
    have db7 := dbT.far st7.far
    have rb7 := rbT.far st7.far
    have bb7 := bbT.trans st7.bel
    have fw7 := fwT.trans st7.far
    have rd7 := st7.rdr
    clear b7 st7
    by_cases h7 : k7 = 0
    · subst h7
      go_wp2_with fail
      refine (someYear_any B r _ _ rd7 (by omega)).mono ?_
      rintro e w8 ⟨z8, rfl, x8, y8, bl8, rd8, fr8⟩
      go_wp2_with fail
      refine (one_any B r _ _ _ _ (-10000000000) 10000000000 _ (rd8.alloc _ _) (by omega) (by omega) (by omega) (by have := rd8.top; omega) ?_).mono ?_
      · exact made_cells _ _ _ _ _ _ rfl (by simp [Ints] <;> omega)
      rintro e w9 ⟨z9, rfl, x9, y9, bl9, rd9, fr9⟩
      go_wp2_with fail
      refine (one_any B r _ _ _ _ (-10000000000) 10000000000 _ (rd9.alloc _ _) (by omega) (by omega) (by omega) (by have := rd9.top; omega) ?_).mono ?_
      · exact made_cells _ _ _ _ _ _ rfl (by simp [Ints] <;> omega)
      rintro e w10 ⟨z10, rfl, x10, y10, bl10, rd10, fr10⟩
      have ff := ((fr8.trans (((Far.refl _ _).alloc _).trans fr9)).trans (((Far.refl _ _).alloc _).trans fr10))
      have dbZ := db7.far ff
      have rbZ := rb7.far ff
      have bbZ := ((((bb7.trans bl8).alloc rd8.le _).trans bl9).alloc rd9.le _).trans bl10
      have fwZ := fw7.trans ff
      have RZ := Lib.hid rd10
      clear ff fr8 fr9 fr10 bl8 bl9 bl10 db7 rb7 bb7 rd7 rd8 rd9 rd10
      obtain ⟨n0, t0, e0, e1, e2, g0, g1, g2⟩ := rbZ
      obtain ⟨n3, t3, e3, e4, e5, g3, g4, g5⟩ := dbZ
      have hRD : R ≠ D := Ne.symm hD
      clear t0 t3
      go_wp2
      exact bodyPost_ret (v := .agg #[.int .i64 z8, .int .i64 z9, .int .i64 z10]) (by simp [results, Tryd.results43, go_sem, *]) rfl ⟨_, _, _, rfl, ⟨by omega, by omega⟩, ⟨by omega, by omega⟩, ⟨by omega, by omega⟩, (((((bbZ.setCell hDB _).setCell hDB _).setCell hDB _).setCell hRB _).setCell hRB _).setCell hRB _, (((((((RZ.out.set n3 hDB).set n3 hDB).set n3 hDB).set n0 hRB).set n0 hRB).set n0 hRB)).mono (by omega), (((((fwZ.set HF.out.1).set HF.out.1).set HF.out.1).set HF.out.2).set HF.out.2).set HF.out.2⟩
    · have h7' : (k7 == 0) = false := by simpa using h7
      clear h7
      have dbZ := db7
      have rbZ := rb7
      have bbZ := bb7
      have fwZ := fw7
      have RZ := Lib.hid rd7
      clear db7 rb7 bb7 rd7
      obtain ⟨n0, t0, e0, e1, e2, g0, g1, g2⟩ := rbZ
      obtain ⟨n3, t3, e3, e4, e5, g3, g4, g5⟩ := dbZ
      have hRD : R ≠ D := Ne.symm hD
      clear t0 t3
      go_wp2
      exact bodyPost_ret (v := .agg #[.int .i64 (1980 + k1), .int .i64 z6, .int .i64 z11]) (by simp [results, Tryd.results43, go_sem, *]) rfl ⟨_, _, _, rfl, ⟨by omega, by omega⟩, ⟨by omega, by omega⟩, ⟨by omega, by omega⟩, ((bbZ.setCell hRB _).setCell hRB _).setCell hRB _, (((RZ.out.set n0 hRB).set n0 hRB).set n0 hRB).mono (by omega), ((fwZ.set HF.out.2).set HF.out.2).set HF.out.2⟩
  have h1' : (k5 == 1) = false := by simpa using h1
  clear h0 h1
  go_wp2_with fail
  refine (pick_any B r _ _ _ rd5 (by omega)).mono ?_
  rintro e w7 ⟨k7, rfl, a7, b7, st7⟩
  have db7 := db5.far st7.far
  have rb7 := rb5.far st7.far
  have bb7 := bb5.trans st7.bel
  have fw7 := fw5.trans st7.far
  have rd7 := st7.rdr
  clear b7 st7
  by_cases h7 : k7 = 0
  · subst h7
    go_wp2_with fail
    refine (someYear_any B r _ _ rd7 (by omega)).mono ?_
    rintro e w8 ⟨z8, rfl, x8, y8, bl8, rd8, fr8⟩
    go_wp2_with fail
    refine (one_any B r _ _ _ _ (-10000000000) 10000000000 _ (rd8.alloc _ _) (by omega) (by omega) (by omega) (by have := rd8.top; omega) ?_).mono ?_
    · exact made_cells _ _ _ _ _ _ rfl (by simp [Ints] <;> omega)
    rintro e w9 ⟨z9, rfl, x9, y9, bl9, rd9, fr9⟩
    go_wp2_with fail
    refine (one_any B r _ _ _ _ (-10000000000) 10000000000 _ (rd9.alloc _ _) (by omega) (by omega) (by omega) (by have := rd9.top; omega) ?_).mono ?_
    · exact made_cells _ _ _ _ _ _ rfl (by simp [Ints] <;> omega)
    rintro e w10 ⟨z10, rfl, x10, y10, bl10, rd10, fr10⟩
    have ff := ((fr8.trans (((Far.refl _ _).alloc _).trans fr9)).trans (((Far.refl _ _).alloc _).trans fr10))
    have dbZ := db7.far ff
    have rbZ := rb7.far ff
    have bbZ := ((((bb7.trans bl8).alloc rd8.le _).trans bl9).alloc rd9.le _).trans bl10
    have fwZ := fw7.trans ff
    have RZ := Lib.hid rd10
    clear ff fr8 fr9 fr10 bl8 bl9 bl10 db7 rb7 bb7 rd7 rd8 rd9 rd10
    obtain ⟨n0, t0, e0, e1, e2, g0, g1, g2⟩ := rbZ
    obtain ⟨n3, t3, e3, e4, e5, g3, g4, g5⟩ := dbZ
    have hRD : R ≠ D := Ne.symm hD
    clear t0 t3
    go_wp2
    exact bodyPost_ret (v := .agg #[.int .i64 z8, .int .i64 z9, .int .i64 z10]) (by simp [results, Tryd.results43, go_sem, *]) rfl ⟨_, _, _, rfl, ⟨by omega, by omega⟩, ⟨by omega, by omega⟩, ⟨by omega, by omega⟩, (((((bbZ.setCell hDB _).setCell hDB _).setCell hDB _).setCell hRB _).setCell hRB _).setCell hRB _, (((((((RZ.out.set n3 hDB).set n3 hDB).set n3 hDB).set n0 hRB).set n0 hRB).set n0 hRB)).mono (by omega), (((((fwZ.set HF.out.1).set HF.out.1).set HF.out.1).set HF.out.2).set HF.out.2).set HF.out.2⟩
  · have h7' : (k7 == 0) = false := by simpa using h7
    clear h7
    have dbZ := db7
    have rbZ := rb7
    have bbZ := bb7
    have fwZ := fw7
    have RZ := Lib.hid rd7
    clear db7 rb7 bb7 rd7
    obtain ⟨n0, t0, e0, e1, e2, g0, g1, g2⟩ := rbZ
    obtain ⟨n3, t3, e3, e4, e5, g3, g4, g5⟩ := dbZ
    have hRD : R ≠ D := Ne.symm hD
    clear t0 t3
    go_wp2
    exact bodyPost_ret (v := .agg #[.int .i64 (1980 + k1), .int .i64 (1 + k2), .int .i64 (1 + k3)]) (by simp [results, Tryd.results43, go_sem, *]) rfl ⟨_, _, _, rfl, ⟨by omega, by omega⟩, ⟨by omega, by omega⟩, ⟨by omega, by omega⟩, ((bbZ.setCell hRB _).setCell hRB _).setCell hRB _, (((RZ.out.set n0 hRB).set n0 hRB).set n0 hRB).mono (by omega), ((fwZ.set HF.out.2).set HF.out.2).set HF.out.2⟩
def Fix5 (B : Nat) (w : World) (e : Ending) (w' : World) : Prop := ∃ x y z s n : Int, e = .returned (.agg #[.int .i64 x, .int .i64 y, .int .i64 z, .int .i64 s, .int .i64 n]) ∧ (-10000000000 ≤ x ∧ x ≤ 10000000000) ∧ (-10000000000 ≤ y ∧ y ≤ 10000000000) ∧ (-10000000000 ≤ z ∧ z ≤ 10000000000) ∧ (-10000000000 ≤ s ∧ s ≤ 10000000000) ∧ (-10000000000 ≤ n ∧ n ≤ 10000000000) ∧ Below B w w'
def Fix5R (B r m : Nat) (w : World) (e : Ending) (w' : World) : Prop := ∃ x y z s n : Int, e = .returned (.agg #[.int .i64 x, .int .i64 y, .int .i64 z, .int .i64 s, .int .i64 n]) ∧ (-10000000000 ≤ x ∧ x ≤ 10000000000) ∧ (-10000000000 ≤ y ∧ y ≤ 10000000000) ∧ (-10000000000 ≤ z ∧ z ≤ 10000000000) ∧ (-10000000000 ≤ s ∧ s ≤ 10000000000) ∧ (-10000000000 ≤ n ∧ n ≤ 10000000000) ∧ Below B w w' ∧ Rdr B w' r m
set_option maxHeartbeats 4000000 in
theorem anyFix_rd (B r m : Nat) (w : World) (h : Rdr B w r m) (hm : m ≤ 900) : Calls Tryd.prog 20 #[.pointer (some ⟨r, 0, none⟩)] w (Fix5R B r (m + 40) w) := by
  have hB := h.le
  have bb : Below B w (w.alloc (.cells #[.int .i64 0, .int .i64 0, .int .i64 0, .int .i64 0, .int .i64 0] 26)) := (Below.refl _ _).alloc hB _
  have hlt : w.heap.size < (w.alloc (.cells #[.int .i64 0, .int .i64 0, .int .i64 0, .int .i64 0, .int .i64 0] 26)).heap.size := by simp
  go_enter Tryd.func20, Tryd.ntmps20
  go_wp2_with fail
  refine (someDate_rd B r _ _ (h.alloc _ _) (by omega)).mono ?_
  rintro e w1 ⟨x, y, z, rfl, hx, hy, hz, bl1, rd1, f1⟩
  have b1 := bb.trans bl1
  have ff1 := f1
  go_wp2_with fail
  refine (pick_any B r _ _ _ rd1 (by omega)).mono ?_
  rintro e w2 ⟨k2, rfl, a2, q2, st2⟩
  have c2 : k2 ≤ 250 := by omega
  have b2 := b1.trans st2.bel
  have rd2 := st2.rdr
  have sf2 := st2.far
  clear q2 st2 rd1 b1
  go_wp2_with fail
  refine (one_any B r _ _ _ _ (-10000000000) 10000000000 _ (rd2.alloc _ _) (by omega) (by omega) (by omega) (by have := rd2.top; omega) ?_).mono ?_
  · exact made_cells _ _ _ _ _ _ rfl (by simp [Ints] <;> omega)
  rintro e w3 ⟨s, rfl, x3, y3, bl3, rd3, fr3⟩
  have b3 := (b2.alloc rd2.le _).trans bl3
  have sf3 := fr3
  clear bl3 fr3 rd2 b2
  go_wp2_with fail
  refine (one_any B r _ _ _ _ (-10000000000) 10000000000 _ (rd3.alloc _ _) (by omega) (by omega) (by omega) (by have := rd3.top; omega) ?_).mono ?_
  · exact made_cells _ _ _ _ _ _ rfl (by simp [Ints] <;> omega)
  rintro e w4 ⟨n, rfl, x4, y4, bl4, rd4, fr4⟩
  have b4 := (b3.alloc rd3.le _).trans bl4
  have FF := (((ff1.trans sf2).trans (((Far.refl _ _).alloc _).trans sf3)).trans (((Far.refl _ _).alloc _).trans fr4))
  have hne : w.heap.size ≠ r := by have := h.top; omega
  have hlt : w.heap.size < (w.alloc (.cells #[.int .i64 0, .int .i64 0, .int .i64 0, .int .i64 0, .int .i64 0] 26)).heap.size := by simp
  have c0 : w4.cell? ⟨w.heap.size, 0, none⟩ = some (.int .i64 0) := (FF.cell _ 0 hlt hne).trans (by simp)
  have c1 : w4.cell? ⟨w.heap.size, 1, none⟩ = some (.int .i64 0) := (FF.cell _ 1 hlt hne).trans (by simp)
  have c2' : w4.cell? ⟨w.heap.size, 2, none⟩ = some (.int .i64 0) := (FF.cell _ 2 hlt hne).trans (by simp)
  have c3 : w4.cell? ⟨w.heap.size, 3, none⟩ = some (.int .i64 0) := (FF.cell _ 3 hlt hne).trans (by simp)
  have c4 : w4.cell? ⟨w.heap.size, 4, none⟩ = some (.int .i64 0) := (FF.cell _ 4 hlt hne).trans (by simp)
  have f0 : w4.frozen? ⟨w.heap.size, 0, none⟩ = false := (FF.frozen _ 0 hlt hne).trans (by simp)
  have f1 : w4.frozen? ⟨w.heap.size, 1, none⟩ = false := (FF.frozen _ 1 hlt hne).trans (by simp)
  have f2 : w4.frozen? ⟨w.heap.size, 2, none⟩ = false := (FF.frozen _ 2 hlt hne).trans (by simp)
  have f3 : w4.frozen? ⟨w.heap.size, 3, none⟩ = false := (FF.frozen _ 3 hlt hne).trans (by simp)
  have f4 : w4.frozen? ⟨w.heap.size, 4, none⟩ = false := (FF.frozen _ 4 hlt hne).trans (by simp)
  have hls : w.heap.size < w4.heap.size := Nat.lt_of_lt_of_le hlt FF.size
  have RZ := Lib.hid rd4
  clear FF ff1 sf2 sf3 fr4 bl4 rd4 rd3 b3 c2 hlt
  go_wp2
  refine bodyPost_ret (v := .agg #[.int .i64 x, .int .i64 y, .int .i64 z, .int .i64 s, .int .i64 n]) (by simp [results, Tryd.results20, go_sem, c0, c1, c2', c3, c4, hls]) rfl ⟨x, y, z, s, n, rfl, hx, hy, hz, ⟨x3, y3⟩, ⟨x4, y4⟩, ?_, ?_⟩
  · refine Below.alloc ?_ (by simp; omega) _
    iterate 5 refine Below.setCell ?_ (by simpa using hB) _
    exact b4
  · exact ((((((RZ.out.set hne hB).set hne hB).set hne hB).set hne hB).set hne hB).alloc _ _).mono (by omega)
theorem anyFix_any (B r m : Nat) (w : World) (h : Rdr B w r m) (hm : m ≤ 900) : Calls Tryd.prog 20 #[.pointer (some ⟨r, 0, none⟩)] w (Fix5 B w) :=
  (anyFix_rd B r m w h hm).mono fun e w' ⟨x, y, z, s, n, a, b, c, d, f, g, i, _⟩ => ⟨x, y, z, s, n, a, b, c, d, f, g, i⟩
theorem code_growF {w w' : World} {a : Option Addr} {len : Nat} (h : Code w a len) (hb : Below w.heap.size w w') : Code w' a len := by
  refine ⟨h.1, h.2.1, fun n hn => ?_⟩
  rcases h.2.2 n hn with h0 | ⟨b, off, e, hlt, hall⟩
  · exact .inl h0
  · refine .inr ⟨b, off, e, Nat.lt_of_lt_of_le hlt hb.size, fun i hi => ?_⟩
    obtain ⟨k, k0, k1, kc⟩ := hall i hi
    exact ⟨k, k0, k1, (hb.cell (p := ⟨b, off + i, none⟩) hlt).trans kc⟩
set_option maxHeartbeats 4000000 in
theorem DrawFormatFix_any (w : World) (a : Option Addr) (len cap : Nat) (h : Code w a len) (hcap : len ≤ cap) : Calls Tryd.prog 8 #[.slice a len cap] w (Fix5 w.heap.size w) := by
  have hc := code_growF h ((Below.refl w.heap.size w).alloc (Nat.le_refl _) (.cells #[.int .i64 0, .int .i64 0, .int .i64 0, .int .i64 0, .int .i64 0] 26))
  clear h
  go_enter Tryd.func8, Tryd.ntmps8
  go_wp2_with fail
  refine (newReader_any _ a len cap hc hcap).mono ?_
  rintro e w1 ⟨rfl, bl1, rd1⟩
  have hlt : w.heap.size < (w.alloc (.cells #[.int .i64 0, .int .i64 0, .int .i64 0, .int .i64 0, .int .i64 0] 26)).heap.size := by simp
  go_wp2_with fail
  simp only [World.size_alloc] at rd1 bl1 hlt
  refine (anyFix_any _ _ _ _ rd1 (by omega)).mono ?_
  rintro e w2 ⟨x, y, z, s, n, rfl, hx, hy, hz, hs, hn, bl2⟩
  have bb := bl1.trans bl2
  have c0 : w2.cell? ⟨w.heap.size, 0, none⟩ = some (.int .i64 0) := (bb.cell (p := ⟨w.heap.size, 0, none⟩) hlt).trans (by simp)
  have c1 : w2.cell? ⟨w.heap.size, 1, none⟩ = some (.int .i64 0) := (bb.cell (p := ⟨w.heap.size, 1, none⟩) hlt).trans (by simp)
  have c2 : w2.cell? ⟨w.heap.size, 2, none⟩ = some (.int .i64 0) := (bb.cell (p := ⟨w.heap.size, 2, none⟩) hlt).trans (by simp)
  have c3 : w2.cell? ⟨w.heap.size, 3, none⟩ = some (.int .i64 0) := (bb.cell (p := ⟨w.heap.size, 3, none⟩) hlt).trans (by simp)
  have c4 : w2.cell? ⟨w.heap.size, 4, none⟩ = some (.int .i64 0) := (bb.cell (p := ⟨w.heap.size, 4, none⟩) hlt).trans (by simp)
  have f0 : w2.frozen? ⟨w.heap.size, 0, none⟩ = false := (bb.frozen (p := ⟨w.heap.size, 0, none⟩) hlt).trans (by simp)
  have f1 : w2.frozen? ⟨w.heap.size, 1, none⟩ = false := (bb.frozen (p := ⟨w.heap.size, 1, none⟩) hlt).trans (by simp)
  have f2 : w2.frozen? ⟨w.heap.size, 2, none⟩ = false := (bb.frozen (p := ⟨w.heap.size, 2, none⟩) hlt).trans (by simp)
  have f3 : w2.frozen? ⟨w.heap.size, 3, none⟩ = false := (bb.frozen (p := ⟨w.heap.size, 3, none⟩) hlt).trans (by simp)
  have f4 : w2.frozen? ⟨w.heap.size, 4, none⟩ = false := (bb.frozen (p := ⟨w.heap.size, 4, none⟩) hlt).trans (by simp)
  have hls : w.heap.size < w2.heap.size := Nat.lt_of_lt_of_le hlt (by simpa using bb.size)
  have g2 : Below w.heap.size w w2 := ((Below.refl _ _).alloc (Nat.le_refl _) _).trans (bb.mono (by simp))
  clear bb bl1 bl2 rd1 hlt hc hcap
  go_wp2
  refine bodyPost_ret (v := .agg #[.int .i64 x, .int .i64 y, .int .i64 z, .int .i64 s, .int .i64 n]) (by simp [results, Tryd.results8, go_sem, c0, c1, c2, c3, c4]) rfl ⟨x, y, z, s, n, rfl, hx, hy, hz, hs, hn, ?_⟩
  iterate 5 refine Below.setCell ?_ (by simp) _
  exact g2
end Go.Proofs.YtopaglepkpblaaaDoor
