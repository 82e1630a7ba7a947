/-
  Spans of questions (chapter 11): the program's and the model's functions.
-/
import Derived.Test.YtoaldklkacmflaaOffsetB
namespace Go.Proofs.Ytoaldklkacmflaa
open Go.RowKit
set_option linter.unusedVariables false
set_option maxRecDepth 100000
/-- A result of two numbers at w's end, and an exchange at D. -/
structure XS (w wr : World) (D : Nat) (y0 y1 x0 x1 x2 x3 : Int) : Prop where
  z0 : wr.cell? ⟨w.heap.size, 0, none⟩ = some (.int .i64 y0)
  z1 : wr.cell? ⟨w.heap.size, 1, none⟩ = some (.int .i64 y1)
  g0 : wr.frozen? ⟨w.heap.size, 0, none⟩ = false
  g1 : wr.frozen? ⟨w.heap.size, 1, none⟩ = false
  c0 : wr.cell? ⟨D, 0, none⟩ = some (.int .i64 x0)
  c1 : wr.cell? ⟨D, 1, none⟩ = some (.int .i64 x1)
  c2 : wr.cell? ⟨D, 2, none⟩ = some (.int .i64 x2)
  c3 : wr.cell? ⟨D, 3, none⟩ = some (.int .i64 x3)
  lt : w.heap.size < wr.heap.size
  ltD : D < wr.heap.size
  bel : Below w.heap.size w wr
theorem XS.b {w wr w' : World} {D : Nat} {y0 y1 x0 x1 x2 x3 : Int} (h : XS w wr D y0 y1 x0 x1 x2 x3) (q : Below wr.heap.size wr w') : XS w w' D y0 y1 x0 x1 x2 x3 :=
  ⟨(q.cell (p := ⟨w.heap.size, 0, none⟩) h.lt).trans h.z0, (q.cell (p := ⟨w.heap.size, 1, none⟩) h.lt).trans h.z1, (q.frozen (p := ⟨w.heap.size, 0, none⟩) h.lt).trans h.g0, (q.frozen (p := ⟨w.heap.size, 1, none⟩) h.lt).trans h.g1,
    (q.cell (p := ⟨D, 0, none⟩) h.ltD).trans h.c0, (q.cell (p := ⟨D, 1, none⟩) h.ltD).trans h.c1, (q.cell (p := ⟨D, 2, none⟩) h.ltD).trans h.c2, (q.cell (p := ⟨D, 3, none⟩) h.ltD).trans h.c3, Nat.lt_of_lt_of_le h.lt q.size, Nat.lt_of_lt_of_le h.ltD q.size, h.bel.trans (q.mono h.bel.size)⟩
theorem XS.al {w wr : World} {D : Nat} {y0 y1 x0 x1 x2 x3 : Int} (h : XS w wr D y0 y1 x0 x1 x2 x3) (o : Obj) : XS w (wr.alloc o) D y0 y1 x0 x1 x2 x3 := h.b ((Below.refl _ _).alloc (Nat.le_refl _) o)
theorem XS.drew {w wr : World} {D : Nat} {y0 y1 x0 x1 x2 x3 : Int} (h : XS w wr D y0 y1 x0 x1 x2 x3) : XS w wr.drew D y0 y1 x0 x1 x2 x3 := ⟨h.z0, h.z1, h.g0, h.g1, h.c0, h.c1, h.c2, h.c3, h.lt, h.ltD, h.bel.drew⟩
theorem XS.fin {w wr : World} {D : Nat} {y0 y1 x0 x1 x2 x3 : Int} (h : XS w wr D y0 y1 x0 x1 x2 x3) (u v : Value) : Below w.heap.size w ((wr.setCell ⟨w.heap.size, 0, none⟩ u).setCell ⟨w.heap.size, 1, none⟩ v) :=
  (h.bel.setCell (p := ⟨w.heap.size, 0, none⟩) (Nat.le_refl _) _).setCell (p := ⟨w.heap.size, 1, none⟩) (Nat.le_refl _) _
theorem XS.new {w w1 : World} {u v : Int} {t t' : TypeId} (x0 x1 x2 x3 : Int) (b : Below (w.heap.size + 1) (w.alloc (Obj.cells #[.int .i64 u, .int .i64 v] t)) w1) (hs : w.heap.size < w1.heap.size) : XS w (w1.alloc (.cells #[.int .i64 x0, .int .i64 x1, .int .i64 x2, .int .i64 x3] t')) w1.heap.size u v x0 x1 x2 x3 := by
  obtain ⟨a0, a1, a2, a3⟩ := two_below b
  have b2 : Below w.heap.size w w1 := ((Below.refl _ _).alloc (Nat.le_refl _) _).trans (b.mono (by omega))
  have b3 := b2.alloc b2.size (.cells #[.int .i64 x0, .int .i64 x1, .int .i64 x2, .int .i64 x3] t')
  have q : Below w1.heap.size w1 (w1.alloc (.cells #[.int .i64 x0, .int .i64 x1, .int .i64 x2, .int .i64 x3] t')) := (Below.refl _ _).alloc (Nat.le_refl _) _
  exact ⟨(q.cell (p := ⟨w.heap.size, 0, none⟩) hs).trans a0, (q.cell (p := ⟨w.heap.size, 1, none⟩) hs).trans a1, (q.frozen (p := ⟨w.heap.size, 0, none⟩) hs).trans a2, (q.frozen (p := ⟨w.heap.size, 1, none⟩) hs).trans a3, by simp, by simp, by simp, by simp, by simp; omega, by simp, b3⟩
theorem cdivO_impl (n d : Int) (hd : 1 ≤ d ∧ d ≤ 1000000) (hn : -1000000000000000 ≤ n ∧ n ≤ 1000000000000000) (w : World) : Calls Try.prog 33 #[.int .i64 n, .int .i64 d] w fun e w' => e = .returned (.int .i64 (-(-n / d))) ∧ w = w' := by
  have hq := K.fd_bd (-n) d hd.1 (b := 1000000000000000) (by omega)
  go_enter Try.func33, Try.ntmps33
  go_wp2_with (go_at_call 42; refine (fdiv_impl _ _ hd (by omega) _).mono ?_; rintro e w' ⟨rfl, rfl⟩)
  go_ret
  exact ⟨rfl, rfl⟩
theorem spansOne (w : World) (x y : Int) (t : TypeId) : Sps (w.alloc (.cells #[.int .i64 x, .int .i64 y] t)).heap.size (w.alloc (.cells #[.int .i64 x, .int .i64 y] t)) (some ⟨w.heap.size, 0, none⟩) 1 [(x, y)] :=
  by
  refine ⟨rfl, by omega, .inr ⟨w.heap.size, 0, rfl, by simp, fun i hi => ?_⟩⟩
  obtain rfl : i = 0 := by omega
  exact ⟨by simp [V.lo], by simp [V.hi]⟩
set_option maxHeartbeats 4000000 in
theorem SP_impl (B n c : Nat) (a : Option Addr) (l : List Int) (w : World) (h : Lst B w a n l) (hB : B ≤ w.heap.size) : Calls Try.prog 19 #[.slice a n c] w fun e w' => e = .returned (.tuple #[.agg #[.int .i64 (O.slo l), .int .i64 (O.shi l)], .bool (O.sok l)]) ∧ Below w.heap.size w w' := by
  have bA := (Below.refl w.heap.size w).alloc (Nat.le_refl _) (.cells #[.int .i64 0, .int .i64 0] 30)
  have hA := (h.more hB).below bA
  have k1 := ex_impl w.heap.size n c a l (w.alloc (.cells #[.int .i64 0, .int .i64 0] 30)) hA bA.size
  rw [World.size_alloc] at k1
  clear bA hA
  rcases hv : O.vo l with _ | _
  · have hk : O.sok l = false := O.sok_no (fun q => by rw [hv] at q; cases q.1)
    rw [(O.s_no hk).1, (O.s_no hk).2, hk]
    simp only [hv, O.ex_no hv] at k1
    have K1 := Lib.hid k1
    clear hv k1 h hk
    go_enter Try.func19, Try.ntmps19
    go_wp2_with fail
    refine (K1.out).mono ?_
    rintro e w1 ⟨rfl, b1⟩
    have s1 := b1.size
    have X1 := XS.new (t' := 45) 0 0 0 0 b1 (by simp at s1; omega)
    have z0 := X1.z0
    have z1 := X1.z1
    have g0 := X1.g0
    have g1 := X1.g1
    have HN := Lib.hid (X1.fin (.int .i64 0) (.int .i64 0))
    clear b1 X1 s1
    go_wp2
    exact bodyPost_ret (v := .tuple #[.agg #[.int .i64 0, .int .i64 0], .bool false]) (by simp [results, Try.results19, go_sem, z0, z1]) rfl ⟨rfl, HN.out⟩
  · obtain ⟨hl, h0, h1, h2, h3⟩ := O.vo_at hv
    have hbd := O.o_bd hv
    simp only [hv, O.ex_yes hv] at k1
    have K1 := Lib.hid k1
    have k2 := off4_impl _ _ _ _ h0 h1 h2 h3
    have k3 := del4_impl _ _ _ _ h0 h1 h2 h3
    have e2 : O.of4 (L.g l 0) (L.g l 1) (L.g l 2) (L.g l 3) = O.of l := rfl
    have e3 : O.de4 (L.g l 0) (L.g l 1) (L.g l 2) (L.g l 3) = O.de l := rfl
    rw [e2] at k2
    rw [e3] at k3
    have K2 := Lib.hid k2
    have K3 := Lib.hid k3
    have k4 := cdivO_impl (O.de l) 2 (by omega) (by omega)
    rw [O.half_neg] at k4
    have K4 := Lib.hid k4
    have hlo : O.of l - (O.de l + 1) / 2 = O.lo l := rfl
    have hhi : O.of l + (O.de l + 1) / 2 = O.hi l := rfl
    have HLO := Lib.hid hlo
    have HHI := Lib.hid hhi
    have hhb : 0 ≤ (O.de l + 1) / 2 ∧ (O.de l + 1) / 2 ≤ 400000001999998 := by omega
    generalize L.g l 0 = x0 at *
    generalize L.g l 1 = x1 at *
    generalize L.g l 2 = x2 at *
    generalize L.g l 3 = x3 at *
    clear k1 h hl h0 h1 h2 h3 e2 e3 k2 k3 k4 hlo hhi
    generalize O.of l = f at *
    generalize hdd : O.de l = d at *
    generalize (d + 1) / 2 = hf at *
    clear hdd
    go_enter Try.func19, Try.ntmps19
    go_wp2_with fail
    refine (K1.out).mono ?_
    rintro e w1 ⟨rfl, b1⟩
    have s1 := b1.size
    have X1 := XS.new (t' := 45) x0 x1 x2 x3 b1 (by simp at s1; omega)
    clear b1 s1
    go_wp2_with fail
    generalize (w1.alloc (Obj.cells #[.int .i64 x0, .int .i64 x1, .int .i64 x2, .int .i64 x3] 45)) = W at X1 ⊢
    generalize w1.heap.size = D at X1 ⊢
    have X2 := X1.drew
    go_region_held3 (fun w' => w'.cell? ⟨D, 0, none⟩ = some (.int .i64 x0) ∧ w'.cell? ⟨D, 1, none⟩ = some (.int .i64 x1) ∧ w'.cell? ⟨D, 2, none⟩ = some (.int .i64 x2) ∧ w'.cell? ⟨D, 3, none⟩ = some (.int .i64 x3) ∧ XS w w' D 0 0 x0 x1 x2 x3)
      (first | assumption | exact ⟨X2.c0, X2.c1, X2.c2, X2.c3, X2⟩ | (exact (fun q : XS w _ D 0 0 x0 x1 x2 x3 => ⟨q.c0, q.c1, q.c2, q.c3, q⟩) (XS.b (And.right (And.right (And.right (And.right (by assumption))))) hb)))
      ((first | (go_at_call 29; refine (K2.out _).mono ?_; rintro e w4 ⟨rfl, hb⟩) | (go_at_call 32; refine (K3.out _).mono ?_; rintro e w5 ⟨rfl, hb⟩) | (go_at_call 33; refine (K4.out _).mono ?_; rintro e w6 ⟨rfl, rfl⟩)))
    have X5 := And.right (And.right (And.right (And.right (‹w5.cell? ⟨D, 0, none⟩ = some (.int .i64 x0) ∧ _›))))
    clear X1 X2
    go_wp2_with fail
    have X6 := (X5.al (.cells #[.int .i64 (f - hf), .int .i64 (f + hf)] 30))
    have hS := spansOne (w5.alloc (.cells #[.int .i64 (f - hf), .int .i64 (f + hf)] 30)) (f - hf) (f + hf) 30
    have X7 := X6.al (.cells #[.int .i64 (f - hf), .int .i64 (f + hf)] 30)
    simp only [World.size_alloc] at hS
    refine (vs_impl _ _ _ _ _ _ hS (by simp)).mono ?_
    rintro e w8 ⟨rfl, b8⟩
    have hD8 : w5.heap.size < (((w5.alloc (.cells #[.int .i64 (f - hf), .int .i64 (f + hf)] 30)).alloc (.cells #[.int .i64 (f - hf), .int .i64 (f + hf)] 30))).heap.size := by simp; omega
    have t0 : w8.cell? ⟨w5.heap.size, 0, none⟩ = some (.int .i64 (f - hf)) := (b8.cell (p := ⟨w5.heap.size, 0, none⟩) hD8).trans (by simp)
    have t1 : w8.cell? ⟨w5.heap.size, 1, none⟩ = some (.int .i64 (f + hf)) := (b8.cell (p := ⟨w5.heap.size, 1, none⟩) hD8).trans (by simp)
    have X8 := X7.b b8
    have z0 := X8.z0
    have z1 := X8.z1
    have g0 := X8.g0
    have g1 := X8.g1
    rw [O.vs_one]
    by_cases hok : V.okN (f - hf) (f + hf)
    · have hk : O.sok l = true := O.sok_yes ⟨hv, by rw [← HLO.out, ← HHI.out]; exact hok⟩
      rw [decide_eq_true hok]
      have HN := Lib.hid (X8.fin (.int .i64 (f - hf)) (.int .i64 (f + hf)))
      have HK := Lib.hid hk
      clear X5 X6 X7 X8 b8 hS hD8 hok hk hv
      go_wp2
      exact bodyPost_ret (v := .tuple #[.agg #[.int .i64 (f - hf), .int .i64 (f + hf)], .bool true]) (by simp [results, Try.results19, go_sem, z0, z1]) rfl ⟨by rw [(O.s_yes HK.out).1, (O.s_yes HK.out).2, HK.out, ← HLO.out, ← HHI.out], HN.out⟩
    · have hk : O.sok l = false := O.sok_no (fun q => hok (by rw [HLO.out, HHI.out]; exact q.2))
      rw [decide_eq_false hok]
      have HN := Lib.hid (X8.fin (.int .i64 0) (.int .i64 0))
      have HK := Lib.hid hk
      clear X5 X6 X7 X8 b8 hS hD8 hok hk hv t0 t1
      go_wp2
      exact bodyPost_ret (v := .tuple #[.agg #[.int .i64 0, .int .i64 0], .bool false]) (by simp [results, Try.results19, go_sem, z0, z1]) rfl ⟨by rw [(O.s_no HK.out).1, (O.s_no HK.out).2, HK.out], HN.out⟩
set_option maxHeartbeats 4000000 in
theorem SP_spec (B n c : Nat) (a : Option Addr) (l : List Int) (w : World) (h : Lst B w a n l) (hB : B ≤ w.heap.size) : Calls Try.prog 20 #[.slice a n c] w fun e w' => e = .returned (.tuple #[.agg #[.int .i64 (O.slo l), .int .i64 (O.shi l)], .bool (O.sok l)]) ∧ Below w.heap.size w w' := by
  have bA := (Below.refl w.heap.size w).alloc (Nat.le_refl _) (.cells #[.int .i64 0, .int .i64 0] 30)
  have hA := (h.more hB).below bA
  have k1 := fun w' h' => OF_spec w.heap.size n c a l w' h'
  have k2 := fun w' h' => DE_spec w.heap.size n c a l w' h'
  have X0 : XS w ((w.alloc (.cells #[.int .i64 0, .int .i64 0] 30)).alloc (.cells #[.int .i64 0, .int .i64 0, .int .i64 0, .int .i64 0] 0)) (w.alloc (.cells #[.int .i64 0, .int .i64 0] 30)).heap.size 0 0 0 0 0 0 := XS.new 0 0 0 0 (Below.refl _ _) (by simp)
  have z0 : (w.alloc (.cells #[.int .i64 0, .int .i64 0] 30)).cell? ⟨w.heap.size, 0, none⟩ = some (.int .i64 0) := by simp
  have z1 : (w.alloc (.cells #[.int .i64 0, .int .i64 0] 30)).cell? ⟨w.heap.size, 1, none⟩ = some (.int .i64 0) := by simp
  have g0 : (w.alloc (.cells #[.int .i64 0, .int .i64 0] 30)).frozen? ⟨w.heap.size, 0, none⟩ = false := by simp
  have g1 : (w.alloc (.cells #[.int .i64 0, .int .i64 0] 30)).frozen? ⟨w.heap.size, 1, none⟩ = false := by simp
  have hltW : w.heap.size < (w.alloc (.cells #[.int .i64 0, .int .i64 0] 30)).heap.size := by simp
  clear X0
  rcases hv : O.vo l with _ | _
  · have hk : O.sok l = false := O.sok_no (fun q => by rw [hv] at q; cases q.1)
    rw [(O.s_no hk).1, (O.s_no hk).2, hk]
    simp only [hv, (O.o_no hv).1] at k1
    have K1 := Lib.hid k1
    clear hv k1 k2 h hk
    go_enter Try.func20, Try.ntmps20
    go_wp2_with fail
    generalize w.alloc (.cells #[.int .i64 0, .int .i64 0] 30) = W at *
    refine (K1.out _ hA).mono ?_
    rintro e w1 ⟨rfl, q1⟩
    obtain ⟨q, rfl⟩ := q1
    have HN := Lib.hid (((below_drewN bA q).setCell (p := ⟨w.heap.size, 0, none⟩) (Nat.le_refl _) (.int .i64 0)).setCell (p := ⟨w.heap.size, 1, none⟩) (Nat.le_refl _) (.int .i64 0))
    replace z0 : (W.drewN q).cell? ⟨w.heap.size, 0, none⟩ = some (.int .i64 0) := z0
    replace z1 : (W.drewN q).cell? ⟨w.heap.size, 1, none⟩ = some (.int .i64 0) := z1
    replace g0 : (W.drewN q).frozen? ⟨w.heap.size, 0, none⟩ = false := g0
    replace g1 : (W.drewN q).frozen? ⟨w.heap.size, 1, none⟩ = false := g1
    clear bA hA
    generalize W.drewN q = V0 at *
    go_wp2
    exact bodyPost_ret (v := .tuple #[.agg #[.int .i64 0, .int .i64 0], .bool false]) (by simp [results, Try.results20, go_sem, z0, z1]) rfl ⟨rfl, HN.out⟩
  · have hbd := O.o_bd hv
    simp only [hv, (O.o_yes hv).1] at k1
    simp only [(O.o_yes hv).2] at k2
    have K1 := Lib.hid k1
    have K2 := Lib.hid k2
    have hlo : O.of l - (O.de l + 1) / 2 = O.lo l := rfl
    have hhi : O.of l + (O.de l + 1) / 2 = O.hi l := rfl
    have HLO := Lib.hid hlo
    have HHI := Lib.hid hhi
    have HV := Lib.hid hv
    have hhb : 0 ≤ (O.de l + 1) / 2 ∧ (O.de l + 1) / 2 ≤ 400000001999998 := by omega
    clear k1 k2 hlo hhi h hv
    generalize O.of l = f at *
    generalize O.de l = d at *
    go_enter Try.func20, Try.ntmps20
    go_wp2_with fail
    generalize w.alloc (.cells #[.int .i64 0, .int .i64 0] 30) = W at *
    refine (K1.out _ hA).mono ?_
    rintro e w1 ⟨rfl, q1⟩
    obtain ⟨q, rfl⟩ := q1
    replace hA : Lst w.heap.size (W.drewN q) a n l := hA
    replace bA := below_drewN bA q
    replace hltW : w.heap.size < (W.drewN q).heap.size := hltW
    replace z0 : (W.drewN q).cell? ⟨w.heap.size, 0, none⟩ = some (.int .i64 0) := z0
    replace z1 : (W.drewN q).cell? ⟨w.heap.size, 1, none⟩ = some (.int .i64 0) := z1
    replace g0 : (W.drewN q).frozen? ⟨w.heap.size, 0, none⟩ = false := g0
    replace g1 : (W.drewN q).frozen? ⟨w.heap.size, 1, none⟩ = false := g1
    generalize W.drewN q = V0 at *
    go_wp2_with fail
    refine (K2.out _ hA).mono ?_
    rintro e w1 ⟨rfl, q1⟩
    obtain ⟨q2, rfl⟩ := q1
    replace bA := below_drewN bA q2
    replace hltW : w.heap.size < (V0.drewN q2).heap.size := hltW
    replace z0 : (V0.drewN q2).cell? ⟨w.heap.size, 0, none⟩ = some (.int .i64 0) := z0
    replace z1 : (V0.drewN q2).cell? ⟨w.heap.size, 1, none⟩ = some (.int .i64 0) := z1
    replace g0 : (V0.drewN q2).frozen? ⟨w.heap.size, 0, none⟩ = false := g0
    replace g1 : (V0.drewN q2).frozen? ⟨w.heap.size, 1, none⟩ = false := g1
    clear hA
    generalize V0.drewN q2 = U at *
    have hdd : (d + 1).tdiv 2 = (d + 1) / 2 := Int.tdiv_eq_ediv_of_nonneg (by omega)
    go_wp2_with fail
    refine (vspan_spec _ _ _).mono ?_
    rintro e w8 ⟨rfl, b8⟩
    generalize (d + 1) / 2 = hf at *
    have hbu : Below w.heap.size w (U.alloc (.cells #[.int .i64 (f - hf), .int .i64 (f + hf)] 30)) := bA.alloc bA.size _
    have hU8 : U.heap.size < (U.alloc (.cells #[.int .i64 (f - hf), .int .i64 (f + hf)] 30)).heap.size := by simp
    have hW8 : w.heap.size < (U.alloc (.cells #[.int .i64 (f - hf), .int .i64 (f + hf)] 30)).heap.size := by simp; omega
    have t0 : w8.cell? ⟨U.heap.size, 0, none⟩ = some (.int .i64 (f - hf)) := (b8.cell (p := ⟨U.heap.size, 0, none⟩) hU8).trans (by simp)
    have t1 : w8.cell? ⟨U.heap.size, 1, none⟩ = some (.int .i64 (f + hf)) := (b8.cell (p := ⟨U.heap.size, 1, none⟩) hU8).trans (by simp)
    have q : Below U.heap.size U (U.alloc (.cells #[.int .i64 (f - hf), .int .i64 (f + hf)] 30)) := (Below.refl _ _).alloc (Nat.le_refl _) _
    have y0 := (b8.cell (p := ⟨w.heap.size, 0, none⟩) hW8).trans ((q.cell (p := ⟨w.heap.size, 0, none⟩) hltW).trans z0)
    have y1 := (b8.cell (p := ⟨w.heap.size, 1, none⟩) hW8).trans ((q.cell (p := ⟨w.heap.size, 1, none⟩) hltW).trans z1)
    have r0 := (b8.frozen (p := ⟨w.heap.size, 0, none⟩) hW8).trans ((q.frozen (p := ⟨w.heap.size, 0, none⟩) hltW).trans g0)
    have r1 := (b8.frozen (p := ⟨w.heap.size, 1, none⟩) hW8).trans ((q.frozen (p := ⟨w.heap.size, 1, none⟩) hltW).trans g1)
    have hb8 := hbu.trans (b8.mono hbu.size)
    by_cases hok : V.okN (f - hf) (f + hf)
    · have hk : O.sok l = true := O.sok_yes ⟨HV.out, by rw [← HLO.out, ← HHI.out]; exact hok⟩
      rw [decide_eq_true hok]
      have HN := Lib.hid ((hb8.setCell (p := ⟨w.heap.size, 0, none⟩) (Nat.le_refl _) (.int .i64 (f - hf))).setCell (p := ⟨w.heap.size, 1, none⟩) (Nat.le_refl _) (.int .i64 (f + hf)))
      have HK := Lib.hid hk
      clear z0 z1 g0 g1 b8 hbu hb8 hok hk q hU8 hW8 bA
      go_wp2
      exact bodyPost_ret (v := .tuple #[.agg #[.int .i64 (f - hf), .int .i64 (f + hf)], .bool true]) (by simp [results, Try.results20, go_sem, y0, y1]) rfl ⟨by rw [(O.s_yes HK.out).1, (O.s_yes HK.out).2, HK.out, ← HLO.out, ← HHI.out], HN.out⟩
    · have hk : O.sok l = false := O.sok_no (fun q => hok (by rw [HLO.out, HHI.out]; exact q.2))
      rw [decide_eq_false hok]
      have HN := Lib.hid ((hb8.setCell (p := ⟨w.heap.size, 0, none⟩) (Nat.le_refl _) (.int .i64 0)).setCell (p := ⟨w.heap.size, 1, none⟩) (Nat.le_refl _) (.int .i64 0))
      have HK := Lib.hid hk
      clear z0 z1 g0 g1 b8 hbu hb8 hok hk q hU8 hW8 bA t0 t1
      go_wp2
      exact bodyPost_ret (v := .tuple #[.agg #[.int .i64 0, .int .i64 0], .bool false]) (by simp [results, Try.results20, go_sem, y0, y1]) rfl ⟨by rw [(O.s_no HK.out).1, (O.s_no HK.out).2, HK.out], HN.out⟩
end Go.Proofs.Ytoaldklkacmflaa
