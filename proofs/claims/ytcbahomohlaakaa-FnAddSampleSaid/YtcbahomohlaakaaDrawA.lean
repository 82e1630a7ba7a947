/-
  The generator of AddSample's arguments: some samples or none, and a sample; nothing that was there has changed. Written by gen_drawa.py.
-/
import Derived.Test.YtcbahomohlaakaaEqQ
namespace Go.Proofs.Ytcbahomohlaakaa
open Go.RowKit
set_option linter.unusedVariables false
set_option maxRecDepth 100000
theorem Code.laterA {w w' : World} {a : Option Addr} {len : Nat} (h : Code w a len) (hb : Below w.heap.size w w') : Code w' a len := by
  refine ⟨h.1, h.2.1, fun n hn => ?_⟩
  rcases h.2.2 n hn with h0 | ⟨b, off, e, hlt, hall⟩
  · exact .inl h0
  · refine .inr ⟨b, off, e, Nat.lt_of_lt_of_le hlt hb.size, fun i hi => ?_⟩
    obtain ⟨k, k0, k1, kc⟩ := hall i hi
    exact ⟨k, k0, k1, (hb.cell (p := ⟨b, off + i, none⟩) hlt).trans kc⟩
/-- The result's struct, still zero. -/
structure ZQ (w0 w : World) (b : Nat) : Prop where
  lo : w0.heap.size ≤ b
  lt : b < w.heap.size
  c0 : w.cell? ⟨b, 0, none⟩ = some (.int .i64 0)
  c1 : w.cell? ⟨b, 1, none⟩ = some (.int .i64 0)
  c2 : w.cell? ⟨b, 2, none⟩ = some (.int .i64 0)
  f0 : w.frozen? ⟨b, 0, none⟩ = false
  f1 : w.frozen? ⟨b, 1, none⟩ = false
  f2 : w.frozen? ⟨b, 2, none⟩ = false
  bel : Below w0.heap.size w0 w
theorem ZQ.new (w : World) (t : TypeId) : ZQ w (w.alloc (.cells #[.int .i64 0, .int .i64 0, .int .i64 0] t)) w.heap.size :=
  ⟨Nat.le_refl _, by simp, by simp, by simp, by simp, by simp, by simp, by simp, (Below.refl _ _).alloc (Nat.le_refl _) _⟩
theorem ZQ.b {w0 w w' : World} {b B : Nat} (h : ZQ w0 w b) (k : Below B w w') (hB : b < B) : ZQ w0 w' b :=
  ⟨h.lo, Nat.lt_of_lt_of_le h.lt k.size, (k.cell (p := ⟨b, 0, none⟩) hB).trans h.c0, (k.cell (p := ⟨b, 1, none⟩) hB).trans h.c1, (k.cell (p := ⟨b, 2, none⟩) hB).trans h.c2, (k.frozen (p := ⟨b, 0, none⟩) hB).trans h.f0, (k.frozen (p := ⟨b, 1, none⟩) hB).trans h.f1, (k.frozen (p := ⟨b, 2, none⟩) hB).trans h.f2, h.bel.trans (k.mono (by have := h.lo; omega))⟩
theorem ZQ.fin {w0 w : World} {b : Nat} (h : ZQ w0 w b) (x y z : Value) : Below w0.heap.size w0 (((w.setCell ⟨b, 0, none⟩ x).setCell ⟨b, 1, none⟩ y).setCell ⟨b, 2, none⟩ z) :=
  ((h.bel.setCell (p := ⟨b, 0, none⟩) h.lo _).setCell (p := ⟨b, 1, none⟩) h.lo _).setCell (p := ⟨b, 2, none⟩) h.lo _
theorem Sms.other {B : Nat} {w : World} {a : Option Addr} {n b i : Nat} {l : List Q.Sm} {v : Value} (h : Sms B w a n l) (hb : 0 < n → ∀ x, a = some x → x.block ≠ b) : Sms B (w.setCell ⟨b, i, none⟩ v) a n l := by
  refine ⟨h.1, h.2.1, ?_⟩
  rcases Nat.eq_zero_or_pos n with h0 | h0
  · exact .inl h0
  · obtain ⟨g, off, e, hg, hc⟩ := h.at_ 0 h0
    have hne : g ≠ b := hb h0 _ e
    have hoth : ∀ o, (w.setCell ⟨b, i, none⟩ v).cell? ⟨g, o, none⟩ = w.cell? ⟨g, o, none⟩ := fun o => World.cell?_setCell_other _ _ _ _ (fun e => hne (by injection e with e; exact e.symm))
    exact .inr ⟨g, off, e, hg, fun j hj => ⟨(hoth _).trans (hc j hj).1, (hoth _).trans (hc j hj).2.1, (hoth _).trans (hc j hj).2.2⟩⟩
def FromA (w : World) (e : Ending) (w' : World) : Prop := ∃ (a : Option Addr) (c : Nat) (l : List Q.Sm) (x y z : Int), e = .returned (.tuple #[.slice a l.length c, .agg #[.int .i64 x, .int .i64 y, .int .i64 z]]) ∧ l.length ≤ 9 ∧ l.length ≤ c ∧ c ≤ maxLen ∧ Sms w'.heap.size w' a l.length l ∧ Small3 l ∧ (-1000001 ≤ x ∧ x ≤ 1000001) ∧ (-1 ≤ y ∧ y ≤ 200) ∧ (-5000000000 ≤ z ∧ z ≤ 5000000000) ∧ Below w.heap.size w w' ∧ (l.length = 0 → a = none ∧ c = 0)
set_option maxHeartbeats 8000000 in
theorem DrawAddSample_any (w : World) (a : Option Addr) (len cap : Nat) (h : Code w a len) (hcap : len ≤ cap) : Calls Try.prog 20 #[.slice a len cap] w (FromA w) := by
  have Z := ZQ.new w 26
  have h1 := h.laterA Z.bel
  go_enter Try.func20, Try.ntmps20
  go_wp2_with fail
  refine (newReader_any _ a len cap h1 hcap).mono ?_
  rintro e w1 ⟨rfl, bl1, rd1⟩
  have Z1 := Z.b bl1 (by simp)
  have hRB : w.heap.size < (w.alloc (Obj.cells #[.int .i64 0, .int .i64 0, .int .i64 0] 26)).heap.size := by simp
  clear Z bl1 h1
  generalize (w.alloc (Obj.cells #[.int .i64 0, .int .i64 0, .int .i64 0] 26)).heap.size = r at rd1 hRB ⊢
  go_wp2_with fail
  refine (anySamples_any _ _ _ _ rd1 (by omega)).mono ?_
  rintro e w2 ⟨a2, c2, l, rfl, hl, hc, hm, hS, sm, rd2, bl2, fr2, hr⟩
  have Z2 := Z1.b bl2 hRB
  clear bl2 fr2 rd1 Z1
  go_wp2_with fail
  refine (pick_any _ r _ _ _ rd2 (by omega)).mono ?_
  rintro e w3 ⟨k3, rfl, a3, b3, st3⟩
  have Z3 := Z2.b st3.bel hRB
  have S3 := hS.far st3.far hr
  have rd3 := st3.rdr
  clear b3 st3 Z2 hS rd2
  by_cases h0 : k3 = 0
  · subst h0
    have hb6 : (-4000000000 : Int) ≤ 7 ∧ (7 : Int) ≤ 4000000000 := by omega
    go_wp2_with fail
    refine (anyOffset_any _ r _ _ rd3 (by omega)).mono ?_
    rintro e w4 ⟨x, rfl, x0, x1, bl4, rd4, fr4⟩
    have Z4 := Z3.b bl4 hRB
    clear bl4 fr4 rd3 Z3 S3
    go_wp2_with fail
    refine (one_any _ r _ _ _ _ (-1) 200 _ (rd4.alloc _ _) (by omega) (by omega) (by omega) (by have := rd4.top; omega) ?_).mono ?_
    · exact made_cells _ _ _ _ _ _ rfl (by simp [Ints])
    rintro e w5 ⟨y, rfl, y0, y1, bl5, rd5, fr5⟩
    have Z5 := (Z4.b ((Below.refl w4.heap.size w4).alloc (Nat.le_refl _) (.cells #[.int .i64 5, .int .i64 0, .int .i64 200, .int .i64 (-1)] 3)) Z4.lt).b bl5 hRB
    clear bl5 fr5 rd4 Z4
    go_wp2_with fail
    refine (one_any _ r _ _ _ _ 0 64 _ (rd5.alloc _ _) (by omega) (by omega) (by omega) (by have := rd5.top; omega) ?_).mono ?_
    · exact made_cells _ _ _ _ _ _ rfl (by simp [Ints])
    rintro e w6 ⟨z, rfl, z0, z1, bl6, rd6, fr6⟩
    have Z6 := (Z5.b ((Below.refl w5.heap.size w5).alloc (Nat.le_refl _) (.cells #[.int .i64 1, .int .i64 10, .int .i64 0, .int .i64 64] 3)) Z5.lt).b bl6 hRB
    clear bl6 fr6 rd5 rd6 Z5
    have u0 := Z6.c0
    have u1 := Z6.c1
    have u2 := Z6.c2
    have v0 := Z6.f0
    have v1 := Z6.f1
    have v2 := Z6.f2
    have HZ := Lib.hid (Z6.fin (.int .i64 x) (.int .i64 y) (.int .i64 (7 + z)))
    clear Z6
    go_wp2
    exact bodyPost_ret (v := .tuple #[.slice none 0 0, .agg #[.int .i64 x, .int .i64 y, .int .i64 (7 + z)]]) (by simp [results, Try.results20, go_sem, u0, u1, u2]) rfl ⟨none, 0, [], x, y, 7 + z, rfl, by simp, by simp, by unfold maxLen; omega, ⟨rfl, by simp, .inl rfl⟩, Small3.nil, ⟨x0, x1⟩, ⟨y0, y1⟩, by omega, HZ.out, fun _ => ⟨rfl, rfl⟩⟩
  · have h0' : (k3 == 0) = false := by simpa using h0
    have hlp : (0 : Int) < (l.length : Int) := by omega
    clear h0
    obtain ⟨b, off, rfl, hb, hcl⟩ := S3.at_ 0 (by omega)
    obtain ⟨m, hm1⟩ : ∃ m, l.length = m + 1 := ⟨l.length - 1, by omega⟩
    have ct := (hcl m (by omega)).2.2
    have hb6 := (sm m (by omega)).2.2
    generalize Q.tm l m = t6 at *
    have e1 : IntKind.i64.wrap ((l.length : Int) - 1) = (m : Int) := by rw [show (l.length : Int) - 1 = (m : Int) by omega]; exact IntWalk.i64_in _ (by omega)
    have e2 : (l.length : Int) - 1 = (m : Int) := by omega
    have hm2 : (m : Int) < (l.length : Int) := by omega
    have hm3 : m < l.length := by omega
    have HM := Lib.hid hm1
    clear hcl hm1
    go_wp2_with fail
    refine (anyOffset_any _ r _ _ rd3 (by omega)).mono ?_
    rintro e w4 ⟨x, rfl, x0, x1, bl4, rd4, fr4⟩
    have Z4 := Z3.b bl4 hRB
    have S4 := S3.far fr4 hr
    clear bl4 fr4 rd3 Z3 S3 ct e1 e2
    go_wp2_with fail
    refine (one_any _ r _ _ _ _ (-1) 200 _ (rd4.alloc _ _) (by omega) (by omega) (by omega) (by have := rd4.top; omega) ?_).mono ?_
    · exact made_cells _ _ _ _ _ _ rfl (by simp [Ints])
    rintro e w5 ⟨y, rfl, y0, y1, bl5, rd5, fr5⟩
    have Z5 := (Z4.b ((Below.refl w4.heap.size w4).alloc (Nat.le_refl _) (.cells #[.int .i64 5, .int .i64 0, .int .i64 200, .int .i64 (-1)] 3)) Z4.lt).b bl5 hRB
    have S5 := S4.far (((Far.refl w4 r).alloc _).trans fr5) hr
    clear bl5 fr5 rd4 Z4 S4
    go_wp2_with fail
    refine (one_any _ r _ _ _ _ 0 64 _ (rd5.alloc _ _) (by omega) (by omega) (by omega) (by have := rd5.top; omega) ?_).mono ?_
    · exact made_cells _ _ _ _ _ _ rfl (by simp [Ints])
    rintro e w6 ⟨z, rfl, z0, z1, bl6, rd6, fr6⟩
    have Z6 := (Z5.b ((Below.refl w5.heap.size w5).alloc (Nat.le_refl _) (.cells #[.int .i64 1, .int .i64 10, .int .i64 0, .int .i64 64] 3)) Z5.lt).b bl6 hRB
    have S6 := S5.far (((Far.refl w5 r).alloc _).trans fr6) hr
    clear bl6 fr6 rd5 rd6 Z5 S5
    have u0 := Z6.c0
    have u1 := Z6.c1
    have u2 := Z6.c2
    have v0 := Z6.f0
    have v1 := Z6.f1
    have v2 := Z6.f2
    have HZ := Lib.hid (Z6.fin (.int .i64 x) (.int .i64 y) (.int .i64 (t6 + z)))
    have hne : 0 < l.length → ∀ p : Addr, ((some ⟨b, off, none⟩) : Option Addr) = some p → p.block ≠ w.heap.size := fun _ p hp => by have := hr p hp; omega
    have HS := Lib.hid (((S6.other (i := 0) (v := .int .i64 x) hne).other (i := 1) (v := .int .i64 y) hne).other (i := 2) (v := .int .i64 (t6 + z)) hne)
    clear hne
    clear Z6 S6
    go_wp2
    exact bodyPost_ret (v := .tuple #[.slice (some ⟨b, off, none⟩) l.length c2, .agg #[.int .i64 x, .int .i64 y, .int .i64 (t6 + z)]]) (by simp [results, Try.results20, go_sem, u0, u1, u2]) rfl ⟨(some ⟨b, off, none⟩), c2, l, x, y, t6 + z, rfl, hl.2, hc, hm, by have := HS.out; simpa using this, sm, ⟨x0, x1⟩, ⟨y0, y1⟩, by omega, HZ.out, fun h => (by omega)⟩
end Go.Proofs.Ytcbahomohlaakaa
