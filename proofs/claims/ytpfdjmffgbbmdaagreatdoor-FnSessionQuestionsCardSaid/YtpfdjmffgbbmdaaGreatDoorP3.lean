/-
  One text of several: Lst Sample Sq Copy Nums.
-/
import Derived.Test.YtpfdjmffgbbmdaaGreatDoorCal
import Derived.Test.YtpfdjmffgbbmdaaGreatDoorP1
import Derived.Deep.RegionHeld3
import Derived.WalkSpells
import Derived.Deep.AppendLies
/-
  A list of numbers in memory (Lst), the world that has only drawn (Same), spec.toInt.
-/
namespace Go.Proofs.YtpfdjmffgbbmdaaGreatDoor
open Go.RowKit
set_option linter.unusedVariables false
/-- A list of numbers in memory, in blocks below B. -/
def Lst (B : Nat) (w : World) (a : Option Addr) (n : Nat) (l : List Int) : Prop :=
  l.length = n ∧ n ≤ 1048576 ∧ (n = 0 ∨ ∃ b off, a = some ⟨b, off, none⟩ ∧ b < B ∧ ∀ i, i < n → w.cell? ⟨b, off + i, none⟩ = some (.int .i64 (L.g l i)))
theorem Lst.drewN {B : Nat} {w : World} {a : Option Addr} {n : Nat} {l : List Int} (h : Lst B w a n l) (k : Nat) : Lst B (w.drewN k) a n l := h
theorem Lst.drew {B : Nat} {w : World} {a : Option Addr} {n : Nat} {l : List Int} (h : Lst B w a n l) : Lst B w.drew a n l := h
theorem Lst.below {B : Nat} {w w' : World} {a : Option Addr} {n : Nat} {l : List Int} (h : Lst B w a n l) (hb : Below B w w') : Lst B w' a n l :=
  ⟨h.1, h.2.1, h.2.2.imp_right fun ⟨b, off, e, hlt, hc⟩ => ⟨b, off, e, hlt, fun i hi => (hb.cell (p := ⟨b, off + i, none⟩) hlt).trans (hc i hi)⟩⟩
theorem Lst.more {B B' : Nat} {w : World} {a : Option Addr} {n : Nat} {l : List Int} (h : Lst B w a n l) (hb : B ≤ B') : Lst B' w a n l :=
  ⟨h.1, h.2.1, h.2.2.imp_right fun ⟨b, off, e, hlt, hc⟩ => ⟨b, off, e, by omega, hc⟩⟩
theorem Lst.none_ (B : Nat) (w : World) (a : Option Addr) : Lst B w a 0 [] := ⟨rfl, by omega, .inl rfl⟩
theorem Lst.at_ {B : Nat} {w : World} {a : Option Addr} {n : Nat} {l : List Int} (h : Lst B w a n l) (i : Nat) (hi : i < n) : ∃ b off, a = some ⟨b, off, none⟩ ∧ b < B ∧ ∀ i, i < n → w.cell? ⟨b, off + i, none⟩ = some (.int .i64 (L.g l i)) := by
  rcases h.2.2 with h0 | h0
  · omega
  · exact h0
theorem Lst.take {B : Nat} {w : World} {a : Option Addr} {n : Nat} {l : List Int} (h : Lst B w a n l) (k : Nat) (hk : k ≤ n) : Lst B w a k (l.take k) := by
  refine ⟨by rw [List.length_take, h.1]; omega, by have := h.2.1; omega, ?_⟩
  rcases Nat.eq_zero_or_pos k with h0 | h0
  · exact .inl h0
  · obtain ⟨b, off, e, hb, hc⟩ := h.at_ 0 (by omega)
    refine .inr ⟨b, off, e, hb, fun i hi => ?_⟩
    rw [hc i (by omega)]
    unfold L.g
    rw [List.getD_eq_getElem?_getD, List.getD_eq_getElem?_getD, List.getElem?_take_of_lt hi]

/-- The world is as it was, but for draws. -/
def Same (w w' : World) : Prop := ∃ q, w' = w.drewN q
theorem Same.refl (w : World) : Same w w := ⟨0, rfl⟩
theorem Same.drewN {a w : World} (h : Same a w) (q : Nat) : Same a (w.drewN q) := by obtain ⟨p, rfl⟩ := h; exact ⟨p + q, by rw [World.drewN_drewN]⟩
theorem Same.trans {a b c : World} (h : Same a b) (k : Same b c) : Same a c := by obtain ⟨q, rfl⟩ := k; exact h.drewN q
theorem Lst.same {B : Nat} {w w' : World} {a : Option Addr} {n : Nat} {l : List Int} (h : Lst B w a n l) (q : Same w w') : Lst B w' a n l := by obtain ⟨p, rfl⟩ := q; exact h
theorem Same.below {B : Nat} {w w' : World} (q : Same w w') : Below B w w' := by obtain ⟨p, rfl⟩ := q; exact below_drewN (Below.refl _ _) p
theorem bel_same {B : Nat} {a w w' : World} (h : Below B a w) (q : Same w w') : Below B a w' := h.trans q.below
theorem qsL {P : Program} {f : FuncId} {args : Array Value} {w : World} {n : Nat} {v : Value} (h : ∀ w', Calls P f args w' fun e w'' => e = .returned v ∧ w' = w'') :
    Calls P f args (w.drewN n) fun e w'' => e = .returned v ∧ ∃ m, w'' = w.drewN m := Calls.quiet_of_same ((h _).mono fun _ _ ⟨a, b⟩ => ⟨a, b.symm⟩)
theorem toInt_b (b : Bool) (w : World) : Calls Tryz.prog 67 #[.bool b] w fun e w' => e = .returned (.int .i64 (L.b1 b)) ∧ w = w' := by
  cases b
  · rw [L.b1_f]
    go_enter Tryz.func67, Tryz.ntmps67
    go_wp2
    go_ret
    exact ⟨rfl, rfl⟩
  · rw [L.b1_t]
    go_enter Tryz.func67, Tryz.ntmps67
    go_wp2
    go_ret
    exact ⟨rfl, rfl⟩
end Go.Proofs.YtpfdjmffgbbmdaaGreatDoor

/-
  Samples in memory, and what chapter 6 says of them: the model's functions.
-/
namespace Go.Proofs.YtpfdjmffgbbmdaaGreatDoor
open Go.RowKit
set_option linter.unusedVariables false
/-- Where the cells of samples lie. -/
def SmCells (w : World) (b off n : Nat) (l : List Q.Sm) : Prop := ∀ i, i < n → w.cell? ⟨b, off + i * 3, none⟩ = some (.int .i64 (Q.of l i)) ∧ w.cell? ⟨b, off + i * 3 + 1, none⟩ = some (.int .i64 (Q.de l i)) ∧ w.cell? ⟨b, off + i * 3 + 2, none⟩ = some (.int .i64 (Q.tm l i))
/-- A list of samples in memory, in blocks below B. -/
def Sms (B : Nat) (w : World) (a : Option Addr) (n : Nat) (l : List Q.Sm) : Prop :=
  l.length = n ∧ n ≤ 1048576 ∧ (n = 0 ∨ ∃ b off, a = some ⟨b, off, none⟩ ∧ b < B ∧ SmCells w b off n l)
theorem Sms.drewN {B : Nat} {w : World} {a : Option Addr} {n : Nat} {l : List Q.Sm} (h : Sms B w a n l) (k : Nat) : Sms B (w.drewN k) a n l := h
theorem Sms.drew {B : Nat} {w : World} {a : Option Addr} {n : Nat} {l : List Q.Sm} (h : Sms B w a n l) : Sms B w.drew a n l := h
theorem Sms.same {B : Nat} {w w' : World} {a : Option Addr} {n : Nat} {l : List Q.Sm} (h : Sms B w a n l) (q : Same w w') : Sms B w' a n l := by obtain ⟨p, rfl⟩ := q; exact h
theorem Sms.below {B : Nat} {w w' : World} {a : Option Addr} {n : Nat} {l : List Q.Sm} (h : Sms B w a n l) (hb : Below B w w') : Sms B w' a n l :=
  ⟨h.1, h.2.1, h.2.2.imp_right fun ⟨b, off, e, hlt, hc⟩ => ⟨b, off, e, hlt, fun i hi => ⟨(hb.cell (p := ⟨b, off + i * 3, none⟩) hlt).trans (hc i hi).1, (hb.cell (p := ⟨b, off + i * 3 + 1, none⟩) hlt).trans (hc i hi).2.1, (hb.cell (p := ⟨b, off + i * 3 + 2, none⟩) hlt).trans (hc i hi).2.2⟩⟩⟩
theorem Sms.more {B B' : Nat} {w : World} {a : Option Addr} {n : Nat} {l : List Q.Sm} (h : Sms B w a n l) (hb : B ≤ B') : Sms B' w a n l :=
  ⟨h.1, h.2.1, h.2.2.imp_right fun ⟨b, off, e, hlt, hc⟩ => ⟨b, off, e, by omega, hc⟩⟩
theorem Sms.at_ {B : Nat} {w : World} {a : Option Addr} {n : Nat} {l : List Q.Sm} (h : Sms B w a n l) (i : Nat) (hi : i < n) : ∃ b off, a = some ⟨b, off, none⟩ ∧ b < B ∧ SmCells w b off n l := by
  rcases h.2.2 with h0 | h0
  · omega
  · exact h0
end Go.Proofs.YtpfdjmffgbbmdaaGreatDoor

/-
  How a list of samples is carried from call to call in a law; parts of a list.
-/
namespace Go.Proofs.YtpfdjmffgbbmdaaGreatDoor
open Go.RowKit
set_option linter.unusedVariables false
/-- The list lies there as it did; nothing that was there at first has changed. -/
structure Sq (w0 w : World) (a : Option Addr) (n : Nat) (l : List Q.Sm) : Prop where
  here : Sms w.heap.size w a n l
  bel : Below w0.heap.size w0 w
theorem Sq.b {w0 w w' : World} {a : Option Addr} {n : Nat} {l : List Q.Sm} (h : Sq w0 w a n l) (hb : Below w.heap.size w w') : Sq w0 w' a n l := ⟨(h.here.below hb).more hb.size, h.bel.trans (hb.mono h.bel.size)⟩
theorem Sq.al {w0 w : World} {a : Option Addr} {n : Nat} {l : List Q.Sm} (h : Sq w0 w a n l) (o : Obj) : Sq w0 (w.alloc o) a n l := h.b ((Below.refl _ _).alloc (Nat.le_refl _) o)
theorem Sq.dr {w0 w : World} {a : Option Addr} {n : Nat} {l : List Q.Sm} (h : Sq w0 w a n l) (k : Nat) : Sq w0 (w.drewN k) a n l := ⟨h.here.drewN k, below_drewN h.bel k⟩
theorem Sq.drew {w0 w : World} {a : Option Addr} {n : Nat} {l : List Q.Sm} (h : Sq w0 w a n l) : Sq w0 w.drew a n l := ⟨h.here, h.bel.drew⟩
theorem Sq.same {w0 w w' : World} {a : Option Addr} {n : Nat} {l : List Q.Sm} (h : Sq w0 w a n l) (q : Same w w') : Sq w0 w' a n l := by obtain ⟨k, rfl⟩ := q; exact h.dr k
/-- The first k. -/
def qtk (l : List Q.Sm) (k : Nat) : List Q.Sm := l.take k
theorem qtk_at {l : List Q.Sm} {k i : Nat} (h : i < k) : Q.of (qtk l k) i = Q.of l i ∧ Q.de (qtk l k) i = Q.de l i ∧ Q.tm (qtk l k) i = Q.tm l i := by
  unfold Q.of Q.de Q.tm qtk; rw [List.getD_eq_getElem?_getD, List.getD_eq_getElem?_getD, List.getElem?_take_of_lt h]; exact ⟨rfl, rfl, rfl⟩
theorem qtk_len {l : List Q.Sm} {k : Nat} (h : k ≤ l.length) : (qtk l k).length = k := by unfold qtk; rw [List.length_take]; omega
theorem vq_take {l : List Q.Sm} (h : Q.vq l = true) {k : Nat} (h1 : 1 ≤ k) (h2 : k ≤ l.length) : Q.vq (qtk l k) = true := by
  obtain ⟨⟨_, b⟩, ok⟩ := Q.vq_of h
  have e := qtk_len h2
  refine Q.vq_yes (by omega) (by omega) (fun i hi' => ?_)
  rw [e] at hi'
  have := ok i (by omega)
  unfold Q.okAt at *
  rw [(qtk_at hi').1, (qtk_at hi').2.1, (qtk_at hi').2.2]
  refine ⟨this.1, fun h0 => ?_⟩
  rw [(qtk_at (l := l) (show i - 1 < k by omega)).2.2]
  exact this.2 h0
theorem Sms.take {B : Nat} {w : World} {a : Option Addr} {n : Nat} {l : List Q.Sm} (h : Sms B w a n l) (k : Nat) (hk : k ≤ n) : Sms B w a k (qtk l k) := by
  refine ⟨qtk_len (by rw [h.1]; exact hk), by have := h.2.1; omega, ?_⟩
  rcases Nat.eq_zero_or_pos k with h0 | h0
  · exact .inl h0
  · obtain ⟨b, off, e, hb, hc⟩ := h.at_ 0 (by omega)
    refine .inr ⟨b, off, e, hb, fun i hi => ?_⟩
    rw [(qtk_at hi).1, (qtk_at hi).2.1, (qtk_at hi).2.2]
    exact hc i (by omega)
theorem Sq.take {w0 w : World} {a : Option Addr} {n : Nat} {l : List Q.Sm} (h : Sq w0 w a n l) (k : Nat) (hk : k ≤ n) : Sq w0 w a k (qtk l k) := ⟨h.here.take k hk, h.bel⟩
/-- A struct of three numbers in a block of its own. -/
structure B3 (w : World) (D : Nat) (x y z : Int) : Prop where
  c0 : w.cell? ⟨D, 0, none⟩ = some (.int .i64 x)
  c1 : w.cell? ⟨D, 1, none⟩ = some (.int .i64 y)
  c2 : w.cell? ⟨D, 2, none⟩ = some (.int .i64 z)
  lt : D < w.heap.size
theorem B3.b {w w' : World} {D : Nat} {x y z : Int} (h : B3 w D x y z) (hb : Below w.heap.size w w') : B3 w' D x y z := ⟨(hb.cell (p := ⟨D, 0, none⟩) h.lt).trans h.c0, (hb.cell (p := ⟨D, 1, none⟩) h.lt).trans h.c1, (hb.cell (p := ⟨D, 2, none⟩) h.lt).trans h.c2, Nat.lt_of_lt_of_le h.lt hb.size⟩
theorem B3.al {w : World} {D : Nat} {x y z : Int} (h : B3 w D x y z) (o : Obj) : B3 (w.alloc o) D x y z := h.b ((Below.refl _ _).alloc (Nat.le_refl _) o)
theorem B3.dr {w : World} {D : Nat} {x y z : Int} (h : B3 w D x y z) (k : Nat) : B3 (w.drewN k) D x y z := ⟨h.c0, h.c1, h.c2, h.lt⟩
theorem B3.new (w : World) (x y z : Int) (t : TypeId) : B3 (w.alloc (.cells #[.int .i64 x, .int .i64 y, .int .i64 z] t)) w.heap.size x y z := ⟨by simp, by simp, by simp, by simp⟩
end Go.Proofs.YtpfdjmffgbbmdaaGreatDoor

/-
  The copies of lists that the exact laws make, and how they compare them.
-/
namespace Go.Proofs.YtpfdjmffgbbmdaaGreatDoor
open Go.RowKit
set_option linter.unusedVariables false
theorem intC_info : (Tryz.prog.info? 3).map (fun i => (i.zero, i.size, i.bytes)) = some (some (.int .i64 0), 1, 8) := by kernel_rfl
def valsC (l : List Int) : List Value := l.map (Value.int .i64)
theorem valsC_len (l : List Int) : (valsC l).length = l.length := by simp [valsC]
theorem valsC_get (l : List Int) (i : Nat) (h : i < l.length) : (valsC l)[i]? = some (.int .i64 (L.g l i)) := by
  unfold valsC; rw [List.getElem?_map, L.g_get l i h]; rfl
/-- The first k numbers, and zeros behind them. -/
def part (l : List Int) (k : Nat) : List Int := l.take k ++ List.replicate (l.length - k) 0
theorem part_len (l : List Int) (k : Nat) (h : k ≤ l.length) : (part l k).length = l.length := by simp [part]; omega
theorem part_zero (l : List Int) : valsC (part l 0) = List.replicate l.length (.int .i64 0) := by simp [part, valsC]
theorem part_all (l : List Int) : part l l.length = l := by simp [part]
theorem part_set (l : List Int) (k : Nat) (h : k < l.length) : (valsC (part l k)).set k (.int .i64 (L.g l k)) = valsC (part l (k + 1)) := by
  unfold valsC
  rw [← List.map_set]
  congr 1
  unfold part
  rw [List.set_append, if_neg (by rw [List.length_take]; omega), List.length_take, Nat.min_eq_left (by omega), Nat.sub_self]
  rw [show l.length - k = (l.length - (k + 1)) + 1 from by omega, List.replicate_succ, List.set_cons_zero]
  rw [List.take_add_one, L.g_get l k h]
  simp
theorem lst_same {B : Nat} {w w' : World} {a : Option Addr} {n : Nat} {l : List Int} (h : Lst B w a n l) (hb : Below w.heap.size w w') (hB : B ≤ w.heap.size) : Lst w'.heap.size w' a n l := (h.below (hb.mono hB)).more (Nat.le_trans hB hb.size)
theorem lst_of {w : World} {a : Option Addr} {len cap : Nat} {zs : List Int}
    (h : (a = none ∧ len = 0 ∧ cap = 0 ∧ zs = []) ∨ ∃ x, a = some x ∧ len ≤ cap ∧ cap ≤ maxLen ∧ zs.length = cap ∧ (∀ i, i < zs.length → w.cell? (x.add i) = some (.int .i64 (zs.getD i 0))) ∧ ∀ n ∈ zs, (Lit.int .i64 n).wf = true)
    (hl : len ≤ 1048576) : ∃ l, Lst w.heap.size w a len l := by
  rcases h with ⟨rfl, rfl, rfl, rfl⟩ | ⟨⟨b, off, spot⟩, rfl, hlc, hm, hz, hcell, hwz⟩
  · exact ⟨[], rfl, by omega, .inl rfl⟩
  · refine ⟨zs.take len, by rw [List.length_take]; omega, hl, ?_⟩
    rcases Nat.eq_zero_or_pos len with h0 | h0
    · exact .inl h0
    · have hc := hcell 0 (by omega)
      have hspot : spot = none := by simpa [Addr.add] using World.cell?_spot hc
      subst hspot
      refine .inr ⟨b, off, rfl, World.block_lt_of_cell? _ _ hc, fun i hi => ?_⟩
      have := hcell i (by omega)
      rw [show (Addr.add ⟨b, off, none⟩ i) = ⟨b, off + i, none⟩ from by unfold Addr.add; split <;> simp_all] at this
      rw [this]
      unfold L.g
      rw [List.getD_eq_getElem?_getD, List.getD_eq_getElem?_getD, List.getElem?_take_of_lt hi]
theorem Lst.keep {w w' : World} {B : Nat} {a : Option Addr} {n : Nat} {l : List Int} (h : Lst B w a n l) (hb : Below w.heap.size w w') (hB : B ≤ w.heap.size) : Lst B w' a n l := h.below (hb.mono hB)
end Go.Proofs.YtpfdjmffgbbmdaaGreatDoor

/-
  A list of numbers of the call's own.
-/
namespace Go.Proofs.YtpfdjmffgbbmdaaGreatDoor
open Go.RowKit
set_option linter.unusedVariables false
theorem valsC_snoc (l : List Int) (x : Int) : valsC l ++ [.int .i64 x] = valsC (l ++ [x]) := by simp [valsC]
theorem valsC_oneC (l : List Int) : ∀ u ∈ valsC l, u.oneCell' = true := by intro u hu; simp [valsC] at hu; obtain ⟨x, _, rfl⟩ := hu; rfl
def Nums (B : Nat) (w : World) (a : Option Addr) (c : Nat) (l : List Int) : Prop := w.ownsRow B 3 1 (.slice a l.length c) l.length (valsC l)
theorem Nums.keep {B : Nat} {w w' : World} {a : Option Addr} {c : Nat} {l : List Int} (h : Nums B w a c l) (hb : Below w.heap.size w w') : Nums B w' a c l :=
  World.ownsRow.kept (row := none) h ⟨hb.os, hb.tape, hb.output, hb.size, fun j hj _ => hb.block j hj⟩ (by cases a <;> simp [Value.ownBlock])
theorem Nums.drewN {B : Nat} {w : World} {a : Option Addr} {c : Nat} {l : List Int} (h : Nums B w a c l) (k : Nat) : Nums B (w.drewN k) a c l := h
theorem Nums.same {B : Nat} {w w' : World} {a : Option Addr} {c : Nat} {l : List Int} (h : Nums B w a c l) (q : Same w w') : Nums B w' a c l := by obtain ⟨p, rfl⟩ := q; exact h
theorem Nums.more {B B' : Nat} {w : World} {a : Option Addr} {c : Nat} {l : List Int} (h : Nums B w a c l) (hB : B' ≤ B) : Nums B' w a c l := by
  refine ⟨h.1, ?_⟩
  rcases h.2 with hn | ⟨g, cap, cur, hv, hb, rest⟩
  · exact .inl hn
  · exact .inr ⟨g, cap, cur, hv, by omega, rest⟩
theorem Nums.none_ (B : Nat) (w : World) : Nums B w none 0 [] := World.ownsRow_nil _ _ _ _
theorem Nums.lst {B : Nat} {w : World} {a : Option Addr} {c : Nat} {l : List Int} (h : Nums B w a c l) (hl : l.length ≤ 1048576) : Lst w.heap.size w a l.length l := by
  rcases Nat.eq_zero_or_pos l.length with h0 | h0
  · exact ⟨rfl, hl, .inl h0⟩
  · obtain ⟨g, cap, e, _, hlt⟩ := World.ownsRow.form h h0
    injection e with e1 e2 e3
    subst e1
    refine ⟨rfl, hl, .inr ⟨g, 0, rfl, hlt, fun i hi => ?_⟩⟩
    have := World.ownsRow.cellAt h i (by omega)
    rw [valsC_get l i hi] at this
    rw [Nat.zero_add]; exact this
end Go.Proofs.YtpfdjmffgbbmdaaGreatDoor
