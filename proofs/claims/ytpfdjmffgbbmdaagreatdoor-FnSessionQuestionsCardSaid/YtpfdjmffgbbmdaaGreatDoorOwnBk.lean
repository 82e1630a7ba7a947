/-
  Buckets (three numbers each) as cells: a list of them of the call's own, and 'append' onto it.
-/
import Derived.Test.YtpfdjmffgbbmdaaGreatDoorP3
import Derived.Test.YtpfdjmffgbbmdaaGreatDoorRow
import Derived.Deep.AppendLies
import Derived.Deep.Upon
import Derived.Deep.RegionHeld3
namespace Go.Proofs.YtpfdjmffgbbmdaaGreatDoor
open Go.RowKit
set_option linter.unusedVariables false
theorem bucket_info : (Tryz.prog.info? 116).map (fun i => (i.zero, i.size, i.bytes)) = some (some (.agg #[.int .i64 0, .int .i64 0, .int .i64 0]), 3, 24) := by kernel_rfl
def v3 (l : List Q.Sm) : List Value := l.flatMap (fun p => [.int .i64 p.1, .int .i64 p.2.1, .int .i64 p.2.2])
theorem v3_cons (p : Q.Sm) (l : List Q.Sm) : v3 (p :: l) = .int .i64 p.1 :: .int .i64 p.2.1 :: .int .i64 p.2.2 :: v3 l := rfl
theorem v3_snoc (l : List Q.Sm) (x y z : Int) : v3 l ++ [.int .i64 x, .int .i64 y, .int .i64 z] = v3 (l ++ [(x, y, z)]) := by simp [v3]
theorem v3_get : ∀ (l : List Q.Sm) (i : Nat), i < l.length → (v3 l)[i * 3]? = some (.int .i64 (Q.of l i)) ∧ (v3 l)[i * 3 + 1]? = some (.int .i64 (Q.de l i)) ∧ (v3 l)[i * 3 + 2]? = some (.int .i64 (Q.tm l i))
  | [], i, h => absurd h (by simp)
  | p :: l, 0, h => ⟨rfl, rfl, rfl⟩
  | p :: l, i + 1, h => by
    have := v3_get l i (by simpa using h)
    rw [v3_cons, show (i + 1) * 3 = i * 3 + 1 + 1 + 1 from by omega]
    exact this
theorem v3_set : ∀ (l : List Q.Sm) (j : Nat) (x y z : Int), (((v3 l).set (j * 3) (.int .i64 x)).set (j * 3 + 1) (.int .i64 y)).set (j * 3 + 2) (.int .i64 z) = v3 (l.set j (x, y, z))
  | [], j, x, y, z => by simp [v3]
  | p :: l, 0, x, y, z => rfl
  | p :: l, j + 1, x, y, z => by
    have := v3_set l j x y z
    rw [v3_cons, show (j + 1) * 3 = j * 3 + 1 + 1 + 1 from by omega]
    show _ :: _ :: _ :: (((v3 l).set (j * 3) (.int .i64 x)).set (j * 3 + 1) (.int .i64 y)).set (j * 3 + 2) (.int .i64 z) = _
    rw [this]
    rfl
theorem q_snoc_lt (l : List Q.Sm) (p : Q.Sm) (i : Nat) (h : i < l.length) : Q.of (l ++ [p]) i = Q.of l i ∧ Q.de (l ++ [p]) i = Q.de l i ∧ Q.tm (l ++ [p]) i = Q.tm l i := by
  unfold Q.of Q.de Q.tm
  rw [List.getD_eq_getElem?_getD, List.getD_eq_getElem?_getD, List.getElem?_append_left h]; exact ⟨rfl, rfl, rfl⟩
theorem q_snoc_eq (l : List Q.Sm) (x y z : Int) : Q.of (l ++ [(x, y, z)]) l.length = x ∧ Q.de (l ++ [(x, y, z)]) l.length = y ∧ Q.tm (l ++ [(x, y, z)]) l.length = z := by
  unfold Q.of Q.de Q.tm
  rw [List.getD_eq_getElem?_getD, List.getElem?_append_right (Nat.le_refl _)]; simp
theorem v3_app (l m : List Q.Sm) : v3 l ++ v3 m = v3 (l ++ m) := by simp [v3]
theorem v3_len (l : List Q.Sm) : (v3 l).length = l.length * 3 := by
  induction l with
  | nil => rfl
  | cons p l ih => rw [v3_cons]; simp only [List.length_cons, ih]; omega
theorem v3_one (l : List Q.Sm) : ∀ u ∈ v3 l, u.oneCell' = true := by
  intro u hu
  simp only [v3, List.mem_flatMap] at hu
  obtain ⟨p, _, hu⟩ := hu
  simp at hu
  rcases hu with rfl | rfl | rfl <;> rfl
def OwQ (B : Nat) (w : World) (a : Option Addr) (c : Nat) (l : List Q.Sm) : Prop := w.ownsRow B 116 3 (.slice a l.length c) l.length (v3 l)
theorem OwQ.keep {B : Nat} {w w' : World} {a : Option Addr} {c : Nat} {l : List Q.Sm} (h : OwQ B w a c l) (hb : Below w.heap.size w w') : OwQ B w' a c l :=
  World.ownsRow.kept (row := none) h ⟨hb.os, hb.tape, hb.output, hb.size, fun j hj _ => hb.block j hj⟩ (by cases a <;> simp [Value.ownBlock])
theorem OwQ.more {B B' : Nat} {w : World} {a : Option Addr} {c : Nat} {l : List Q.Sm} (h : OwQ B w a c l) (hB : B' ≤ B) : OwQ B' w a c l := by
  refine ⟨h.1, ?_⟩
  rcases h.2 with hn | ⟨g, cap, cur, hv, hb, rest⟩
  · exact .inl hn
  · exact .inr ⟨g, cap, cur, hv, by omega, rest⟩
theorem OwQ.nil (B : Nat) (w : World) : OwQ B w none 0 [] := World.ownsRow_nil _ _ _ _
theorem OwQ.made (w : World) : OwQ w.heap.size (w.alloc (.cells #[] 116)) (some ⟨w.heap.size, 0, none⟩) 0 [] :=
  World.ownsRow_made _ #[] 0 (Nat.le_refl _) (by unfold maxLen; omega) rfl
theorem OwQ.sms {B : Nat} {w : World} {a : Option Addr} {c : Nat} {l : List Q.Sm} (h : OwQ B w a c l) (hk : l.length ≤ 1000) : Sms w.heap.size w a l.length l ∧ l.length ≤ c ∧ c ≤ maxLen ∧ (0 < l.length → ∀ x, a = some x → B ≤ x.block) := by
  rcases h.2 with ⟨hv, hn⟩ | ⟨g, cap, cur, hv, hb, hgg, hle, hcap, hcs, htk⟩
  · injection hv with e1 e2 e3
    subst e1 e3
    exact ⟨⟨rfl, by omega, .inl hn⟩, by omega, by unfold maxLen; omega, fun h => by omega⟩
  · injection hv with e1 e2 e3
    subst e1 e3
    refine ⟨⟨rfl, by omega, .inr ⟨g, 0, rfl, (Array.getElem?_eq_some_iff.1 hgg).1, fun i hi => ?_⟩⟩, hle, hcap, fun _ x hx => by injection hx with hx; subst hx; exact hb⟩
    have hc := h.cells (g := g) rfl
    have h0 := hc (i * 3) _ (v3_get l i hi).1
    have h1 := hc (i * 3 + 1) _ (v3_get l i hi).2.1
    have h2 := hc (i * 3 + 2) _ (v3_get l i hi).2.2
    have ad : ∀ j, (Addr.add ⟨g, 0, none⟩ j) = ⟨g, 0 + j, none⟩ := fun j => by unfold Addr.add; split <;> simp_all
    rw [ad] at h0 h1 h2
    exact ⟨h0, h1, h2⟩
/-- One sample in a block of its own. -/
theorem Sms.one {w : World} {D : Nat} {x y z : Int} (h : B3 w D x y z) : Sms w.heap.size w (some ⟨D, 0, none⟩) 1 [(x, y, z)] :=
  ⟨rfl, by omega, .inr ⟨D, 0, rfl, h.lt, fun i hi => by
    obtain rfl : i = 0 := by omega
    exact ⟨by simpa [Q.of] using h.c0, by simpa [Q.de] using h.c1, by simpa [Q.tm] using h.c2⟩⟩⟩
theorem B3.off {w w' : World} {D : Nat} {x y z : Int} (h : B3 w D x y z) (hb : w'.heap[D]? = w.heap[D]?) (hs : w.heap.size ≤ w'.heap.size) : B3 w' D x y z :=
  ⟨(World.cell?_of_block (w := w) (a := ⟨D, 0, none⟩) hb).trans h.c0, (World.cell?_of_block (w := w) (a := ⟨D, 1, none⟩) hb).trans h.c1, (World.cell?_of_block (w := w) (a := ⟨D, 2, none⟩) hb).trans h.c2, Nat.lt_of_lt_of_le h.lt hs⟩
/-- The cells of a list that lies in memory, as 'append' takes them. -/
theorem news_sms {B : Nat} {w : World} {b off n : Nat} {l : List Q.Sm} (h : Sms B w (some ⟨b, off, none⟩) n l) (hn : 0 < n) : ∀ j u, (v3 l)[j]? = some u → w.cell? ((⟨b, off, none⟩ : Addr).add j) = some u := by
  intro j u hu
  obtain ⟨b', off', e, hb, hc⟩ := h.at_ 0 hn
  injection e with e
  injection e with e1 e2
  subst e1
  subst e2
  have hadd : (⟨b, off, none⟩ : Addr).add j = ⟨b, off + j, none⟩ := by unfold Addr.add; split <;> simp_all
  rw [hadd]
  have hj : j < l.length * 3 := by
    rw [← v3_len]
    exact (List.getElem?_eq_some_iff.1 hu).1
  have hl := h.1
  have hh := v3_get l (j / 3) (by omega)
  have hcc := hc (j / 3) (by omega)
  rcases (by omega : j % 3 = 0 ∨ j % 3 = 1 ∨ j % 3 = 2) with e | e | e
  · rw [show j / 3 * 3 = j by omega] at hh hcc
    rw [hcc.1, ← hh.1, hu]
  · rw [show j / 3 * 3 + 1 = j by omega] at hh
    rw [show off + j / 3 * 3 + 1 = off + j by omega] at hcc
    rw [hcc.2.1, ← hh.2.1, hu]
  · rw [show j / 3 * 3 + 2 = j by omega] at hh
    rw [show off + j / 3 * 3 + 2 = off + j by omega] at hcc
    rw [hcc.2.2, ← hh.2.2, hu]
/-- 'append(l, m...)': the list of the call's own holds both; what lies below G is as it was. -/
theorem run_q {w : World} (ty : TypeId) (G : Nat) {ao ad : Option Addr} {co c n B : Nat} {l m : List Q.Sm} (hown : OwQ G w ao co l) (hm : Sms B w ad n m) (h63 : l.length + n ≤ 1000) (hbase : G ≤ w.heap.size) :
    ∃ a' c' w', (Builtin.append_ #[45, 45] ty #[.slice ao l.length co, .slice ad n c]).run Tryz.prog w = .ok (.slice a' (l.length + n) c') w' ∧ OwQ G w' a' c' (l ++ m) ∧ Below G w w' ∧ (∀ b, b < w.heap.size → (∀ x, ao = some x → x.block ≠ b) → w'.heap[b]? = w.heap[b]?) := by
  obtain ⟨i0, hi0, hz0, hz1, hz2⟩ := info_parts bucket_info
  have hl := hm.1
  rcases Nat.eq_zero_or_pos n with h0 | h0
  · subst h0
    obtain rfl : m = [] := List.length_eq_zero_iff.mp hl
    have hle : l.length ≤ co := (hown.sms (by omega)).2.1
    refine ⟨ao, co, w, ?_, by rw [List.append_nil]; exact hown, Below.refl _ _, fun _ _ _ => rfl⟩
    cases ad with
    | none => exact run_append_nothing w _ _ _ _ i0 Tryz.underlying45 hi0 ao _ co hle _ (Src.ofNil (w := w) Tryz.underlying45 c)
    | some x => exact run_append_nothing w _ _ _ _ i0 Tryz.underlying45 hi0 ao _ co hle _ (Src.ofSlice (w := w) Tryz.underlying45 x 0 c [] (by simp) (by simp) (by simp))
  · obtain ⟨b, off, rfl, hb, -⟩ := hm.at_ 0 h0
    obtain ⟨g, cap, w', hr, ho, hg, -, -⟩ := run_append_lies (P := Tryz.prog) w 45 ty G 116 i0 (.agg #[.int .i64 0, .int .i64 0, .int .i64 0]) 3 24 Tryz.underlying45 hi0 hz0 hz1 hz2 rfl (by decide) (.slice ao l.length co) l.length (v3 l) hown
      ⟨b, off, none⟩ n c (v3 m) (by rw [v3_len, hl]) (news_sms hm h0) (v3_one m) h0 (by unfold maxLen; omega) (by omega) hbase _ rfl
    refine ⟨_, _, w', hr, ?_, (Below.refl _ _).grown hg hbase (fun j hj => (World.ownsRow.lt hown j hj).1), fun j hj hne => hg.block j hj (fun e => by
      cases ao with
      | none => simp [Value.ownBlock] at e
      | some x => exact hne x rfl (by simpa [Value.ownBlock] using e.symm))⟩
    unfold OwQ
    rw [List.length_append, hl, ← v3_app]
    exact ho
theorem Sms.dropR {B b off : Nat} {w : World} {n : Nat} {l : List Q.Sm} (h : Sms B w (some ⟨b, off, none⟩) n l) (k : Nat) (hk : k ≤ n) : Sms B w (some ⟨b, off + k * 3, none⟩) (n - k) (l.drop k) := by
  refine ⟨by rw [List.length_drop, h.1], by have := h.2.1; omega, ?_⟩
  rcases Nat.eq_zero_or_pos (n - k) with h0 | h0
  · exact .inl h0
  · obtain ⟨b', off', e, hb, hc⟩ := h.at_ 0 (by omega)
    injection e with e; injection e with e1 e2
    subst e1; subst e2
    refine .inr ⟨b, off + k * 3, rfl, hb, fun i hi => ?_⟩
    have d : Q.of (l.drop k) i = Q.of l (k + i) ∧ Q.de (l.drop k) i = Q.de l (k + i) ∧ Q.tm (l.drop k) i = Q.tm l (k + i) := by
      unfold Q.of Q.de Q.tm
      rw [List.getD_eq_getElem?_getD, List.getD_eq_getElem?_getD, List.getElem?_drop]; exact ⟨rfl, rfl, rfl⟩
    rw [d.1, d.2.1, d.2.2]
    have := hc (k + i) (by omega)
    rw [show off + k * 3 + i * 3 = off + (k + i) * 3 by omega]
    exact this
/-- At the operation. -/
theorem wp_q {w : World} {o : Oper} {a : Act} {K : Act → World → Prop} {R : Exit → Act → World → Prop} (s x : Operand)
    (ho : o.op = .call { callee := .builtin .append, args := #[s, x], argTypes := #[45, 45] })
    (G : Nat) {ao ad : Option Addr} {co c n B : Nat} {l m : List Q.Sm} (hs : a.eval s = .slice ao l.length co) (hx : a.eval x = .slice ad n c) (hown : OwQ G w ao co l) (hm : Sms B w ad n m) (h63 : l.length + n ≤ 1000) (hbase : G ≤ w.heap.size) (X : List Q.Sm) (hX : l ++ m = X)
    (h : ∀ a' c' w', OwQ G w' a' c' X → Below G w w' → (∀ b, b < w.heap.size → (∀ x, ao = some x → x.block ≠ b) → w'.heap[b]? = w.heap[b]?) → K (a.put o.dst (.slice a' X.length c')) w') : o.wp Tryz.prog a w K R := by
  obtain ⟨a', c', w', hr, h2, h3, h4⟩ := run_q (c := c) o.type G hown hm h63 hbase
  have hlen : l.length + n = X.length := by rw [← hX, List.length_append, hm.1]
  rw [hlen] at hr
  subst hX
  unfold Oper.wp execOp
  simp only [ho, resolve, invoke, builtin, Sem.run_bind, Sem.run_pure, Result.andThen_ok, List.map_toArray, List.map_cons, List.map_nil, hs, hx, hr]
  exact h a' c' w' h2 h3 h4
/-- At a plain region's list. -/
theorem wpList_q {w : World} {ops : Array Oper} {rest : List Oper} {o : Oper} {a : Act} {R : Exit → Act → World → Prop} (hgd : o.guard = none) (s x : Operand)
    (ho : o.op = .call { callee := .builtin .append, args := #[s, x], argTypes := #[45, 45] })
    (G : Nat) {ao ad : Option Addr} {co c n B : Nat} {l m : List Q.Sm} (hs : a.eval s = .slice ao l.length co) (hx : a.eval x = .slice ad n c) (hown : OwQ G w ao co l) (hm : Sms B w ad n m) (h63 : l.length + n ≤ 1000) (hbase : G ≤ w.heap.size) (X : List Q.Sm) (hX : l ++ m = X)
    (h : ∀ a' c' w', OwQ G w' a' c' X → Below G w w' → (∀ b, b < w.heap.size → (∀ x, ao = some x → x.block ≠ b) → w'.heap[b]? = w.heap[b]?) → wpList Tryz.prog ops R rest (a.put o.dst (.slice a' X.length c')) w') : wpList Tryz.prog ops R (o :: rest) a w :=
  wpList_plain hgd fun _ hK => wp_q s x ho G hs hx hown hm h63 hbase X hX fun a' c' w' h2 h3 h4 => hK _ _ (h a' c' w' h2 h3 h4)
/-- At a step of a region that draws its order. -/
theorem step_q {w : World} {ops : Array Oper} {o : Oper} {a : Act} {K : Act → World → Prop} {R : Exit → Act → World → Prop} {E : Prop} (hgd : o.guard = none) (s x : Operand)
    (ho : o.op = .call { callee := .builtin .append, args := #[s, x], argTypes := #[45, 45] })
    (G : Nat) {ao ad : Option Addr} {co c n B : Nat} {l m : List Q.Sm} (hs : a.eval s = .slice ao l.length co) (hx : a.eval x = .slice ad n c) (hown : OwQ G w ao co l) (hm : Sms B w ad n m) (h63 : l.length + n ≤ 1000) (hbase : G ≤ w.heap.size) (X : List Q.Sm) (hX : l ++ m = X)
    (h : ∀ a' c' w', OwQ G w' a' c' X → Below G w w' → (∀ b, b < w.heap.size → (∀ x, ao = some x → x.block ≠ b) → w'.heap[b]? = w.heap[b]?) → K (a.put o.dst (.slice a' X.length c')) w') : if Region.wanted o (yielded ops a.tmps) = true then Oper.wp Tryz.prog o a w K R else E := by
  have hw : Region.wanted o (yielded ops a.tmps) = true := by simp [Region.wanted, hgd]
  rw [if_pos hw]
  exact wp_q s x ho G hs hx hown hm h63 hbase X hX h
end Go.Proofs.YtpfdjmffgbbmdaaGreatDoor
