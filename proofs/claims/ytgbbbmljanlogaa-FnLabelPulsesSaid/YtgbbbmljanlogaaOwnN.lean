/-
  A list of numbers of the call's own, and 'append' onto it of a list that lies in memory (an empty one too).
-/
import Derived.Test.YtgbbbmljanlogaaNums
import Derived.Deep.AppendLies
import Derived.WalkSpells
import Derived.Deep.Upon
namespace Go.Proofs.Ytgbbbmljanlogaa
open Go.RowKit
set_option linter.unusedVariables false
theorem valsC_app (l m : List Int) : valsC l ++ valsC m = valsC (l ++ m) := by simp [valsC]
theorem Nums.made (w : World) : Nums w.heap.size (w.alloc (.cells #[] 3)) (some ⟨w.heap.size, 0, none⟩) 0 [] :=
  World.ownsRow_made _ #[] 0 (Nat.le_refl _) (by unfold maxLen; omega) rfl
theorem Nums.le {B : Nat} {w : World} {a : Option Addr} {c : Nat} {l : List Int} (h : Nums B w a c l) : l.length ≤ c ∧ c ≤ maxLen ∧ (0 < l.length → ∀ x, a = some x → B ≤ x.block) := by
  rcases h.2 with ⟨hv, hn⟩ | ⟨g, cap, cur, hv, hb, hgg, hle, hcap, hcs, htk⟩
  · injection hv with e1 e2 e3
    subst e1 e3
    exact ⟨by omega, by unfold maxLen; omega, fun h => by omega⟩
  · injection hv with e1 e2 e3
    subst e1 e3
    exact ⟨hle, hcap, fun _ x hx => by injection hx with hx; subst hx; exact hb⟩
theorem Lst.one {w : World} {D : Nat} {x : Int} (h : w.cell? ⟨D, 0, none⟩ = some (.int .i64 x)) : Lst w.heap.size w (some ⟨D, 0, none⟩) 1 [x] :=
  ⟨rfl, by omega, .inr ⟨D, 0, rfl, World.block_lt_of_cell? _ _ h, fun i hi => by
    obtain rfl : i = 0 := by omega
    simpa [L.g] using h⟩⟩
theorem Lst.new (w : World) (x : Int) (t : TypeId) : Lst (w.heap.size + 1) (w.alloc (.cells #[.int .i64 x] t)) (some ⟨w.heap.size, 0, none⟩) 1 [x] := by
  have h : (w.alloc (.cells #[.int .i64 x] t)).cell? ⟨w.heap.size, 0, none⟩ = some (.int .i64 x) := by simp
  have := Lst.one h
  simpa using this
/-- The cells of a list that lies in memory, as 'append' takes them. -/
theorem news_lst {B : Nat} {w : World} {b off n : Nat} {l : List Int} (h : Lst B w (some ⟨b, off, none⟩) n l) (hn : 0 < n) : ∀ j u, (valsC l)[j]? = some u → w.cell? ((⟨b, off, none⟩ : Addr).add j) = some u := by
  intro j u hu
  obtain ⟨b', off', e, hb, hc⟩ := h.at_ 0 hn
  injection e with e
  injection e with e1 e2
  subst e1
  subst e2
  have hadd : (⟨b, off, none⟩ : Addr).add j = ⟨b, off + j, none⟩ := by unfold Addr.add; split <;> simp_all
  rw [hadd]
  have hj : j < l.length := by
    have := (List.getElem?_eq_some_iff.1 hu).1
    rwa [valsC_len] at this
  rw [hc j (by rw [← h.1]; exact hj), ← valsC_get l j hj, hu]
/-- 'append(l, m...)': the list of the call's own holds both; what lies below G is as it was. -/
theorem run_n {w : World} (ty : TypeId) (G : Nat) {ao ad : Option Addr} {co c n B : Nat} {l m : List Int} (hown : Nums G w ao co l) (hm : Lst B w ad n m) (h63 : l.length + n ≤ 4000000) (hbase : G ≤ w.heap.size) :
    ∃ a' c' w', (Builtin.append_ #[23, 23] ty #[.slice ao l.length co, .slice ad n c]).run Try.prog w = .ok (.slice a' (l.length + n) c') w' ∧ Nums G w' a' c' (l ++ m) ∧ Below G w w' ∧ (∀ b, b < w.heap.size → (∀ x, ao = some x → x.block ≠ b) → w'.heap[b]? = w.heap[b]?) := by
  obtain ⟨i0, hi0, hz0, hz1, hz2⟩ := info_parts intC_info
  have hl := hm.1
  rcases Nat.eq_zero_or_pos n with h0 | h0
  · subst h0
    obtain rfl : m = [] := List.length_eq_zero_iff.mp hl
    have hle : l.length ≤ co := hown.le.1
    refine ⟨ao, co, w, ?_, by rw [List.append_nil]; exact hown, Below.refl _ _, fun _ _ _ => rfl⟩
    cases ad with
    | none => exact run_append_nothing w _ _ _ _ i0 Try.underlying23 hi0 ao _ co hle _ (Src.ofNil (w := w) Try.underlying23 c)
    | some x => exact run_append_nothing w _ _ _ _ i0 Try.underlying23 hi0 ao _ co hle _ (Src.ofSlice (w := w) Try.underlying23 x 0 c [] (by simp) (by simp) (by simp))
  · obtain ⟨b, off, rfl, hb, -⟩ := hm.at_ 0 h0
    obtain ⟨g, cap, w', hr, ho, hg, -, -⟩ := run_append_lies (P := Try.prog) w 23 ty G 3 i0 (.int .i64 0) 1 8 Try.underlying23 hi0 hz0 hz1 hz2 rfl (by decide) (.slice ao l.length co) l.length (valsC l) hown
      ⟨b, off, none⟩ n c (valsC m) (by rw [valsC_len, hl]; omega) (news_lst hm h0) (valsC_oneC m) h0 (by unfold maxLen; omega) (by omega) hbase _ rfl
    refine ⟨_, _, w', hr, ?_, (Below.refl _ _).grown hg hbase (fun j hj => (World.ownsRow.lt hown j hj).1), fun j hj hne => hg.block j hj (fun e => by
      cases ao with
      | none => simp [Value.ownBlock] at e
      | some x => exact hne x rfl (by simpa [Value.ownBlock] using e.symm))⟩
    unfold Nums
    rw [List.length_append, hl, ← valsC_app]
    exact ho
/-- At the operation. -/
theorem wp_n {w : World} {o : Oper} {a : Act} {K : Act → World → Prop} {R : Exit → Act → World → Prop} (s x : Operand)
    (ho : o.op = .call { callee := .builtin .append, args := #[s, x], argTypes := #[23, 23] })
    (G : Nat) {ao ad : Option Addr} {co c n B : Nat} {l m : List Int} (hs : a.eval s = .slice ao l.length co) (hx : a.eval x = .slice ad n c) (hown : Nums G w ao co l) (hm : Lst B w ad n m) (h63 : l.length + n ≤ 4000000) (hbase : G ≤ w.heap.size) (X : List Int) (hX : l ++ m = X)
    (h : ∀ a' c' w', Nums G w' a' c' X → Below G w w' → (∀ b, b < w.heap.size → (∀ x, ao = some x → x.block ≠ b) → w'.heap[b]? = w.heap[b]?) → K (a.put o.dst (.slice a' X.length c')) w') : o.wp Try.prog a w K R := by
  obtain ⟨a', c', w', hr, h2, h3, h4⟩ := run_n (c := c) o.type G hown hm h63 hbase
  have hlen : l.length + n = X.length := by rw [← hX, List.length_append, hm.1]
  rw [hlen] at hr
  subst hX
  unfold Oper.wp execOp
  simp only [ho, resolve, invoke, builtin, Sem.run_bind, Sem.run_pure, Result.andThen_ok, List.map_toArray, List.map_cons, List.map_nil, hs, hx, hr]
  exact h a' c' w' h2 h3 h4
/-- At a plain region's list. -/
theorem wpList_n {w : World} {ops : Array Oper} {rest : List Oper} {o : Oper} {a : Act} {R : Exit → Act → World → Prop} (hgd : o.guard = none) (s x : Operand)
    (ho : o.op = .call { callee := .builtin .append, args := #[s, x], argTypes := #[23, 23] })
    (G : Nat) {ao ad : Option Addr} {co c n B : Nat} {l m : List Int} (hs : a.eval s = .slice ao l.length co) (hx : a.eval x = .slice ad n c) (hown : Nums G w ao co l) (hm : Lst B w ad n m) (h63 : l.length + n ≤ 4000000) (hbase : G ≤ w.heap.size) (X : List Int) (hX : l ++ m = X)
    (h : ∀ a' c' w', Nums G w' a' c' X → Below G w w' → (∀ b, b < w.heap.size → (∀ x, ao = some x → x.block ≠ b) → w'.heap[b]? = w.heap[b]?) → wpList Try.prog ops R rest (a.put o.dst (.slice a' X.length c')) w') : wpList Try.prog ops R (o :: rest) a w :=
  wpList_plain hgd fun _ hK => wp_n s x ho G hs hx hown hm h63 hbase X hX fun a' c' w' h2 h3 h4 => hK _ _ (h a' c' w' h2 h3 h4)
/-- At a step of a region that draws its order. -/
theorem step_n {w : World} {ops : Array Oper} {o : Oper} {a : Act} {K : Act → World → Prop} {R : Exit → Act → World → Prop} {E : Prop} (hgd : o.guard = none) (s x : Operand)
    (ho : o.op = .call { callee := .builtin .append, args := #[s, x], argTypes := #[23, 23] })
    (G : Nat) {ao ad : Option Addr} {co c n B : Nat} {l m : List Int} (hs : a.eval s = .slice ao l.length co) (hx : a.eval x = .slice ad n c) (hown : Nums G w ao co l) (hm : Lst B w ad n m) (h63 : l.length + n ≤ 4000000) (hbase : G ≤ w.heap.size) (X : List Int) (hX : l ++ m = X)
    (h : ∀ a' c' w', Nums G w' a' c' X → Below G w w' → (∀ b, b < w.heap.size → (∀ x, ao = some x → x.block ≠ b) → w'.heap[b]? = w.heap[b]?) → K (a.put o.dst (.slice a' X.length c')) w') : if Region.wanted o (yielded ops a.tmps) = true then Oper.wp Try.prog o a w K R else E := by
  have hw : Region.wanted o (yielded ops a.tmps) = true := by simp [Region.wanted, hgd]
  rw [if_pos hw]
  exact wp_n s x ho G hs hx hown hm h63 hbase X hX h
/-- A list of the call's own is handed back. -/
def Told (w : World) (l : List Int) (e : Ending) (w' : World) : Prop := ∃ a c, e = .returned (.slice a l.length c) ∧ Nums w.heap.size w' a c l ∧ Below w.heap.size w w'
theorem Told.nil {w w' : World} (h : Below w.heap.size w w') : Told w [] (.returned (.slice none 0 0)) w' := ⟨none, 0, rfl, Nums.none_ _ _, h⟩
theorem cell_al {w : World} (o : Obj) {b j : Nat} {x : Value} (h : w.cell? ⟨b, j, none⟩ = some x) : (w.alloc o).cell? ⟨b, j, none⟩ = some x :=
  (((Below.refl w.heap.size w).alloc (Nat.le_refl _) o).cell (p := ⟨b, j, none⟩) (World.block_lt_of_cell? _ _ h)).trans h
end Go.Proofs.Ytgbbbmljanlogaa
